import Derived.Test.YtdbboaebigpkoaaGreatDoorVcA
namespace Go.Proofs.YtdbboaebigpkoaaGreatDoor
open Go.RowKit
set_option linter.unusedVariables false
set_option linter.unusedSimpArgs false

theorem bl_irrefl : ∀ x : List UInt8, Op.bytesLess x x = false
  | [] => rfl
  | a :: x => by simp [Op.bytesLess, bl_irrefl x]
theorem bl_total : ∀ x y : List UInt8, Op.bytesLess x y = false → (x == y) = false → Op.bytesLess y x = true
  | [], [] => by simp
  | [], _ :: _ => by simp [Op.bytesLess]
  | _ :: _, [] => by simp [Op.bytesLess]
  | a :: x, b :: y => by
    intro h1 h2
    simp only [Op.bytesLess, Bool.or_eq_false_iff, decide_eq_false_iff_not] at h1
    simp only [Op.bytesLess, Bool.or_eq_true, decide_eq_true_eq]
    by_cases hab : a = b
    · subst hab
      right
      have h3 : Op.bytesLess x y = false := by simpa using h1.2
      have h4 : (x == y) = false := by simpa using h2
      simp [bl_total x y h3 h4]
    · left
      have := h1.1
      rw [UInt8.lt_iff_toNat_lt] at this ⊢
      have hne : a.toNat ≠ b.toNat := fun h => hab (UInt8.toNat_inj.1 h)
      omega
theorem bl_trans : ∀ x y z : List UInt8, Op.bytesLess x y = true → Op.bytesLess y z = true → Op.bytesLess x z = true
  | [], y, [] => by intro _ h; cases y <;> simp [Op.bytesLess] at h
  | [], _, _ :: _ => by simp [Op.bytesLess]
  | _ :: _, [], _ => by simp [Op.bytesLess]
  | _ :: _, _ :: _, [] => by simp [Op.bytesLess]
  | a :: x, b :: y, c :: z => by
    intro h1 h2
    simp only [Op.bytesLess, Bool.or_eq_true, decide_eq_true_eq, Bool.and_eq_true, beq_iff_eq] at h1 h2 ⊢
    rcases h1 with h1 | ⟨e1, h1⟩
    · rcases h2 with h2 | ⟨e2, h2⟩
      · left; rw [UInt8.lt_iff_toNat_lt] at *; omega
      · left; rw [← e2]; exact h1
    · subst e1
      rcases h2 with h2 | ⟨e2, h2⟩
      · left; exact h2
      · right; exact ⟨e2, bl_trans x y z h1 h2⟩

def eqV (a b : V) : Bool := eqB a.k a.n a.s b.k b.n b.s
def ltW (a b : V) : Bool := ltV a.k a.n a.s b.k b.n b.s
theorem str_inj {s t : ByteArray} (h : s.toList = t.toList) : s = t := by
  rw [ByteArray.toList_eq, ByteArray.toList_eq] at h
  apply ByteArray.ext
  exact Array.toList_inj.1 h
theorem eqV_iff (a b : V) : eqV a b = true ↔ a = b := by
  obtain ⟨k1, n1, s1⟩ := a
  obtain ⟨k2, n2, s2⟩ := b
  unfold eqV eqB
  simp only [Bool.and_eq_true, beq_iff_eq, V.mk.injEq]
  exact ⟨fun ⟨h1, h2, h3⟩ => ⟨h1, h2, str_inj h3⟩, fun ⟨h1, h2, h3⟩ => ⟨h1, h2, by rw [h3]⟩⟩
theorem ltW_irrefl (a : V) : ltW a a = false := by unfold ltW ltV; simp [bl_irrefl]
theorem ltW_tri (a b : V) (h1 : ltW a b = false) (h2 : ltW b a = false) : a = b := by
  obtain ⟨k1, n1, s1⟩ := a
  obtain ⟨k2, n2, s2⟩ := b
  unfold ltW ltV at h1 h2
  simp only at h1 h2
  by_cases e1 : k1 = k2
  · subst e1
    by_cases e2 : n1 = n2
    · subst e2
      simp at h1 h2
      cases he : (s1.toList == s2.toList)
      · rw [bl_total _ _ h1 he] at h2; cases h2
      · have hs : s1 = s2 := str_inj (by simpa using he)
        rw [hs]
    · have e2' : ¬ n2 = n1 := fun e => e2 e.symm
      simp [e2, e2'] at h1 h2
      omega
  · have e1' : ¬ k2 = k1 := fun e => e1 e.symm
    simp [e1, e1'] at h1 h2
    omega
theorem ltW_trans (a b c : V) (h1 : ltW a b = true) (h2 : ltW b c = true) : ltW a c = true := by
  obtain ⟨k1, n1, s1⟩ := a
  obtain ⟨k2, n2, s2⟩ := b
  obtain ⟨k3, n3, s3⟩ := c
  unfold ltW ltV at *
  simp only at *
  by_cases e1 : k1 = k2
  · subst e1
    by_cases e2 : k1 = k3
    · subst e2
      simp at h1 h2 ⊢
      by_cases e3 : n1 = n2
      · subst e3
        by_cases e4 : n1 = n3
        · subst e4
          simp at h1 h2 ⊢
          exact bl_trans _ _ _ h1 h2
        · simp [e4] at h1 h2 ⊢
          exact h2
      · simp [e3] at h1
        by_cases e4 : n2 = n3
        · subst e4
          simp [e3]; exact h1
        · simp [e4] at h2
          have : ¬ n1 = n3 := by omega
          simp [this]; omega
    · simp [e2] at h2 ⊢
      exact h2
  · simp [e1] at h1
    by_cases e2 : k2 = k3
    · subst e2
      simp [e1]; exact h1
    · simp [e2] at h2
      have : ¬ k1 = k3 := by omega
      simp [this]; omega
theorem cmp_lt (a b : V) : decide (cmpV a.k a.n a.s b.k b.n b.s < 0) = ltW a b := by
  unfold cmpV cmpS ltW ltV
  by_cases h1 : a.k < b.k
  · simp [h1, show ¬ a.k = b.k by omega]
  · by_cases h2 : b.k < a.k
    · simp [h1, h2, show ¬ a.k = b.k by omega]
    · have e : a.k = b.k := by omega
      by_cases h3 : a.n < b.n
      · simp [h1, h2, h3, e, show ¬ a.n = b.n by omega]
      · by_cases h4 : b.n < a.n
        · simp [h1, h2, h3, h4, e, show ¬ a.n = b.n by omega]
        · have e' : a.n = b.n := by omega
          cases hb : Op.bytesLess a.s.toList b.s.toList
          · cases he : (a.s.toList == b.s.toList) <;> simp [h1, h2, h3, h4, e, e']
          · simp [h1, h2, h3, h4, e, e']

/-- A value with its time. -/
structure Tm where
  t : Int
  v : V
def v0 : V := ⟨0, 0, ⟨#[]⟩⟩
def t0 : Tm := ⟨0, v0⟩
/-- Does the second one take the place of the first? -/
def bet (kind : Int) (a b : Tm) : Bool :=
  if kind = 3 then ltW b.v a.v else if kind = 4 then ltW a.v b.v
  else if kind = 5 then decide (b.t < a.t) || (decide (b.t = a.t) && ltW b.v a.v)
  else decide (a.t < b.t) || (decide (a.t = b.t) && ltW a.v b.v)
def pickF (kind : Int) (x one : Tm) : Tm := if one.v.k ≠ 0 ∧ (x.v.k = 0 ∨ bet kind x one = true) then one else x
def pickS (kind : Int) (l : List Tm) : Tm := l.foldl (pickF kind) t0
def nn (l : List Tm) : List Tm := l.filter fun o => o.v.k != 0
def overF (kind : Int) (x y : Tm) : Tm := if bet kind x y = true then y else x
def over (kind : Int) : List Tm → Tm
  | [] => t0
  | x :: r => r.foldl (overF kind) x
theorem pick_on (kind : Int) : ∀ (l : List Tm) (x : Tm), x.v.k ≠ 0 → l.foldl (pickF kind) x = (nn l).foldl (overF kind) x ∧ ((nn l).foldl (overF kind) x).v.k ≠ 0
  | [], x, h => ⟨rfl, h⟩
  | y :: l, x, h => by
    by_cases hy : y.v.k = 0
    · have e : nn (y :: l) = nn l := by simp [nn, hy]
      rw [e, List.foldl_cons, show pickF kind x y = x by simp [pickF, hy]]
      exact pick_on kind l x h
    · have e : nn (y :: l) = y :: nn l := by simp [nn, hy]
      rw [e, List.foldl_cons, List.foldl_cons, show pickF kind x y = overF kind x y by simp [pickF, overF, hy, h]]
      exact pick_on kind l _ (by unfold overF; split <;> assumption)
theorem pick_over (kind : Int) : ∀ l : List Tm, pickS kind l = over kind (nn l)
  | [] => rfl
  | y :: l => by
    by_cases hy : y.v.k = 0
    · have e : nn (y :: l) = nn l := by simp [nn, hy]
      unfold pickS
      rw [e, List.foldl_cons, show pickF kind t0 y = t0 by simp [pickF, hy]]
      exact pick_over kind l
    · have e : nn (y :: l) = y :: nn l := by simp [nn, hy]
      unfold pickS
      rw [e, List.foldl_cons, show pickF kind t0 y = y by simp [pickF, hy, t0, v0]]
      exact (pick_on kind l y hy).1
def sumF (s : V) (o : Tm) : V := if o.v.k = 1 then ⟨1, wrap64 (s.n + o.v.n), ⟨#[]⟩⟩ else s
def sumS (l : List Tm) : V := l.foldl sumF v0
def dstF (acc : List V) (v : V) : List V := if acc.any (eqV v) then acc else acc ++ [v]
def dst (l : List V) : List V := l.foldl dstF []
/-- What values come to. -/
def foldV (kind : Int) (l : List Tm) : V :=
  if kind = 1 then ⟨1, l.length, ⟨#[]⟩⟩ else if kind = 2 then sumS l else if kind = 7 then ⟨1, (dst ((nn l).map (·.v))).length, ⟨#[]⟩⟩ else (pickS kind l).v
theorem any_eqV (v : V) (l : List V) : l.any (eqV v) = true ↔ v ∈ l := by
  rw [List.any_eq_true]
  exact ⟨fun ⟨x, h1, h2⟩ => by rw [(eqV_iff v x).1 h2]; exact h1, fun h => ⟨v, h, (eqV_iff v v).2 rfl⟩⟩
theorem dstF_mem (acc : List V) (v x : V) : x ∈ dstF acc v ↔ x ∈ acc ∨ x = v := by
  unfold dstF
  cases h : acc.any (eqV v)
  · simp
  · simp only [if_true]
    exact ⟨.inl, fun h' => h'.elim id fun e => by rw [e]; exact (any_eqV v acc).1 h⟩
theorem dst_fold : ∀ (l acc : List V), acc.Nodup → (l.foldl dstF acc).Nodup ∧ ∀ x, x ∈ l.foldl dstF acc ↔ x ∈ acc ∨ x ∈ l
  | [], acc, h => ⟨h, fun x => by simp⟩
  | v :: l, acc, h => by
    have hn : (dstF acc v).Nodup := by
      unfold dstF
      cases h' : acc.any (eqV v)
      · simp only [Bool.false_eq_true, if_false]
        rw [List.nodup_append]
        refine ⟨h, by simp, fun a ha b hb e => ?_⟩
        rw [List.mem_singleton.1 hb] at e
        rw [← e, (any_eqV a acc).2 ha] at h'
        cases h'
      · exact h
    obtain ⟨h1, h2⟩ := dst_fold l (dstF acc v) hn
    refine ⟨h1, fun x => ?_⟩
    rw [List.foldl_cons, h2, dstF_mem, List.mem_cons]
    exact ⟨fun h => h.elim (fun h => h.elim .inl fun h => .inr (.inl h)) fun h => .inr (.inr h), fun h => h.elim (fun h => .inl (.inl h)) fun h => h.elim (fun h => .inl (.inr h)) .inr⟩
theorem dst_mem (l : List V) (x : V) : x ∈ dst l ↔ x ∈ l := by
  have := (dst_fold l [] List.nodup_nil).2 x
  simpa [dst] using this
theorem dst_nodup (l : List V) : (dst l).Nodup := (dst_fold l [] List.nodup_nil).1
theorem dst_snoc (l : List V) (v : V) : dst (l ++ [v]) = dstF (dst l) v := by simp [dst, List.foldl_append]
theorem dst_len (l : List V) : (dst l).length ≤ l.length := by
  have : ∀ (l acc : List V), (l.foldl dstF acc).length ≤ acc.length + l.length := by
    intro l
    induction l with
    | nil => intro acc; simp
    | cons v l ih =>
      intro acc
      have := ih (dstF acc v)
      have h2 : (dstF acc v).length ≤ acc.length + 1 := by unfold dstF; split <;> simp
      rw [List.foldl_cons, List.length_cons]
      omega
  simpa [dst] using this l []
theorem nn_snoc (l : List Tm) (o : Tm) : nn (l ++ [o]) = if o.v.k = 0 then nn l else nn l ++ [o] := by
  unfold nn
  rw [List.filter_append]
  by_cases h : o.v.k = 0 <;> simp [h]
end Go.Proofs.YtdbboaebigpkoaaGreatDoor
