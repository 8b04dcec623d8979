import Derived.Maps.OwnSet
import Derived.Test.YtobhccmnlmlapaaGreatDoorGb
import Derived.DeepKeys5
import Derived.Deep.LoopGhost
import Derived.Sort.AtCall
import Derived.Deep.RegionWith
import Derived.Deep.RegionHeld3
import Derived.Deep.QuietTactic
import Derived.BigQuiet
namespace Go.Proofs.YtobhccmnlmlapaaGreatDoor
open Go.RowKit Go.Maps Go.WideShapes
set_option linter.unusedVariables false
set_option linter.unusedSimpArgs false
set_option linter.unusedSectionVars false

/-- What is held in a map is read as it is. -/
def heldE (v : Value) : Option (DataW Value × List MemPlace) := some (.held v, [])

/-- Keys of one type: their values, and what they are read as. -/
structure KeyKind (P : Program) (k : TypeId) (κ : Type) where
  kv : κ → Value
  kl : κ → Lit
  ok : κ → Prop
  key : ∀ x, ok x → keyOf P k (kv x) = some (kl x)
  inj : ∀ x y, ok x → ok y → kl x = kl y → x = y

variable {P : Program} {k : TypeId} {κ : Type} [DecidableEq κ]

def mpOf (kd : KeyKind P k κ) (m : List (κ × Value)) : List (Lit × DataW Value) := m.map fun p => (kd.kl p.1, .held p.2)

/-- Block b is a map with just these entries. -/
def MP (w : World) (kd : KeyKind P k κ) (b : Nat) (m : List (κ × Value)) : Prop :=
  ∃ es, w.ownsMap P k heldE b m.length (.map es) ∧ es.Perm (mpOf kd m) ∧ (∀ p ∈ m, kd.ok p.1) ∧ (m.map (·.1)).Nodup

def fnd (m : List (κ × Value)) (x : κ) : Option Value := (m.find? fun p => decide (p.1 = x)).map (·.2)
def del (m : List (κ × Value)) (x : κ) : List (κ × Value) := m.filter fun p => !decide (p.1 = x)
def put (m : List (κ × Value)) (x : κ) (v : Value) : List (κ × Value) := if x ∈ m.map (·.1) then m.map (fun p => if p.1 = x then (x, v) else p) else m ++ [(x, v)]

theorem fnd_none {m : List (κ × Value)} {x : κ} : fnd m x = none ↔ x ∉ m.map (·.1) := by
  simp only [fnd, Option.map_eq_none_iff, List.find?_eq_none, List.mem_map, not_exists, not_and, decide_eq_true_eq]
theorem fnd_mem {m : List (κ × Value)} {x : κ} {v : Value} (h : fnd m x = some v) : (x, v) ∈ m := by
  unfold fnd at h
  obtain ⟨p, hp, rfl⟩ := Option.map_eq_some_iff.1 h
  have h1 := List.mem_of_find?_eq_some hp
  have h2 := List.find?_some hp
  simp only [decide_eq_true_eq] at h2
  rw [← h2]; exact h1
theorem fnd_of {m : List (κ × Value)} {x : κ} {v : Value} (hn : (m.map (·.1)).Nodup) (h : (x, v) ∈ m) : fnd m x = some v := by
  induction m with
  | nil => cases h
  | cons p m ih =>
    simp only [List.map_cons, List.nodup_cons] at hn
    unfold fnd
    rw [List.find?_cons]
    by_cases hp : p.1 = x
    · simp only [hp, decide_true, Option.map_some]
      rcases List.mem_cons.1 h with rfl | h
      · rfl
      · exact absurd (List.mem_map.2 ⟨_, h, rfl⟩) (hp ▸ hn.1)
    · simp only [hp, decide_false]
      rcases List.mem_cons.1 h with rfl | h
      · exact absurd rfl hp
      · exact ih hn.2 h
theorem len_put {m : List (κ × Value)} {x : κ} {v : Value} : (put m x v).length ≤ m.length + 1 := by
  unfold put; split <;> simp
theorem put_perm {m : List (κ × Value)} (x : κ) (v : Value) (hn : (m.map (·.1)).Nodup) : (put m x v).Perm ((x, v) :: del m x) := by
  unfold put
  split
  · rename_i h
    induction m with
    | nil => simp at h
    | cons p m ih =>
      simp only [List.map_cons, List.nodup_cons, List.mem_cons] at hn h
      by_cases hp : p.1 = x
      · have hx : x ∉ m.map (·.1) := hp ▸ hn.1
        have e1 : m.map (fun p => if p.1 = x then (x, v) else p) = m := by
          refine (List.map_congr_left fun q hq => ?_).trans (List.map_id m)
          exact if_neg fun e => hx (List.mem_map.2 ⟨q, hq, e⟩)
        have e2 : del m x = m := List.filter_eq_self.2 fun q hq => by
          simp only [Bool.not_eq_true', decide_eq_false_iff_not]
          exact fun e => hx (List.mem_map.2 ⟨q, hq, e⟩)
        have e3 : del (p :: m) x = m := by unfold del; rw [List.filter_cons]; simp only [hp, decide_true]; exact e2
        rw [e3, List.map_cons, if_pos hp, e1]
      · have hm : x ∈ m.map (·.1) := by
          rcases h with h | h
          · exact absurd h.symm hp
          · exact h
        have e3 : del (p :: m) x = p :: del m x := by unfold del; rw [List.filter_cons]; simp [hp]
        rw [e3, List.map_cons, if_neg hp]
        exact ((ih hn.2 hm).cons p).trans (List.Perm.swap _ _ _)
  · rename_i h
    have e2 : del m x = m := List.filter_eq_self.2 fun q hq => by
      simp only [Bool.not_eq_true', decide_eq_false_iff_not]
      exact fun e => h (List.mem_map.2 ⟨q, hq, e⟩)
    rw [e2]
    exact List.perm_append_singleton _ _
theorem del_nodup {m : List (κ × Value)} (x : κ) (hn : (m.map (·.1)).Nodup) : ((del m x).map (·.1)).Nodup := hn.sublist ((List.filter_sublist).map _)
theorem del_notin {m : List (κ × Value)} (x : κ) : x ∉ (del m x).map (·.1) := by
  intro h
  obtain ⟨q, hq, e⟩ := List.mem_map.1 h
  have := (List.mem_filter.1 hq).2
  simp [e] at this
theorem put_nodup {m : List (κ × Value)} (x : κ) (v : Value) (hn : (m.map (·.1)).Nodup) : ((put m x v).map (·.1)).Nodup := by
  rw [((put_perm x v hn).map _).nodup_iff]
  exact List.nodup_cons.2 ⟨del_notin x, del_nodup x hn⟩

section
variable {kd : KeyKind P k κ} {w : World} {b : Nat} {m : List (κ × Value)}

theorem MP.lt (h : MP w kd b m) : b < w.heap.size := by obtain ⟨es, h1, _⟩ := h; exact h1.lt
theorem MP.nodup (h : MP w kd b m) : (m.map (·.1)).Nodup := by obtain ⟨es, _, _, _, h⟩ := h; exact h
theorem MP.ok (h : MP w kd b m) : ∀ p ∈ m, kd.ok p.1 := by obtain ⟨es, _, _, h, _⟩ := h; exact h
theorem MP.made (w : World) (kd : KeyKind P k κ) : MP (w.alloc (.map #[] 0)) kd w.heap.size [] :=
  ⟨[], World.ownsMap_made w P k heldE, List.Perm.refl _, (fun p hp => by cases hp), List.nodup_nil⟩
theorem MP.kept {w' : World} {row : Option Nat} (h : MP w kd b m) (hg : w.grownBy w' row) (hne : some b ≠ row) : MP w' kd b m := by
  obtain ⟨es, h1, h2⟩ := h
  exact ⟨es, h1.kept hg hne, h2⟩
theorem MP.perm {m' : List (κ × Value)} (h : MP w kd b m) (hp : m.Perm m') : MP w kd b m' := by
  obtain ⟨es, h1, h2, h3, h4⟩ := h
  refine ⟨es, hp.length_eq ▸ h1, h2.trans (hp.map _), fun p hp' => h3 p (hp.mem_iff.2 hp'), ?_⟩
  rw [← (hp.map (·.1)).nodup_iff]; exact h4

theorem find_mp {es : List (Lit × DataW Value)} (K : Keyed P k) (hes : es.Perm (mpOf kd m)) (hok : ∀ p ∈ m, kd.ok p.1) (hn : (m.map (·.1)).Nodup) {x : κ} (hx : kd.ok x) : es.find? (fun p => p.1.sameKey (kd.kl x)) = (fnd m x).map fun v => (kd.kl x, .held v) := by
  cases hf : fnd m x with
  | none =>
    refine List.find?_eq_none.2 fun p hp => ?_
    obtain ⟨q, hq, rfl⟩ := List.mem_map.1 (hes.mem_iff.1 hp)
    have hne : q.1 ≠ x := fun e => fnd_none.1 hf (List.mem_map.2 ⟨q, hq, e⟩)
    rw [sameKey_ne fun e => hne (kd.inj _ _ (hok q hq) hx e)]
    decide
  | some v =>
    have hm : (kd.kl x, DataW.held v) ∈ es := hes.mem_iff.2 (List.mem_map.2 ⟨(x, v), fnd_mem hf, rfl⟩)
    have hs : es.find? (fun p => p.1.sameKey (kd.kl x)) ≠ none := fun h => by
      have := List.find?_eq_none.1 h _ hm
      exact this (WideAt.sameKey_self (K.key (kd.key x hx)))
    cases hy : es.find? (fun p => p.1.sameKey (kd.kl x)) with
    | none => exact absurd hy hs
    | some y =>
      obtain ⟨q, hq, rfl⟩ := List.mem_map.1 (hes.mem_iff.1 (List.mem_of_find?_eq_some hy))
      have h0 := List.find?_some hy
      have h1 := WideAt.sameKey_eq h0
      have h2 : q.1 = x := kd.inj _ _ (hok q hq) hx h1
      have h3 : fnd m x = some q.2 := fnd_of hn (h2 ▸ hq)
      rw [hf] at h3
      rw [Option.map_some, Option.some.inj h3, ← h2]

/-- 'v, ok := m[k]'. -/
theorem MP.look (h : MP w kd b m) (K : Keyed P k) {t e : TypeId} (ht : P.underlying t = some (.map k e)) {z : Value} (hz : (zeroValue e).run P w = .ok z w) (x : κ) (hx : kd.ok x) :
    (Instr.lookup t (.map (some b)) (kd.kv x) true).run P w = .ok (.tuple #[(fnd m x).getD z, .bool (fnd m x).isSome]) w := by
  obtain ⟨es, h1, h2, h3, h4⟩ := h
  obtain ⟨v, ps, hrun, hv⟩ := h1.look_ok K ht hz (zd := .held z) (zp := []) rfl (kd.key x hx)
  have hf := find_mp K h2 h3 h4 hx
  have e1 : has (DataW.map es) (kd.kl x) = (fnd m x).isSome := by
    rw [has_eq, Bool.eq_iff_iff, List.any_eq_true, ← List.find?_isSome, hf, Option.isSome_map]
  have e2 : (DataW.map es).atKey (kd.kl x) (.held z) = .held ((fnd m x).getD z) := by
    simp only [DataW.atKey, hf]
    cases fnd m x <;> rfl
  rw [e2] at hv
  simp only [heldE, Option.some.injEq, Prod.mk.injEq, DataW.held.injEq] at hv
  rw [hrun, e1, hv.1]
theorem MP.look1 (h : MP w kd b m) (K : Keyed P k) {t e : TypeId} (ht : P.underlying t = some (.map k e)) {z : Value} (hz : (zeroValue e).run P w = .ok z w) (x : κ) (hx : kd.ok x) :
    (Instr.lookup t (.map (some b)) (kd.kv x) false).run P w = .ok ((fnd m x).getD z) w := by
  obtain ⟨es, h1, h2, h3, h4⟩ := h
  obtain ⟨v, ps, hrun, hv⟩ := h1.lookup K ht hz (zd := .held z) (zp := []) rfl (kd.key x hx)
  have hf := find_mp K h2 h3 h4 hx
  have e2 : (DataW.map es).atKey (kd.kl x) (.held z) = .held ((fnd m x).getD z) := by
    simp only [DataW.atKey, hf]
    cases fnd m x <;> rfl
  rw [e2] at hv
  simp only [heldE, Option.some.injEq, Prod.mk.injEq, DataW.held.injEq] at hv
  rw [hrun, hv.1]

theorem filter_mp (es : List (Lit × DataW Value)) (K : Keyed P k) (hes : es.Perm (mpOf kd m)) (hok : ∀ p ∈ m, kd.ok p.1) {x : κ} (hx : kd.ok x) : (es.filter fun p => !p.1.sameKey (kd.kl x)).Perm (mpOf kd (del m x)) := by
  refine (hes.filter _).trans ?_
  unfold mpOf del
  rw [List.filter_map]
  refine (List.Perm.of_eq ?_)
  congr 1
  refine List.filter_congr fun q hq => ?_
  simp only [Function.comp]
  by_cases e : q.1 = x
  · simp [e, WideAt.sameKey_self (K.key (kd.key x hx))]
  · simp [e, sameKey_ne fun e' => e (kd.inj _ _ (hok q hq) hx e')]

/-- A bound of the entries is how many there are. -/
theorem owns_tight {n : Nat} {es : List (Lit × DataW Value)} (h : w.ownsMap P k heldE b n (.map es)) : w.ownsMap P k heldE b es.length (.map es) := by
  obtain ⟨a, c, h1, h2, h3, h4⟩ := h
  refine ⟨a, c, h1, h2, ?_, h4⟩
  injection h4 with h4
  rw [h4, length_sorted]; simp

/-- 'm[k] = v'. -/
theorem MP.store (h : MP w kd b m) (K : Keyed P k) {t e : TypeId} (ht : P.underlying t = some (.map k e)) (x : κ) (hx : kd.ok x) (v : Value) (hn : m.length < maxLen) :
    ∃ w', (Instr.mapUpdate t (.map (some b)) (kd.kv x) v).run P w = .ok () w' ∧ MP w' kd b (put m x v) ∧ w.mapTurned w' b := by
  obtain ⟨es, h1, h2, h3, h4⟩ := h
  obtain ⟨w', hrun, ho, ht'⟩ := h1.store K ht hn (kd.key x hx) (val := v) (d := .held v) (ps := []) rfl
  refine ⟨w', hrun, ?_, ht'⟩
  have hp : (DataW.insert (kd.kl x, .held v) (es.filter fun p => !p.1.sameKey (kd.kl x))).Perm (mpOf kd (put m x v)) := by
    refine (insert_perm _ _).trans (((filter_mp es K h2 h3 hx).cons _).trans ?_)
    exact ((put_perm x v h4).map (fun p => (kd.kl p.1, DataW.held p.2))).symm
  have ho' := owns_tight (es := DataW.insert (kd.kl x, .held v) (es.filter fun p => !p.1.sameKey (kd.kl x))) ho
  refine ⟨_, ?_, hp, ?_, put_nodup x v h4⟩
  · rw [hp.length_eq] at ho'; unfold mpOf at ho'; rw [List.length_map] at ho'; exact ho'
  · intro p hp'
    rcases List.mem_cons.1 ((put_perm x v h4).mem_iff.1 hp') with rfl | hp'
    · exact hx
    · exact h3 p (List.mem_filter.1 hp').1

/-- 'delete(m, k)'. -/
theorem MP.drop (h : MP w kd b m) (K : Keyed P k) {t e : TypeId} (ht : P.underlying t = some (.map k e)) (x : κ) (hx : kd.ok x) (ty : TypeId) :
    ∃ w', (Builtin.delete_ #[t, k] ty #[.map (some b), kd.kv x]).run P w = .ok (.tuple #[]) w' ∧ MP w' kd b (del m x) ∧ w.mapTurned w' b := by
  obtain ⟨es, h1, h2, h3, h4⟩ := h
  obtain ⟨w', hrun, ho, ht'⟩ := h1.drop K ht (kd.key x hx) ty
  refine ⟨w', hrun, ?_, ht'⟩
  have hp := filter_mp es K h2 h3 hx
  have ho' := owns_tight (es := es.filter fun p => !p.1.sameKey (kd.kl x)) ho
  refine ⟨_, ?_, hp, fun p hp' => h3 p (List.mem_filter.1 hp').1, del_nodup x h4⟩
  rw [hp.length_eq] at ho'; unfold mpOf at ho'; rw [List.length_map] at ho'; exact ho'
end

/-- Keys that are texts. -/
def strKey {P : Program} {k : TypeId} (hk : P.underlying k = some .string) : KeyKind P k ByteArray where
  kv s := .string s
  kl s := .string s.data.toList
  ok s := s.size ≤ maxLen
  key s hs := by simp [keyOf, hk, mapKey, hs]
  inj x y _ _ h := by
    injection h with h
    cases x; cases y
    simp only at h
    congr 1
    exact Array.toList_inj.1 h
end Go.Proofs.YtobhccmnlmlapaaGreatDoor
namespace Go.Proofs.YtobhccmnlmlapaaGreatDoor
open Go.RowKit Go.Maps
set_option linter.unusedVariables false
set_option linter.unusedSimpArgs false
set_option maxRecDepth 100000

theorem hidMk {p : Prop} (h : p) : Hid p := h
theorem w64 {x : Int} (h1 : -9223372036854775808 ≤ x) (h2 : x < 9223372036854775808) : wrap64 x = x := by
  unfold wrap64
  omega
theorem wi64 {x : Int} (h1 : -9223372036854775808 ≤ x) (h2 : x < 9223372036854775808) : IntKind.i64.wrap x = x := by
  simp [IntKind.wrap, IntKind.bits, IntKind.signed]
  omega
theorem below_drewN {B : Nat} {w0 w : World} (h : Below B w0 w) (n : Nat) : Below B w0 (w.drewN n) := ⟨h.os, h.tape, h.output, h.size, h.block⟩
theorem xent {f : FuncId} {fn : Func} {c : Code} (hf : Tryz.prog.funcs[f]? = some fn) (hname : (fn.name == "runtime.NumGoroutine") = false) (hb : fn.body = some c) (args : Array Value) (w : World) :
    (callFunc f args).run Tryz.prog w = .ok (.enter f args) w := by
  have h1 : fn.name ≠ "runtime.NumGoroutine" := by simpa using hname
  simp [callFunc, hf, h1, hb]
/-- Nothing but the blocks of S has turned. -/
structure Gs (S : Nat → Prop) (w w' : World) : Prop where
  os : w'.os = w.os
  tape : w'.tape = w.tape
  output : w'.output = w.output
  size : w.heap.size ≤ w'.heap.size
  block : ∀ i, i < w.heap.size → ¬ S i → w'.heap[i]? = w.heap[i]?
theorem Gs.refl (S : Nat → Prop) (w : World) : Gs S w w := ⟨rfl, rfl, rfl, Nat.le_refl _, fun _ _ _ => rfl⟩
theorem Gs.trans {S : Nat → Prop} {a b c : World} (h : Gs S a b) (k : Gs S b c) : Gs S a c :=
  ⟨k.os.trans h.os, k.tape.trans h.tape, k.output.trans h.output, Nat.le_trans h.size k.size, fun i hi hn => (k.block i (Nat.lt_of_lt_of_le hi h.size) hn).trans (h.block i hi hn)⟩
/-- What is new since 'a' may turn. -/
theorem Gs.new {S T : Nat → Prop} {a b c : World} (h : Gs S a b) (k : Gs T b c) (hT : ∀ i, T i → i < a.heap.size → S i) : Gs S a c :=
  ⟨k.os.trans h.os, k.tape.trans h.tape, k.output.trans h.output, Nat.le_trans h.size k.size, fun i hi hn => (k.block i (Nat.lt_of_lt_of_le hi h.size) (fun t => hn (hT i t hi))).trans (h.block i hi hn)⟩
theorem Gs.mono {S T : Nat → Prop} {a b : World} (h : Gs S a b) (hT : ∀ i, i < a.heap.size → S i → T i) : Gs T a b := ⟨h.os, h.tape, h.output, h.size, fun i hi hn => h.block i hi (fun s => hn (hT i hi s))⟩
theorem Gs.below {S : Nat → Prop} {a b : World} (h : Below a.heap.size a b) : Gs S a b := ⟨h.os, h.tape, h.output, h.size, fun i hi _ => h.block i hi⟩
theorem Gs.one {S : Nat → Prop} {a b : World} {r : Option Nat} (h : a.grownBy b r) (hr : ∀ k, r = some k → S k) : Gs S a b := ⟨h.os, h.tape, h.output, h.size, fun i hi hn => h.block i hi (fun e => hn (hr i e.symm))⟩
theorem Gs.toBelow {S : Nat → Prop} {a b : World} {B : Nat} (h : Gs S a b) (hB : B ≤ a.heap.size) (hS : ∀ i, S i → B ≤ i) : Below B a b :=
  ⟨h.os, h.tape, h.output, h.size, fun i hi => h.block i (by omega) (fun s => by have := hS i s; omega)⟩
theorem Gs.cell {S : Nat → Prop} {w w' : World} {a : Addr} {u : Value} (h : Gs S w w') (hc : w.cell? a = some u) (hn : ¬ S a.block) : w'.cell? a = some u := by
  have hlt := World.block_lt_of_cell? _ _ hc
  have hb := h.block _ hlt hn
  unfold World.cell? at hc ⊢
  rw [hb]; exact hc
theorem Gs.own {S : Nat → Prop} {w w' : World} {B e size n : Nat} {v : Value} {xs : List Value} (hg : Gs S w w') (h : w.ownsRow B e size v n xs) (hne : ∀ g, v.ownBlock = some g → ¬ S g) : w'.ownsRow B e size v n xs := by
  refine ⟨h.1, ?_⟩
  rcases h.2 with h2 | ⟨g, cap, cur, h1, h2, h3, h4⟩
  · exact .inl h2
  · refine .inr ⟨g, cap, cur, h1, h2, ?_, h4⟩
    have hlt : g < w.heap.size := by
      rcases Nat.lt_or_ge g w.heap.size with h | h
      · exact h
      · rw [Array.getElem?_eq_none h] at h3; cases h3
    rw [hg.block g hlt (hne g (by rw [h1]; rfl))]; exact h3
theorem Gs.map {S : Nat → Prop} {P : Program} {k : TypeId} {κ : Type} [DecidableEq κ] {w w' : World} {kd : KeyKind P k κ} {b : Nat} {m : List (κ × Value)} (hg : Gs S w w') (h : MP w kd b m) (hn : ¬ S b) : MP w' kd b m := by
  have hlt := h.lt
  obtain ⟨es, ⟨x, c, h1, h2⟩, h3⟩ := h
  exact ⟨es, ⟨x, c, (hg.block b hlt hn).trans h1, h2⟩, h3⟩
theorem row_form {w : World} {B e size n : Nat} {v : Value} {xs : List Value} (h : w.ownsRow B e size v n xs) : ∃ a c, v = .slice a n c := by
  rcases h.2 with ⟨h1, h2⟩ | ⟨g, c, _, h1, _⟩
  · exact ⟨none, 0, by rw [h1, h2]⟩
  · exact ⟨_, _, h1⟩
theorem Gs.drew {S : Nat → Prop} {a b : World} (h : Gs S a.drew b) : Gs S a b := ⟨h.os, h.tape, h.output, h.size, h.block⟩
theorem toList_inj {s t : ByteArray} (h : s.toList = t.toList) : s = t := by
  rw [ByteArray.toList_eq, ByteArray.toList_eq] at h
  apply ByteArray.ext
  exact Array.toList_inj.1 h
theorem beq_str {s t : ByteArray} (h : s = t) : (s.toList == t.toList) = true := by rw [h]; exact beq_self_eq_true _
theorem bne_str {s t : ByteArray} (h : ¬ s = t) : (s.toList == t.toList) = false := by
  cases he : (s.toList == t.toList)
  · rfl
  · exact absurd (toList_inj (eq_of_beq he)) h
/-- A window. -/
structure Wn where
  f : Int
  t : Int
theorem Wn.eq_of {a b : Wn} (h1 : a.f = b.f) (h2 : a.t = b.t) : a = b := by cases a; cases b; simp only at h1 h2; rw [h1, h2]
theorem Wn.iff (a b : Wn) : a = b ↔ a.f = b.f ∧ a.t = b.t := ⟨fun h => by rw [h]; exact ⟨rfl, rfl⟩, fun h => Wn.eq_of h.1 h.2⟩
instance : DecidableEq Wn := fun a b => decidable_of_iff' _ (Wn.iff a b)
def cellsT (x : Wn) : List Value := [.int .i64 x.f, .int .i64 x.t]
def vv (v : Wn) : Value := .agg #[.int .i64 v.f, .int .i64 v.t]
theorem infoT : (Tryz.prog.info? 38).map (fun i => (i.zero, i.size, i.bytes)) = some (some (.agg #[.int .i64 0, .int .i64 0]), 2, 16) := by kernel_rfl
theorem laidOutM : laidOutB Tryz.prog = true := by kernel_rfl
theorem rowV : (38 : TypeId) < Tryz.prog.types.size := of_decide_eq_true (by kernel_rfl)
theorem wideV : (match Tryz.prog.underlying 38 with | some (.array _ _) | some (.struct _) => true | _ => false) = true := by kernel_rfl
theorem lawV : Keyed Tryz.prog 38 := Keyed.of_law (deep_law_laid laidOutM (m := 2) (by omega) rowV (by kernel_rfl) wideV)
theorem keyTypeV : Tryz.prog.keyType 38 = true := by kernel_rfl
theorem cellsOfV : Tryz.prog.cellsOf 38 = 2 := by kernel_rfl
theorem cellsOfI : Tryz.prog.cellsOf 2 = 1 := by kernel_rfl
/-- A window's bytes as a map's key. -/
def keyV (v : Wn) : Lit := .string (keyBytes [.int .i64 v.f, .int .i64 v.t])
/-- Its numbers are numbers of 64 bits. -/
def Fits (v : Wn) : Prop := (Lit.int .i64 v.f).wf = true ∧ (Lit.int .i64 v.t).wf = true
theorem keyLits_V (d : Nat) (v : Wn) (h1 : (Lit.int .i64 v.f).wf = true) (h3 : (Lit.int .i64 v.t).wf = true) :
    Option.map (fun ls => Lit.string (keyBytes ls)) (Tryz.prog.keyLits (d + 1 + 1) 38 (vv v).cells.toList) = some (keyV v) := by
  have a : Tryz.prog.keyLits (d + 1) 2 [.int .i64 v.f] = some [.int .i64 v.f] := by simp [Program.keyLits, Tryz.underlying2, h1]
  have c : Tryz.prog.keyLits (d + 1) 2 [.int .i64 v.t] = some [.int .i64 v.t] := by simp [Program.keyLits, Tryz.underlying2, h3]
  unfold Program.keyLits
  rw [Tryz.underlying38]
  simp [vv, Value.cells, cellsOfV, cellsOfI, a, c, keyV]
theorem keyV_of (v : Wn) (h : Fits v) : keyOf Tryz.prog 38 (vv v) = some (keyV v) := by
  obtain ⟨h1, h3⟩ := h
  have hu := Tryz.underlying38
  have hf : (vv v).formed Tryz.prog 38 = true := by simp [Value.formed, vv, hu, cellsOfV]
  unfold keyOf
  rw [hu]
  simp only [keyTypeV, hf, Bool.and_self, if_true]
  rw [show Tryz.prog.types.size = (269 - 1) + 1 from by kernel_rfl]
  exact keyLits_V _ v h1 h3
theorem vv_inj {a b : Wn} (h : vv a = vv b) : a = b := by
  obtain ⟨k1, s1⟩ := a
  obtain ⟨k2, s2⟩ := b
  simpa [vv] using h
theorem keyV_inj (a b : Wn) (ha : Fits a) (hb : Fits b) (h : keyV a = keyV b) : a = b := by
  have h1 := keyV_of a ha
  have h2 := keyV_of b hb
  rw [← h] at h2
  exact vv_inj (lawV.inj h1 h2)
theorem kl_int {t : TypeId} (hu : Tryz.prog.underlying t = some (.int .i64)) (d : Nat) (x : Value) (ls : List Lit) (h : Tryz.prog.keyLits (d + 1) t [x] = some ls) : ∃ n, x = .int .i64 n ∧ (Lit.int .i64 n).wf = true ∧ ls = [.int .i64 n] := by
  unfold Program.keyLits at h
  rw [hu] at h
  cases x <;> simp at h
  obtain ⟨⟨rfl, h1⟩, rfl⟩ := h
  exact ⟨_, rfl, h1, rfl⟩
theorem keyV_inv {key : Value} {kl : Lit} (h : keyOf Tryz.prog 38 key = some kl) : ∃ v, key = vv v ∧ Fits v ∧ kl = keyV v := by
  have hu := Tryz.underlying38
  unfold keyOf at h
  rw [hu] at h
  simp only [keyTypeV, Bool.true_and] at h
  split at h
  case isFalse => cases h
  case isTrue hf =>
    cases key <;> simp [Value.formed, hu] at hf
    rename_i cs
    rw [cellsOfV] at hf
    obtain ⟨a, b, rfl⟩ : ∃ a b, cs = #[a, b] := by
      obtain ⟨l⟩ := cs
      match l, hf with
      | [a, b], _ => exact ⟨a, b, rfl⟩
    rw [show Tryz.prog.types.size = (269 - 1) + 1 from by kernel_rfl] at h
    unfold Program.keyLits at h
    rw [hu] at h
    simp [Value.cells, cellsOfV, cellsOfI, List.mapM_cons] at h
    cases h1 : Tryz.prog.keyLits (269 - 1 + 1) 2 [a] with
    | none => simp [h1] at h
    | some l1 =>
    cases h3 : Tryz.prog.keyLits (269 - 1 + 1) 2 [b] with
    | none => simp [h1, h3] at h
    | some l3 =>
    simp [h1, h3] at h
    subst h
    obtain ⟨k, rfl, e1, rfl⟩ := kl_int Tryz.underlying2 _ _ _ h1
    obtain ⟨n, rfl, e3, rfl⟩ := kl_int Tryz.underlying2 _ _ _ h3
    exact ⟨⟨k, n⟩, rfl, ⟨e1, e3⟩, rfl⟩
theorem same_keyV (a b : Wn) (ha : Fits a) (hb : Fits b) : (keyV a).sameKey (keyV b) = true ↔ a = b := by
  constructor
  · intro h
    refine keyV_inj a b ha hb ?_
    unfold keyV at h ⊢
    simpa [Lit.sameKey] using h
  · rintro rfl; unfold keyV; simp [Lit.sameKey]
def wk : KeyKind Tryz.prog 38 Wn where
  kv := vv
  kl := keyV
  ok := Fits
  key := keyV_of
  inj := keyV_inj
def sk : KeyKind Tryz.prog 9 ByteArray where
  kv s := .string s
  kl s := .string s.data.toList
  ok s := s.size ≤ maxLen
  key := (strKey Tryz.underlying9).key
  inj := (strKey Tryz.underlying9).inj
theorem K9 : Maps.Keyed Tryz.prog 9 := Maps.string_keyed Tryz.underlying9
end Go.Proofs.YtobhccmnlmlapaaGreatDoor
