import Derived.Test.YtobhccmnlmlapaaGreatDoorGp
import Derived.Test.YtobhccmnlmlapaaGreatDoorQStR
import Derived.Test.YtobhccmnlmlapaaGreatDoorQStJ
import Derived.Test.YtobhccmnlmlapaaGreatDoorGu
import Derived.Laws.OwnMore
import Derived.Maps.AppendAt
import Derived.Test.YtobhccmnlmlapaaGreatDoorQStZk
namespace Go.Proofs.YtobhccmnlmlapaaGreatDoor
open Go.RowKit Go.Maps
set_option linter.unusedVariables false
set_option linter.unusedSimpArgs false

/-- Where a cell of a key and a window is. -/
def hit (k : List V) (x : Wn) (c : Ce) : Bool := decide (c.key = k) && decide (c.w = x)
def atI (l : List Ce) (k : List V) (x : Wn) : Option Nat := l.findIdx? (hit k x)
theorem hit_iff {k : List V} {x : Wn} {c : Ce} : hit k x c = true ↔ c.key = k ∧ c.w = x := by unfold hit; simp
theorem atI_some {l : List Ce} {k : List V} {x : Wn} {i : Nat} (h : atI l k x = some i) : ∃ hi : i < l.length, l[i].key = k ∧ l[i].w = x ∧ ∀ j (hj : j < i), ¬ (l[j].key = k ∧ l[j].w = x) := by
  obtain ⟨hi, h1, h2⟩ := List.findIdx?_eq_some_iff_getElem.1 h
  have h3 := hit_iff.1 h1
  exact ⟨hi, h3.1, h3.2, fun j hj e => h2 j hj (hit_iff.2 e)⟩
theorem atI_none {l : List Ce} {k : List V} {x : Wn} (h : atI l k x = none) : ∀ c ∈ l, ¬ (c.key = k ∧ c.w = x) := fun c hc e => by
  have := List.findIdx?_eq_none_iff.1 h c hc
  rw [hit_iff.2 e] at this
  cases this
theorem atI_of {l : List Ce} {k : List V} {x : Wn} {i : Nat} (hi : i < l.length) (h1 : l[i].key = k ∧ l[i].w = x) (h2 : ∀ j (hj : j < i), ¬ (l[j].key = k ∧ l[j].w = x)) : atI l k x = some i :=
  List.findIdx?_eq_some_iff_getElem.2 ⟨hi, hit_iff.2 h1, fun j hj e => h2 j hj (hit_iff.1 e)⟩
theorem atI_no {l : List Ce} {k : List V} {x : Wn} (h : ∀ c ∈ l, ¬ (c.key = k ∧ c.w = x)) : atI l k x = none :=
  List.findIdx?_eq_none_iff.2 fun c hc => by
    cases hh : hit k x c with
    | false => rfl
    | true => exact absurd (hit_iff.1 hh) (h c hc)
theorem set_eq {l : List Ce} {i : Nat} (hi : i < l.length) (c : Ce) : l.set i c = l.take i ++ c :: l.drop (i + 1) := List.set_eq_take_append_cons_drop.trans (if_pos hi)
theorem self_eq {l : List Ce} {i : Nat} (hi : i < l.length) : l = l.take i ++ l[i] :: l.drop (i + 1) := by
  have h := List.take_append_drop i l
  rw [List.drop_eq_getElem_cons hi] at h
  exact h.symm
theorem er_eq {l : List Ce} {i : Nat} : l.eraseIdx i = l.take i ++ l.drop (i + 1) := List.eraseIdx_eq_take_drop_succ _ _
/-- All but one. -/
theorem er_perm {l : List Ce} (ha : Apart l) {i : Nat} (hi : i < l.length) {c : Ce} (h1 : l[i].key = c.key) (h2 : l[i].w = c.w) : (l.eraseIdx i).Perm (l.filter fun y => !sameC c y) := by
  have p1 := putC_len ha (List.getElem_mem hi) h1 h2
  have p2 : l.Perm (l[i] :: l.eraseIdx i) := by
    rw [er_eq]
    have h := self_eq hi
    refine (List.Perm.of_eq h).trans ?_
    exact List.perm_middle
  exact (p2.symm.trans p1).cons_inv
theorem er_asc {l : List Ce} (h : AscC l) (i : Nat) : AscC (l.eraseIdx i) := List.Pairwise.sublist (List.eraseIdx_sublist _ _) h
theorem set_perm {l : List Ce} (ha : Apart l) {i : Nat} (hi : i < l.length) {c : Ce} (h1 : l[i].key = c.key) (h2 : l[i].w = c.w) : (l.set i c).Perm (putC l c) := by
  rw [set_eq hi]
  refine List.perm_middle.trans ?_
  unfold putC
  refine List.Perm.cons _ ?_
  rw [← er_eq]
  exact er_perm ha hi h1 h2
theorem set_asc {l : List Ce} (h : AscC l) {i : Nat} (hi : i < l.length) {c : Ce} (h1 : l[i].key = c.key) (h2 : l[i].w = c.w) : AscC (l.set i c) := by
  unfold AscC at *
  rw [List.pairwise_iff_getElem] at *
  intro a b ha hb hab
  have ha' : a < l.length := by simpa using ha
  have hb' : b < l.length := by simpa using hb
  have key : ∀ j (hj : j < l.length), (l.set i c)[j]'(by simpa using hj) = l[j] ∨ ((l.set i c)[j]'(by simpa using hj)).key = l[j].key ∧ ((l.set i c)[j]'(by simpa using hj)).w = l[j].w := fun j hj => by
    rw [List.getElem_set]
    split
    · rename_i e; subst e; exact .inr ⟨h1.symm, h2.symm⟩
    · exact .inl rfl
  have kk : ∀ j (hj : j < l.length), ((l.set i c)[j]'(by simpa using hj)).key = l[j].key ∧ ((l.set i c)[j]'(by simpa using hj)).w = l[j].w := fun j hj => by
    rcases key j hj with e | e
    · rw [e]; exact ⟨rfl, rfl⟩
    · exact e
  rw [ltC_congr (kk b hb').1 (kk b hb').2 (kk a ha').1 (kk a ha').2]
  exact h a b ha' hb' hab
theorem putC_new {l : List Ce} {c : Ce} (h : ∀ y ∈ l, ¬ (y.key = c.key ∧ y.w = c.w)) : putC l c = c :: l := by
  unfold putC
  rw [List.filter_eq_self.2 fun y hy => ?_]
  have := h y hy
  simp only [sameC, Bool.not_eq_true', Bool.and_eq_false_iff, decide_eq_false_iff_not]
  exact Classical.not_and_iff_not_or_not.1 this
/-- One that was put between. -/
theorem ins_asc {P S : List Ce} {c : Ce} (h : AscC (P ++ S)) (h1 : ∀ s ∈ S, ltC c s = true) (h2 : P = [] ∨ ∃ p ∈ P.getLast?, ltC c p = false) : AscC (P ++ c :: S) := by
  unfold AscC at *
  rw [List.pairwise_append] at h ⊢
  obtain ⟨hP, hS, hPS⟩ := h
  have hpc : ∀ p ∈ P, ltC c p = false := by
    rcases h2 with rfl | ⟨p0, hp0, h2⟩
    · intro p hp; cases hp
    · obtain ⟨ys, rfl⟩ := List.getLast?_eq_some_iff.1 hp0
      intro p hp
      rcases List.mem_append.1 hp with hp | hp
      · rw [List.pairwise_append] at hP
        exact ltC_ntrans _ _ _ h2 (hP.2.2 p hp p0 (by simp))
      · rw [List.mem_singleton.1 hp]; exact h2
  refine ⟨hP, List.pairwise_cons.2 ⟨fun s hs => ltC_asymm _ _ (h1 s hs), hS⟩, fun p hp y hy => ?_⟩
  rcases List.mem_cons.1 hy with rfl | hy
  · exact hpc p hp
  · exact hPS p hp y hy
theorem ofG_srt {l : List Ce} (ha : Apart l) (g : Nat) : ofG l g = (srt l).filter fun c => grp c.key == g := by
  unfold ofG
  exact (srt_of ((srt_perm l).filter _) (ha.filter _) (List.Pairwise.sublist List.filter_sublist (srt_asc l))).symm
theorem filter_srt {l : List Ce} (ha : Apart l) (p : Ce → Bool) : srt (l.filter p) = (srt l).filter p :=
  (srt_of ((srt_perm l).filter _) (ha.filter _) (List.Pairwise.sublist List.filter_sublist (srt_asc l))).symm
theorem wt_set {l : List Ce} {i : Nat} (hi : i < l.length) (c : Ce) : wt (l.set i c) + wg l[i] = wt l + wg c := by
  have h := self_eq hi
  have e : wt l = wt (l.take i) + (wg l[i] + wt (l.drop (i + 1))) := by
    conv => lhs; rw [h]
    rw [wt_append, wt_cons]
  rw [set_eq hi, wt_append, wt_cons, e]
  omega
/-- What the first weigh, but for one. -/
def wEx (l : List Ce) (k : Option Nat) : Nat → Nat
  | 0 => 0
  | n + 1 => wEx l k n + (if k = some n then 0 else match l[n]? with | some c => wg c | none => 0)
theorem wEx_none (l : List Ce) : ∀ n, n ≤ l.length → wEx l none n = wt (l.take n)
  | 0, _ => rfl
  | n + 1, h => by
    have ih := wEx_none l n (by omega)
    rw [List.take_succ_eq_append_getElem (by omega), wt_append]
    unfold wEx
    rw [ih, if_neg (by simp), List.getElem?_eq_getElem (by omega)]
    simp [wt]
theorem wEx_some (l : List Ce) (i : Nat) (hi : i < l.length) : ∀ n, n ≤ l.length → wEx l (some i) n + (if i < n then wg l[i] else 0) = wt (l.take n)
  | 0, _ => rfl
  | n + 1, h => by
    have ih := wEx_some l i hi n (by omega)
    rw [List.take_succ_eq_append_getElem (by omega), wt_append]
    unfold wEx
    rw [← ih, List.getElem?_eq_getElem (by omega)]
    by_cases h1 : i = n
    · subst h1
      simp [wt]
    · rw [if_neg (by simpa using h1)]
      by_cases h2 : i < n
      · rw [if_pos h2, if_pos (by omega)]; simp [wt]; omega
      · rw [if_neg h2, if_neg (by omega)]; simp [wt]
theorem wEx_le (l : List Ce) (k : Option Nat) : ∀ n, n ≤ l.length → wEx l k n ≤ wt (l.take n)
  | 0, _ => Nat.le_refl _
  | n + 1, h => by
    have ih := wEx_le l k n (by omega)
    rw [List.take_succ_eq_append_getElem (by omega), wt_append]
    unfold wEx
    rw [List.getElem?_eq_getElem (by omega)]
    split <;> simp [wt] at ih ⊢ <;> omega
theorem wt_take_le (l : List Ce) (n : Nat) : wt (l.take n) ≤ wt l := wt_sub (List.take_sublist _ _)
theorem wEx_all (l : List Ce) (hs : Apart l) (c : Ce) : wg c + wEx l (atI l c.key c.w) l.length = wt (putC l c) := by
  cases h : atI l c.key c.w with
  | none => rw [wEx_none l _ (Nat.le_refl _), List.take_length, putC_new (atI_none h), wt_cons]
  | some i =>
    obtain ⟨hi, h1, h2, -⟩ := atI_some h
    have := wEx_some l i hi l.length (Nat.le_refl _)
    rw [if_pos hi, List.take_length] at this
    rw [← wt_perm (set_perm hs hi h1 h2)]
    have := wt_set hi c
    omega
end Go.Proofs.YtobhccmnlmlapaaGreatDoor
namespace Go.Proofs.YtobhccmnlmlapaaGreatDoor
open Go.RowKit Go.Maps
set_option linter.unusedVariables false
set_option linter.unusedSimpArgs false
set_option maxRecDepth 100000

/-- '==' of two windows. -/
def eqN (f1 t1 f2 t2 : Int) : Bool := f1 == f2 && t1 == t2
theorem eqN_iff (a b : Wn) : eqN a.f a.t b.f b.t = decide (a = b) := by
  unfold eqN
  by_cases h : a = b
  · rw [decide_eq_true h, h]; simp
  · rw [decide_eq_false h]
    by_cases h1 : a.f = b.f
    · have h2 : ¬ a.t = b.t := fun e => h (Wn.eq_of h1 e)
      simp [h2]
    · simp [h1]
theorem eqWn (f1 t1 f2 t2 : Int) (w : World) :
    (Op.equalIn 10000 38 (.agg #[.int .i64 f1, .int .i64 t1]) (.agg #[.int .i64 f2, .int .i64 t2])).run Tryz.prog w = .ok (eqN f1 t1 f2 t2) w := by
  have u2 := Tryz.underlying2
  have a2 := Tryz.isAgg2
  have z2 := Tryz.sizeOf2
  have hS : Tryz.prog.underlying 38 = some (.struct (Tryz.prog.fieldsOf 38)) := by kernel_rfl
  rw [show (10000 : Nat) = 9999 + 1 from rfl, run_equalIn_agg w 9999 38 _ _ hS (by kernel_rfl)]
  simp only [Program.fieldsOf, Tryz.underlying38]
  go_simp
  unfold eqN
  by_cases h1 : f1 = f2 <;> by_cases h2 : t1 = t2 <;> simp [h1, h2]
theorem guardW : Tryz.prog.eqGuardType Tryz.prog.depth 38 = false := by kernel_rfl
theorem eqlW (f1 t1 f2 t2 : Int) (w : World) :
    (binOp .eql 38 (.agg #[.int .i64 f1, .int .i64 t1]) (.agg #[.int .i64 f2, .int .i64 t2])).run Tryz.prog w = .ok (.bool (eqN f1 t1 f2 t2)) w := by
  rw [run_eql_struct, eqWn]; rfl
theorem neqW (f1 t1 f2 t2 : Int) (w : World) :
    (binOp .neq 38 (.agg #[.int .i64 f1, .int .i64 t1]) (.agg #[.int .i64 f2, .int .i64 t2])).run Tryz.prog w = .ok (.bool (!eqN f1 t1 f2 t2)) w := by
  rw [run_neq_struct, eqWn]; rfl

/-- The document: values that can be a key. -/
theorem refVR (vs : List V) (a : Option Addr) (c : Nat) (w : World) (hl : VLies w a vs) (hg : GoodK vs) (hn : vs.length ≤ 549755813888) :
    Calls Tryz.prog 60 #[.agg #[.int .i64 0, .slice a vs.length c]] w fun e w' => e = .returned (.bool (vk vs)) ∧ Below w.heap.size w w' :=
  Wr.refValidRow_any ⟨0, vs⟩ a c w hl ⟨show (-9223372036854775808 : Int) ≤ 0 by decide, show (0 : Int) ≤ 9223372036854775807 by decide, hn, hg⟩
theorem sameV_iff (vs us : List V) : Wr.sameV vs us = decide (vs = us) := by
  by_cases h : vs = us
  · rw [decide_eq_true h, h]
    refine Wr.sameV_yes us us rfl fun i hi => ?_
    unfold Wr.eqAt Wr.eqB
    simp
  · rw [decide_eq_false h]
    by_cases hl : vs.length = us.length
    · have hex : ∃ i, ∃ h1 : i < vs.length, ∃ h2 : i < us.length, vs[i] ≠ us[i] := by
        refine Classical.byContradiction fun hc => h ?_
        refine List.ext_getElem hl fun i h1 h2 => ?_
        exact Classical.byContradiction fun hne => hc ⟨i, h1, h2, hne⟩
      obtain ⟨i, h1, h2, hne⟩ := hex
      refine Wr.sameV_no vs us i h1 ?_
      unfold Wr.eqAt
      rw [show vs.getD i Wr.v0 = vs[i] by simp [List.getD, h1], show us.getD i Wr.v0 = us[i] by simp [List.getD, h2]]
      cases hb : Wr.eqB vs[i].k vs[i].n vs[i].s us[i].k us[i].n us[i].s with
      | false => rfl
      | true => exact absurd ((eqV_iff _ _).1 hb) hne
    · unfold Wr.sameV
      rw [decide_eq_false hl]; rfl
/-- The document: are two lists of values the same? -/
theorem refSameD (vs us : List V) (a1 : Option Addr) (c1 : Nat) (a2 : Option Addr) (c2 : Nat) (w : World) (h1 : VLies w a1 vs) (h2 : VLies w a2 us) (hl : vs.length ≤ 549755813888) (hl2 : us.length ≤ 549755813888) :
    Calls Tryz.prog 56 #[.slice a1 vs.length c1, .slice a2 us.length c2] w fun e w' => e = .returned (.bool (decide (vs = us))) ∧ Below w.heap.size w w' := by
  refine (Wr.same_gen vs us a1 c1 a2 c2 w h1 h2 hl hl2).mono ?_
  rintro e w' ⟨rfl, m, rfl⟩
  exact ⟨by rw [sameV_iff], below_drewN (Below.refl _ _) m⟩
/-- The document's row of cells. -/
structure DR (w : World) (B : Nat) (u : Value) (qs : List Cx) : Prop where
  own : w.ownsRow B 97 4 u qs.length (qs.flatMap cellsC)
  key : ∀ q ∈ qs, OV w B (.slice q.ka q.c.key.length q.kc) q.c.key
  dat : ∀ q ∈ qs, Wr.OL w B q.dv q.c.d
/-- Cells that the document's store has. -/
structure DC (qs : List Cx) : Prop where
  good : ∀ q ∈ qs, GoodK q.c.key ∧ vk q.c.key = true ∧ kp q.c.w = true
  wl : wt (qs.map (·.c)) ≤ 67108864
/-- The document's store in memory. -/
structure DS (w : World) (B s : Nat) (lo hi : Int) (u : Value) (qs : List Cx) : Prop where
  own : Own w s 33 3 [.int .i64 lo, .int .i64 hi, u]
  row : DR w B u qs
  ge : B ≤ s
/-- Its blocks. -/
def DB (s : Nat) (u : Value) (qs : List Cx) (i : Nat) : Prop := i = s ∨ u.ownBlock = some i ∨ ∃ q ∈ qs, (Value.slice q.ka q.c.key.length q.kc).ownBlock = some i ∨ q.dv.ownBlock = some i
theorem DR.kept {S : Nat → Prop} {w w' : World} {B : Nat} {u : Value} {qs : List Cx} (h : DR w B u qs) (hg : Gs S w w') (hS : ∀ i, (u.ownBlock = some i ∨ ∃ q ∈ qs, (Value.slice q.ka q.c.key.length q.kc).ownBlock = some i ∨ q.dv.ownBlock = some i) → ¬ S i) : DR w' B u qs :=
  ⟨hg.own h.own fun g hg' => hS g (.inl hg'), fun q hq => hg.own (h.key q hq) fun g hg' => hS g (.inr ⟨q, hq, .inl hg'⟩), fun q hq => hg.own (h.dat q hq) fun g hg' => hS g (.inr ⟨q, hq, .inr hg'⟩)⟩
theorem DS.kept {S : Nat → Prop} {w w' : World} {B s : Nat} {lo hi : Int} {u : Value} {qs : List Cx} (h : DS w B s lo hi u qs) (hg : Gs S w w') (hS : ∀ i, DB s u qs i → ¬ S i) : DS w' B s lo hi u qs :=
  ⟨hg.own h.own fun g hg' => hS g (.inl (by cases hg'; rfl)), h.row.kept hg fun i hi => hS i (.inr hi), h.ge⟩
theorem DS.later {w w' : World} {B s : Nat} {lo hi : Int} {u : Value} {qs : List Cx} (h : DS w B s lo hi u qs) (hb : Below w.heap.size w w') : DS w' B s lo hi u qs := h.kept (S := fun _ => False) (Gs.below hb) (fun _ _ s => s.elim)
theorem DR.later {w w' : World} {B : Nat} {u : Value} {qs : List Cx} (h : DR w B u qs) (hb : Below w.heap.size w w') : DR w' B u qs := h.kept (S := fun _ => False) (Gs.below hb) (fun _ _ s => s.elim)
theorem DS.lt {w : World} {B s : Nat} {lo hi : Int} {u : Value} {qs : List Cx} (h : DS w B s lo hi u qs) {i : Nat} (hi' : DB s u qs i) : B ≤ i ∧ i < w.heap.size := by
  rcases hi' with rfl | h1 | ⟨q, hq, h1 | h1⟩
  · exact ⟨h.ge, h.own.lt⟩
  · exact World.ownsRow.lt h.row.own i h1
  · exact World.ownsRow.lt (h.row.key q hq) i h1
  · exact World.ownsRow.lt (h.row.dat q hq) i h1
theorem DS.cells {w : World} {B s : Nat} {lo hi : Int} {u : Value} {qs : List Cx} (h : DS w B s lo hi u qs) : w.cell? ⟨s, 0, none⟩ = some (.int .i64 lo) ∧ w.cell? ⟨s, 1, none⟩ = some (.int .i64 hi) ∧ w.cell? ⟨s, 2, none⟩ = some u :=
  ⟨h.own.cell 0 (by decide), h.own.cell 1 (by decide), h.own.cell 2 (by decide)⟩
theorem DR.form {w : World} {B : Nat} {u : Value} {qs : List Cx} (h : DR w B u qs) : ∃ a c, u = .slice a qs.length c ∧ (qs = [] ∧ a = none ∨ ∃ g, a = some ⟨g, 0, none⟩ ∧ B ≤ g ∧ g < w.heap.size ∧ qs.length ≤ c) := by
  rcases h.own.2 with ⟨h1, h2⟩ | ⟨g, c, cur, h1, h2, h3, h4, -⟩
  · exact ⟨none, 0, by rw [h1, h2], .inl ⟨List.eq_nil_of_length_eq_zero h2, rfl⟩⟩
  · refine ⟨some ⟨g, 0, none⟩, c, h1, .inr ⟨g, rfl, h2, ?_, h4⟩⟩
    rcases Nat.lt_or_ge g w.heap.size with h | h
    · exact h
    · rw [Array.getElem?_eq_none h] at h3; cases h3
theorem DR.cells {w : World} {B g c : Nat} {qs : List Cx} (h : DR w B (.slice (some ⟨g, 0, none⟩) qs.length c) qs) (i : Nat) (hi : i < qs.length) : w.cell? ⟨g, i * 4, none⟩ = some (.slice qs[i].ka qs[i].c.key.length qs[i].kc) ∧ w.cell? ⟨g, i * 4 + 1, none⟩ = some (.int .i64 qs[i].c.w.f) ∧ w.cell? ⟨g, i * 4 + 2, none⟩ = some (.int .i64 qs[i].c.w.t) ∧ w.cell? ⟨g, i * 4 + 3, none⟩ = some qs[i].dv := by
  have key : ∀ j, j < 4 → w.cell? ⟨g, i * 4 + j, none⟩ = (cellsC qs[i])[j]? := fun j hj => by
    rw [World.ownsRow.cellAt h.own (i * 4 + j) (by omega), flat_at cellsC 4 (fun _ => rfl) qs i j hi hj]
  exact ⟨key 0 (by decide), key 1 (by decide), key 2 (by decide), key 3 (by decide)⟩
theorem DR.lies {w : World} {B : Nat} {u : Value} {qs : List Cx} (h : DR w B u qs) {q : Cx} (hq : q ∈ qs) : VLies w q.ka q.c.key := by
  obtain ⟨a, c, e, h1, -⟩ := (h.key q hq).form
  injection e with e1 e2 e3
  rw [e1]; exact h1
theorem DR.dform {w : World} {B : Nat} {u : Value} {qs : List Cx} (h : DR w B u qs) {q : Cx} (hq : q ∈ qs) : ∃ a c, q.dv = .slice a q.c.d.length c ∧ Wr.Bytes w a q.c.d.length (Wr.lat q.c.d) := by
  obtain ⟨a, c, e, hb, -⟩ := (h.dat q hq).conv
  exact ⟨a, c, e, hb⟩
theorem DC.len {qs : List Cx} (h : DC qs) : qs.length ≤ 2097152 := by
  have := wt_len (qs.map (·.c))
  have := h.wl
  rw [List.length_map] at *
  omega
theorem DC.klen {qs : List Cx} (h : DC qs) {q : Cx} (hq : q ∈ qs) : q.c.key.length ≤ 8 := ((vk_iff _).1 (h.good q hq).2.1).2
end Go.Proofs.YtobhccmnlmlapaaGreatDoor
namespace Go.Proofs.YtobhccmnlmlapaaGreatDoor
open Go.RowKit Go.Maps
set_option linter.unusedVariables false
set_option linter.unusedSimpArgs false
set_option maxRecDepth 100000
attribute [local go_sem ↓] eqlW neqW
attribute [local go_sem] guardW

set_option maxHeartbeats 1000000 in
theorem ownsD_any (vs : List V) (a : Option Addr) (c : Nat) (w : World) (s : Nat) (lo hi : Int) (c0 : w.cell? ⟨s, 0, none⟩ = some (.int .i64 lo)) (c1 : w.cell? ⟨s, 1, none⟩ = some (.int .i64 hi)) (hl : VLies w a vs) (hg : GoodK vs) (hvl : vs.length ≤ 549755813888) :
    Calls Tryz.prog 30 #[.pointer (some ⟨s, 0, none⟩), .slice a vs.length c] w fun e w' => e = .returned (.bool (ow lo hi vs)) ∧ Below w.heap.size w w' := by
  have HG := hidMk (groupD_any vs a c w hl hg hvl)
  have HV := hidMk (fun W (hb : Below w.heap.size w W) => refVR vs a c W (hl.later hb) hg hvl)
  have HC : Hid (∀ W, Below w.heap.size w W → W.cell? ⟨s, 0, none⟩ = some (.int .i64 lo) ∧ W.cell? ⟨s, 1, none⟩ = some (.int .i64 hi)) := fun W hb => ⟨cell_later hb c0, cell_later hb c1⟩
  unfold ow
  clear c0 c1 hl hg
  go_enter Tryz.func30, Tryz.ntmps30
  go_wp2_with fail
  refine HG.out.mono ?_
  rintro e w1 ⟨rfl, hb1⟩
  have HB1 := hidMk hb1
  clear hb1
  go_wp2_with fail
  refine (HV.out _ HB1.out).mono ?_
  rintro e w2 ⟨rfl, hb2⟩
  have HB2 := hidMk (HB1.out.trans (hb2.mono HB1.out.size))
  clear hb2
  obtain ⟨c0, c1⟩ := HC.out _ HB2.out
  cases hv : vk vs with
  | false =>
    go_wp2_with fail
    go_ret
    exact ⟨ret_bool (by simp [hv]), HB2.out⟩
  | true =>
    by_cases h1 : lo ≤ (grp vs : Int)
    · by_cases h2 : (grp vs : Int) < hi
      · go_wp2_with fail
        go_ret
        exact ⟨ret_bool (by simp [hv, h1, h2]), HB2.out⟩
      · go_wp2_with fail
        go_ret
        exact ⟨ret_bool (by simp [hv, h1, h2]), HB2.out⟩
    · go_wp2_with fail
      go_ret
      exact ⟨ret_bool (by rw [decide_eq_false (show ¬ lo ≤ (grp vs : Int) by omega)]; rfl), HB2.out⟩
theorem beforeN_any (x y : Wn) (w : World) :
    Calls Tryz.prog 76 #[.agg #[.int .i64 x.f, .int .i64 x.t], .agg #[.int .i64 y.f, .int .i64 y.t]] w fun e w' => e = .returned (.bool (ltN x y)) ∧ Below w.heap.size w w' := by
  obtain ⟨f1, t1⟩ := x
  obtain ⟨f2, t2⟩ := y
  have HB := hidMk ((bel1 w (.cells #[.int .i64 f1, .int .i64 t1] 38)).alloc (by simp) (.cells #[.int .i64 f2, .int .i64 t2] 38))
  simp only [ltN]
  by_cases h : t1 = t2
  · subst h
    by_cases h2 : f1 < f2
    all_goals
      go_enter Tryz.func76, Tryz.ntmps76
      go_wp2
      go_ret
      exact ⟨ret_bool (by simp [h2]), HB.out⟩
  · by_cases h2 : t1 < t2
    all_goals
      go_enter Tryz.func76, Tryz.ntmps76
      go_wp2
      go_ret
      exact ⟨ret_bool (by simp [h, h2]), HB.out⟩
set_option maxHeartbeats 2000000 in
theorem beforeC_any (x y : Cx) (w : World) (h1 : VLies w x.ka x.c.key) (h2 : VLies w y.ka y.c.key) (m1 : x.c.key.length ≤ 4398046511104) (m2 : y.c.key.length ≤ 4398046511104) (dx : ∃ a n c, x.dv = .slice a n c) (dy : ∃ a n c, y.dv = .slice a n c) :
    Calls Tryz.prog 46 #[vC x, vC y] w fun e w' => e = .returned (.bool (ltC x.c y.c)) ∧ Below w.heap.size w w' := by
  obtain ⟨⟨xk, xw, xd⟩, xa, xc, xv⟩ := x
  obtain ⟨⟨yk, yw, yd⟩, ya, yc, yv⟩ := y
  obtain ⟨x1, x2, x3, rfl⟩ := dx
  obtain ⟨y1, y2, y3, rfl⟩ := dy
  simp only at h1 h2 m1 m2
  have HN := hidMk (fun W => beforeN_any xw yw W)
  have HR : Hid (∀ W, Below w.heap.size w W → Calls Tryz.prog 77 #[.slice xa xk.length xc, .slice ya yk.length yc] W fun e w' => e = .returned (.bool (ltL xk yk)) ∧ Below W.heap.size W w') := fun W hb => by
    have := listBefore_any xa xk.length xc ya yk.length yc (vat xk) (vat yk) W (h1.later hb).lies (h2.later hb).lies (by unfold maxLen; omega) (by unfold maxLen; omega)
    rw [ltFrom_ltL _ _ _ _ (Nat.add_zero _), List.drop_zero, List.drop_zero] at this
    exact this
  clear h1 h2
  have HB0 : Hid (Below w.heap.size w ((w.alloc (.cells #[.slice xa xk.length xc, .int .i64 xw.f, .int .i64 xw.t, .slice x1 x2 x3] 97)).alloc (.cells #[.slice ya yk.length yc, .int .i64 yw.f, .int .i64 yw.t, .slice y1 y2 y3] 97))) := (bel1 _ _).alloc (by simp) _
  have HE := hidMk (eqN_iff xw yw)
  unfold vC ltC
  simp only
  go_enter Tryz.func46, Tryz.ntmps46
  by_cases h0 : xw = yw
  · have he : eqN xw.f xw.t yw.f yw.t = true := by rw [HE.out]; exact decide_eq_true h0
    have H0 := hidMk h0
    clear h0
    go_wp2_with fail
    refine (HR.out _ HB0.out).mono ?_
    rintro e w2 ⟨rfl, hb⟩
    have HB2 := hidMk (HB0.out.trans (hb.mono HB0.out.size))
    clear hb
    go_wp2_with fail
    go_ret
    exact ⟨ret_bool (by first | rfl | rw [if_pos H0.out]), HB2.out⟩
  · have he : eqN xw.f xw.t yw.f yw.t = false := by rw [HE.out]; exact decide_eq_false h0
    have H0 := hidMk h0
    clear h0
    go_wp2_with fail
    refine (HN.out _).mono ?_
    rintro e w2 ⟨rfl, hb⟩
    have HB2 := hidMk (HB0.out.trans (hb.mono HB0.out.size))
    clear hb
    go_wp2_with fail
    go_ret
    exact ⟨ret_bool (by first | rfl | rw [if_neg H0.out]), HB2.out⟩
def atV : Option Nat → Int
  | none => -1
  | some i => i
set_option maxHeartbeats 4000000 in
theorem at_any (vs : List V) (a : Option Addr) (c : Nat) (x : Wn) (w : World) (B s : Nat) (lo hi : Int) (u : Value) (qs : List Cx) (h : DS w B s lo hi u qs) (hc : DC qs) (hl : VLies w a vs) (hvl : vs.length ≤ 549755813888) :
    Calls Tryz.prog 45 #[.pointer (some ⟨s, 0, none⟩), .slice a vs.length c, .agg #[.int .i64 x.f, .int .i64 x.t]] w fun e w' => e = .returned (.int .i64 (atV (atI (qs.map (·.c)) vs x))) ∧ Below w.heap.size w w' := by
  obtain ⟨ua, uc, rfl, hcase⟩ := h.row.form
  have hn := hc.len
  have hB := bel1 w (.cells #[.int .i64 x.f, .int .i64 x.t] 38)
  have d0 : (w.alloc (.cells #[.int .i64 x.f, .int .i64 x.t] 38)).cell? ⟨w.heap.size, 0, none⟩ = some (.int .i64 x.f) := by simp
  have d1 : (w.alloc (.cells #[.int .i64 x.f, .int .i64 x.t] 38)).cell? ⟨w.heap.size, 1, none⟩ = some (.int .i64 x.t) := by simp
  have d2 := cell_later hB h.cells.2.2
  have HS : Hid (DR (w.alloc (.cells #[.int .i64 x.f, .int .i64 x.t] 38)) B (.slice ua qs.length uc) qs) := h.row.later hB
  have HL : Hid (VLies (w.alloc (.cells #[.int .i64 x.f, .int .i64 x.t] 38)) a vs) := hl.later hB
  have HBB := hidMk hB
  have HC := hidMk hc
  generalize hW : w.alloc (.cells #[.int .i64 x.f, .int .i64 x.t] 38) = W at *
  clear h hc hl hB
  go_enter Tryz.func45, Tryz.ntmps45
  go_wp2_with fail
  try rw [hW]
  clear hW
  go_loopg [7] qs.length (fun gk i wr => ∃ j : Nat, gk + j = qs.length ∧ i = .int .i64 j ∧ Below W.heap.size W wr ∧ ∀ k (hk : k < qs.length), k < j → ¬ (qs[k].c.key = vs ∧ qs[k].c.w = x))
  case atStart => exact ⟨0, by omega, rfl, Below.refl _ _, fun k _ hk => absurd hk (by omega)⟩
  case round =>
    obtain ⟨j, hgk, rfl, hbl, hno⟩ := hrel
    have HBL := hidMk hbl
    have HNO := hidMk hno
    clear hno
    have e2 := cell_later hbl d2
    by_cases hj : j < qs.length
    · have hj' : (j : Int) < (qs.length : Int) := by omega
      obtain ⟨g, rfl, -⟩ : ∃ g, ua = some ⟨g, 0, none⟩ ∧ True := by
        rcases hcase with ⟨h1, -⟩ | ⟨g, h1, -⟩
        · rw [h1] at hj; simp at hj
        · exact ⟨g, h1, trivial⟩
      have hm : qs[j] ∈ qs := List.getElem_mem hj
      have HSA := hidMk (refSameD qs[j].c.key vs qs[j].ka qs[j].kc a c wr ((HS.out.lies hm).later hbl) (HL.out.later hbl) (by have := HC.out.klen hm; omega) hvl)
      obtain ⟨c0, c1, c2, -⟩ := HS.out.cells j hj
      have c0 := cell_later hbl c0
      have c1 := cell_later hbl c1
      have c2 := cell_later hbl c2
      have e0 := cell_later hbl d0
      have e1 := cell_later hbl d1
      have HE := hidMk (eqN_iff qs[j].c.w x)
      have HJ : Hid (∀ k (hk : k < qs.length), k < j → ¬ (qs[k].c.key = vs ∧ qs[k].c.w = x)) := HNO.out
      have HIN : Hid (qs[j].c.key = vs ∧ qs[j].c.w = x → atI (qs.map (·.c)) vs x = some j) := fun hh => atI_of (by simpa using hj) (by simpa using hh) (fun k hk => by simpa using HNO.out k (by omega) hk)
      have HNX : Hid (¬ (qs[j].c.key = vs ∧ qs[j].c.w = x) → ∀ k (hk : k < qs.length), k < j + 1 → ¬ (qs[k].c.key = vs ∧ qs[k].c.w = x)) := fun hh k hk hkj => by
        by_cases he : k = j
        · subst he; exact hh
        · exact HNO.out k hk (by omega)
      clear hcase hbl hm
      generalize qs[j] = y at *
      go_wp2_with fail
      refine HSA.out.mono ?_
      rintro e w2 ⟨rfl, hb2⟩
      replace c1 := cell_later hb2 c1
      replace c2 := cell_later hb2 c2
      replace e0 := cell_later hb2 e0
      replace e1 := cell_later hb2 e1
      replace e2 := cell_later hb2 e2
      have HB2 := hidMk (HBL.out.trans (hb2.mono HBL.out.size))
      clear hb2 HSA
      by_cases hk : y.c.key = vs
      · by_cases hw : y.c.w = x
        · have hq : eqN y.c.w.f y.c.w.t x.f x.t = true := by rw [HE.out]; exact decide_eq_true hw
          have HK := hidMk (HIN.out ⟨hk, hw⟩)
          have hdk : decide (y.c.key = vs) = true := decide_eq_true hk
          rw [hdk]
          clear hk hw hdk
          go_wp2_with fail
          go_region
          all_goals
            go_wp2_with fail
            go_ret
            exact ⟨ret_int (by rw [HK.out]; rfl), HBB.out.trans ((below_drewN HB2.out 1).mono HBB.out.size)⟩
        · have hq : eqN y.c.w.f y.c.w.t x.f x.t = false := by rw [HE.out]; exact decide_eq_false hw
          have HK := hidMk (HNX.out (fun hh => hw hh.2))
          have hdk : decide (y.c.key = vs) = true := decide_eq_true hk
          rw [hdk]
          clear hk hw hdk
          go_wp2_with fail
          go_region
          all_goals
            go_wp2_with fail
            go_roundg (gk - 1)
            case measure => omega
            case rel => exact ⟨j + 1, by omega, by go_num, below_drewN HB2.out 1, HK.out⟩
      · have HK := hidMk (HNX.out (fun hh => hk hh.1))
        have hdk : decide (y.c.key = vs) = false := decide_eq_false hk
        rw [hdk]
        clear hk hdk
        go_wp2_with fail
        go_region
        all_goals
          go_wp2_with fail
          go_roundg (gk - 1)
          case measure => omega
          case rel => exact ⟨j + 1, by omega, by go_num, below_drewN HB2.out 1, HK.out⟩
    · have hj' : ¬ (j : Int) < (qs.length : Int) := by omega
      have HK : Hid (atI (qs.map (·.c)) vs x = none) := atI_no fun cc hcc => by
        obtain ⟨q, hq, rfl⟩ := List.mem_map.1 hcc
        obtain ⟨k, hk, rfl⟩ := List.getElem_of_mem hq
        exact HNO.out k hk (by omega)
      clear hbl
      go_wp2_with fail
      go_ret
      exact ⟨ret_int (by rw [HK.out]; rfl), HBB.out.trans (HBL.out.mono HBB.out.size)⟩
set_option maxHeartbeats 2000000 in
theorem getD_any (vs : List V) (a : Option Addr) (c : Nat) (x : Wn) (w : World) (B s : Nat) (lo hi : Int) (u : Value) (qs : List Cx) (h : DS w B s lo hi u qs) (hc : DC qs) (hl : VLies w a vs) (hvl : vs.length ≤ 549755813888) :
    Calls Tryz.prog 23 #[.pointer (some ⟨s, 0, none⟩), .slice a vs.length c, .agg #[.int .i64 x.f, .int .i64 x.t]] w fun e w' => Below w.heap.size w w' ∧ ((atI (qs.map (·.c)) vs x = none ∧ e = .returned (.tuple #[.slice none 0 0, .bool false])) ∨ ∃ i, ∃ hi : i < qs.length, atI (qs.map (·.c)) vs x = some i ∧ e = .returned (.tuple #[qs[i].dv, .bool true])) := by
  obtain ⟨ua, uc, rfl, hcase⟩ := h.row.form
  have hn := hc.len
  have HA := hidMk (fun W (hb : Below w.heap.size w W) => at_any vs a c x W B s lo hi _ qs (h.later hb) hc (hl.later hb) hvl)
  have hB := bel1 w (.cells #[.int .i64 x.f, .int .i64 x.t] 38)
  have HBB := hidMk hB
  have HS := hidMk h
  have HI : Hid (∀ i, atI (qs.map (·.c)) vs x = some i → i < qs.length) := fun i hh => by obtain ⟨hi, -⟩ := atI_some hh; simpa using hi
  clear h hc hl hB
  go_enter Tryz.func23, Tryz.ntmps23
  go_wp2_with fail
  refine (HA.out _ HBB.out).mono ?_
  rintro e w1 ⟨rfl, hb1⟩
  have HB1 := hidMk (HBB.out.trans (hb1.mono HBB.out.size))
  clear hb1 HA
  generalize hat : atI (qs.map (·.c)) vs x = o at *
  have HAT := hidMk hat
  clear hat
  cases o with
  | none =>
    unfold atV
    go_wp2_with fail
    go_ret2
    exact ⟨HB1.out, .inl ⟨HAT.out, rfl⟩⟩
  | some i =>
    have hi := HI.out i rfl
    have hi' : (i : Int) < (qs.length : Int) := by omega
    unfold atV
    obtain ⟨g, rfl, -⟩ : ∃ g, ua = some ⟨g, 0, none⟩ ∧ True := by
      rcases hcase with ⟨h1, -⟩ | ⟨g, h1, -⟩
      · rw [h1] at hi; simp at hi
      · exact ⟨g, h1, trivial⟩
    have d2 := cell_later HB1.out HS.out.cells.2.2
    obtain ⟨-, -, -, c3⟩ := HS.out.row.cells i hi
    replace c3 := cell_later HB1.out c3
    clear hcase
    obtain ⟨dv, hdv⟩ : ∃ dv, dv = qs[i].dv := ⟨_, rfl⟩
    rw [← hdv] at c3
    have HQ := hidMk hdv
    clear hdv
    go_wp2_with fail
    go_ret2
    exact ⟨HB1.out, .inr ⟨i, hi, HAT.out, by rw [← HQ.out]; rfl⟩⟩
end Go.Proofs.YtobhccmnlmlapaaGreatDoor
namespace Go.Proofs.YtobhccmnlmlapaaGreatDoor
open Go.RowKit Go.Maps
set_option linter.unusedVariables false
set_option linter.unusedSimpArgs false
set_option maxRecDepth 100000

theorem run_append_zero {P : Program} {w : World} (base : Nat) (t ty e : TypeId) (i : TypeInfo) (size : Nat) (ht : P.underlying t = some (.slice e)) (hi : P.info? e = some i)
    (v : Value) (n : Nat) (xs : List Value) (hown : w.ownsRow base e size v n xs) (ad : Option Addr) (c : Nat) :
    (Builtin.append_ #[t, t] ty #[v, .slice ad 0 c]).run P w = .ok v w := by
  cases ad with
  | none =>
    rcases hown.2 with ⟨rfl, rfl⟩ | ⟨g, cap, cur, rfl, _, _, hnc, _⟩
    · simp [Builtin.append_, run_underlying ht, sizeOf, typeInfo, hi, Builtin.lenOf, Builtin.firstCells]
    · simp [Builtin.append_, run_underlying ht, sizeOf, typeInfo, hi, Builtin.lenOf, Builtin.firstCells, hnc, storeCells]
  | some y =>
    rcases hown.2 with ⟨rfl, rfl⟩ | ⟨g, cap, cur, rfl, _, _, hnc, _⟩
    · simp [Builtin.append_, run_underlying ht, sizeOf, typeInfo, hi, Builtin.lenOf, Builtin.firstCells, loadCells, loadCellsFrom]
    · simp [Builtin.append_, run_underlying ht, sizeOf, typeInfo, hi, Builtin.lenOf, Builtin.firstCells, hnc, storeCells, loadCells, loadCellsFrom]
/-- append(s, x...) of what lies anywhere. -/
theorem wpList_append_src {P : Program} {w : World} {ops : Array Oper} {rest : List Oper} {o : Oper} {a : Act} {Q : Exit → Act → World → Prop} (hgd : o.guard = none) (s x : Operand) (t : TypeId)
    (ho : o.op = .call { callee := .builtin .append, args := #[s, x], argTypes := #[t, t] })
    (base : Nat) (e : TypeId) (i : TypeInfo) (z : Value) (size bytes : Nat) (ht : P.underlying t = some (.slice e)) (hi : P.info? e = some i) (hz : i.zero = some z)
    (hsize : i.size = size) (hby : i.bytes = bytes) (hzs : z.cells.size = size) (hsz : 0 < size)
    (v : Value) (n : Nat) (xs : List Value) (hs : a.eval s = v) (hown : w.ownsRow base e size v n xs)
    (ad : Option Addr) (m c : Nat) (news : List Value) (hx : a.eval x = .slice ad m c) (hl : news.length = m * size) (hnews : ∀ j u, news[j]? = some u → ∃ y, ad = some y ∧ w.cell? (y.add j) = some u) (h1 : ∀ u ∈ news, u.oneCell' = true)
    (h63 : n + m ≤ maxLen) (hbytes : (n + m) * bytes ≤ 140737488355328) (hbase : base ≤ w.heap.size)
    (h : ∀ v' w', w'.ownsRow base e size v' (n + m) (xs ++ news) → w.grownBy w' v.ownBlock → (v'.ownBlock = v.ownBlock ∨ v'.ownBlock = some w.heap.size) → wpList P ops Q rest (a.put o.dst v') w') :
    wpList P ops Q (o :: rest) a w := by
  by_cases hm : m = 0
  · subst hm
    have hn : news = [] := List.eq_nil_of_length_eq_zero (by omega)
    subst hn
    refine wpList_plain hgd fun K hK => ?_
    have hrun := run_append_zero (P := P) (w := w) base t o.type e i size ht hi v n xs hown ad c
    unfold Oper.wp
    simp [execOp, ho, resolve, invoke, builtin, hs, hx, hrun, Result.andThen]
    exact hK _ _ (h v w (by simpa using hown) (World.grownBy.refl _ _) (.inl rfl))
  · have hlen : 0 < news.length := by rw [hl]; exact Nat.mul_pos (by omega) hsz
    obtain ⟨y, rfl, -⟩ := hnews 0 news[0] (List.getElem?_eq_getElem hlen)
    refine wpList_append_own_at _ hgd s x t ho base e i z size bytes ht hi hz hsize hby hzs hsz v n xs hs hown y m c news hx hl (fun j u hj => ?_) h1 h63 hbytes hbase (fun v' w' h2 h3 _ h5 => h v' w' h2 h3 h5)
    obtain ⟨y', e', hc⟩ := hnews j u hj
    rw [Option.some.inj e']; exact hc
theorem one_flatV (l : List V) : ∀ u ∈ l.flatMap cellsV, u.oneCell' = true := fun u hu => by
  obtain ⟨x, _, h⟩ := List.mem_flatMap.1 hu
  simp [cellsV] at h
  rcases h with rfl | rfl | rfl <;> rfl
theorem src_V {w : World} {a : Option Addr} {vs : List V} (h : VLies w a vs) : ∀ j u, (vs.flatMap cellsV)[j]? = some u → ∃ y, a = some y ∧ w.cell? (y.add j) = some u := fun j u hj => by
  have hjl := (List.getElem?_eq_some_iff.1 hj).1
  rw [len_cellsV] at hjl
  have h3 : j / 3 < vs.length := by omega
  obtain ⟨b, off, e, e1, e2, e3⟩ := h (j / 3) h3
  refine ⟨_, e, ?_⟩
  rw [WideShapes.add_plain]
  have hd : j = j / 3 * 3 + j % 3 := by omega
  rw [hd, flat_at cellsV 3 (fun _ => rfl) vs (j / 3) (j % 3) h3 (Nat.mod_lt _ (by decide))] at hj
  have hr : j % 3 = 0 ∨ j % 3 = 1 ∨ j % 3 = 2 := by omega
  rcases hr with hr | hr | hr
  · rw [hr] at hj; simp [cellsV] at hj; rw [← hj, ← e1]; congr 2; omega
  · rw [hr] at hj; simp [cellsV] at hj; rw [← hj, ← e2]; congr 2; omega
  · rw [hr] at hj; simp [cellsV] at hj; rw [← hj, ← e3]; congr 2; omega
theorem src_B {w : World} {a : Option Addr} {d : List UInt8} (h : Wr.Bytes w a d.length (Wr.lat d)) : ∀ j u, (d.map Wr.u8v)[j]? = some u → ∃ y, a = some y ∧ w.cell? (y.add j) = some u := fun j u hj => by
  have hjl := (List.getElem?_eq_some_iff.1 hj).1
  rw [List.length_map] at hjl
  obtain ⟨b, off, e, e1⟩ := h j hjl
  refine ⟨_, e, ?_⟩
  rw [WideShapes.add_plain, e1]
  rw [List.getElem?_map, List.getElem?_eq_getElem hjl] at hj
  simp only [Option.map_some, Option.some.injEq] at hj
  rw [← hj]
  simp [Wr.lat, Wr.u8v, hjl]
theorem flat_set4 (qs : List Cx) : ∀ (k : Nat) (hk : k < qs.length) (q : Cx), ((((qs.flatMap cellsC).set (k * 4) (.slice q.ka q.c.key.length q.kc)).set (k * 4 + 1) (.int .i64 q.c.w.f)).set (k * 4 + 2) (.int .i64 q.c.w.t)).set (k * 4 + 3) q.dv = (qs.set k q).flatMap cellsC := by
  induction qs with
  | nil => intro k hk; simp at hk
  | cons x qs ih =>
    intro k hk q
    cases k with
    | zero => simp [cellsC]
    | succ k =>
      have := ih k (by simpa using hk) q
      rw [List.set_cons_succ, List.flatMap_cons, List.flatMap_cons, ← this]
      simp only [cellsC, show (k + 1) * 4 = k * 4 + 4 by omega]
      rfl
/-- A cell is written over. -/
theorem DRset {w : World} {B g c : Nat} {qs : List Cx} (h : w.ownsRow B 97 4 (.slice (some ⟨g, 0, none⟩) qs.length c) qs.length (qs.flatMap cellsC)) (k : Nat) (hk : k < qs.length) (q : Cx) :
    ((((w.setCell ⟨g, k * 4, none⟩ (.slice q.ka q.c.key.length q.kc)).setCell ⟨g, k * 4 + 1, none⟩ (.int .i64 q.c.w.f)).setCell ⟨g, k * 4 + 2, none⟩ (.int .i64 q.c.w.t)).setCell ⟨g, k * 4 + 3, none⟩ q.dv).ownsRow B 97 4 (.slice (some ⟨g, 0, none⟩) qs.length c) qs.length ((qs.set k q).flatMap cellsC) ∧ w.grownBy ((((w.setCell ⟨g, k * 4, none⟩ (.slice q.ka q.c.key.length q.kc)).setCell ⟨g, k * 4 + 1, none⟩ (.int .i64 q.c.w.f)).setCell ⟨g, k * 4 + 2, none⟩ (.int .i64 q.c.w.t)).setCell ⟨g, k * 4 + 3, none⟩ q.dv) (some g) := by
  obtain ⟨h1, g1⟩ := World.ownsRow.stored h (k * 4) (.slice q.ka q.c.key.length q.kc)
  obtain ⟨h2, g2⟩ := World.ownsRow.stored h1 (k * 4 + 1) (.int .i64 q.c.w.f)
  obtain ⟨h3, g3⟩ := World.ownsRow.stored h2 (k * 4 + 2) (.int .i64 q.c.w.t)
  obtain ⟨h4, g4⟩ := World.ownsRow.stored h3 (k * 4 + 3) q.dv
  rw [flat_set4 qs k hk q] at h4
  exact ⟨h4, grown_trans (grown_trans (grown_trans g1 g2) g3) g4⟩
theorem ins_swap {α : Type} (l : List α) (i : Nat) (hi : i < l.length) (z : α) : ((l.take (i + 1) ++ z :: l.drop (i + 1)).set (i + 1) l[i]).set i z = l.take i ++ z :: l.drop i := by
  have e1 : l.take (i + 1) = l.take i ++ [l[i]] := List.take_succ_eq_append_getElem hi
  have e2 : l.drop i = l[i] :: l.drop (i + 1) := List.drop_eq_getElem_cons hi
  have hl : (l.take i).length = i := by simp; omega
  rw [e1, e2, List.append_assoc, List.singleton_append]
  rw [List.set_append_right _ _ (by omega), hl, show i + 1 - i = 1 by omega, List.set_append_right _ _ (by omega), hl, Nat.sub_self]
  rfl
theorem ins_len' {α : Type} (l : List α) (m : Nat) (hm : m ≤ l.length) (z : α) : (l.take m ++ z :: l.drop m).length = l.length + 1 := by simp; omega
theorem ins_at {α : Type} (l : List α) (m : Nat) (hm : m ≤ l.length) (z : α) : (l.take m ++ z :: l.drop m)[m]? = some z := by
  rw [List.getElem?_append_right (by simp; omega)]
  simp [Nat.min_eq_left hm]
theorem ins_lt {α : Type} (l : List α) (i : Nat) (hi : i < l.length) (z : α) : (l.take (i + 1) ++ z :: l.drop (i + 1))[i]? = some l[i] := by
  rw [List.getElem?_append_left (by simp; omega), List.getElem?_take_of_lt (by omega), List.getElem?_eq_getElem hi]
theorem infoD : (Tryz.prog.info? 97).map (fun i => (i.zero, i.size, i.bytes)) = some (some (.agg #[.slice none 0 0, .int .i64 0, .int .i64 0, .slice none 0 0]), 4, 64) := by kernel_rfl
end Go.Proofs.YtobhccmnlmlapaaGreatDoor
namespace Go.Proofs.YtobhccmnlmlapaaGreatDoor
open Go.RowKit Go.Maps
set_option linter.unusedVariables false
set_option linter.unusedSimpArgs false
set_option maxRecDepth 100000

/-- One of the document's cells is written over. -/
theorem DS.setq {w : World} {B s : Nat} {lo hi : Int} {g n c : Nat} {qs : List Cx} (h : DS w B s lo hi (.slice (some ⟨g, 0, none⟩) n c) qs) (i : Nat) (hi' : i < qs.length) (q : Cx) (hk : OV w B (.slice q.ka q.c.key.length q.kc) q.c.key) (hd : Wr.OL w B q.dv q.c.d) :
    DS ((((w.setCell ⟨g, i * 4, none⟩ (.slice q.ka q.c.key.length q.kc)).setCell ⟨g, i * 4 + 1, none⟩ (.int .i64 q.c.w.f)).setCell ⟨g, i * 4 + 2, none⟩ (.int .i64 q.c.w.t)).setCell ⟨g, i * 4 + 3, none⟩ q.dv) B s lo hi (.slice (some ⟨g, 0, none⟩) n c) (qs.set i q) ∧ w.grownBy ((((w.setCell ⟨g, i * 4, none⟩ (.slice q.ka q.c.key.length q.kc)).setCell ⟨g, i * 4 + 1, none⟩ (.int .i64 q.c.w.f)).setCell ⟨g, i * 4 + 2, none⟩ (.int .i64 q.c.w.t)).setCell ⟨g, i * 4 + 3, none⟩ q.dv) (some g) := by
  obtain ⟨a0, c0, e0⟩ := row_form h.row.own
  injection e0 with _ e1 _
  subst e1
  obtain ⟨h1, h2⟩ := DRset h.row.own i hi' q
  have hs : s ≠ g := fun e => own_not_row h.own h.row.own (by decide) g rfl e.symm
  refine ⟨⟨h.own.grown h2 (fun e => hs (Option.some.inj e)), ⟨by rw [List.length_set]; exact h1, fun y hy => ?_, fun y hy => ?_⟩, h.ge⟩, h2⟩
  · rcases List.mem_or_eq_of_mem_set hy with hy | hy
    · exact own_grown (h.row.key y hy) h2 fun gg hgg e => rows_ne h.row.own (h.row.key y hy) (by decide) gg (by rw [Option.some.inj e]; rfl) hgg
    · subst hy
      exact own_grown hk h2 fun gg hgg e => rows_ne h.row.own hk (by decide) gg (by rw [Option.some.inj e]; rfl) hgg
  · rcases List.mem_or_eq_of_mem_set hy with hy | hy
    · exact own_grown (h.row.dat y hy) h2 fun gg hgg e => rows_ne h.row.own (h.row.dat y hy) (by decide) gg (by rw [Option.some.inj e]; rfl) hgg
    · subst hy
      exact own_grown hd h2 fun gg hgg e => rows_ne h.row.own hd (by decide) gg (by rw [Option.some.inj e]; rfl) hgg
theorem DB.set {s : Nat} {u : Value} {qs : List Cx} {i : Nat} {q : Cx} {j : Nat} (h : DB s u (qs.set i q) j) : DB s u qs j ∨ (Value.slice q.ka q.c.key.length q.kc).ownBlock = some j ∨ q.dv.ownBlock = some j := by
  rcases h with h | h | ⟨y, hy, h⟩
  · exact .inl (.inl h)
  · exact .inl (.inr (.inl h))
  · rcases List.mem_or_eq_of_mem_set hy with hy | hy
    · exact .inl (.inr (.inr ⟨y, hy, h⟩))
    · subst hy; exact .inr h
theorem DR.slot {w : World} {B g n c : Nat} {qs : List Cx} (h : DR w B (.slice (some ⟨g, 0, none⟩) n c) qs) (i : Nat) (hi : i < qs.length) : w.cell? ⟨g, i * 4, none⟩ = some (.slice qs[i].ka qs[i].c.key.length qs[i].kc) ∧ w.cell? ⟨g, i * 4 + 1, none⟩ = some (.int .i64 qs[i].c.w.f) ∧ w.cell? ⟨g, i * 4 + 2, none⟩ = some (.int .i64 qs[i].c.w.t) ∧ w.cell? ⟨g, i * 4 + 3, none⟩ = some qs[i].dv ∧ w.frozen? ⟨g, i * 4, none⟩ = false ∧ w.frozen? ⟨g, i * 4 + 1, none⟩ = false ∧ w.frozen? ⟨g, i * 4 + 2, none⟩ = false ∧ w.frozen? ⟨g, i * 4 + 3, none⟩ = false := by
  obtain ⟨a0, c0, e0⟩ := row_form h.own
  injection e0 with _ e1 _
  subst e1
  obtain ⟨h1, h2, h3, h4⟩ := h.cells i hi
  exact ⟨h1, h2, h3, h4, World.ownsRow.frozenAt h.own _, World.ownsRow.frozenAt h.own _, World.ownsRow.frozenAt h.own _, World.ownsRow.frozenAt h.own _⟩
end Go.Proofs.YtobhccmnlmlapaaGreatDoor
namespace Go.Proofs.YtobhccmnlmlapaaGreatDoor
open Go.RowKit Go.Maps
set_option linter.unusedVariables false
set_option linter.unusedSimpArgs false
set_option maxRecDepth 100000
attribute [local go_sem ↓] eqlW neqW
attribute [local go_sem] guardW

theorem szD (W : World) : (sizeOf (Tryz.prog.elem 31)).run Tryz.prog W = .ok 4 W := by
  rw [show Tryz.prog.elem 31 = 97 by kernel_rfl]; exact Tryz.sizeOf97 W
theorem slD_hi (g n c k : Nat) (hk : k ≤ c) (W : World) :
    (Instr.slice 31 (.slice (some ⟨g, 0, none⟩) n c) none (some (.int .i64 (k : Int))) none).run Tryz.prog W = .ok (.slice (some ⟨g, 0, none⟩) k c) W := by
  rw [run_slice_h (P := Tryz.prog) W 31 (some ⟨g, 0, none⟩) n c (Tryz.underlying31.trans (by kernel_rfl)) .i64 _ (by omega) (by omega), Int.toNat_natCast, szD]
  simp only [Result.andThen, sliced, Option.map]
  rw [show ∀ j, (Addr.mk g 0 none).add j = Addr.mk g (0 + j) none from fun j => WideShapes.add_plain ..]
  simp
theorem slD_lo (g n c k o : Nat) (hk : k + 1 ≤ n) (hn : n ≤ c) (ho : o = if c = k + 1 then 0 else (k + 1) * 4) (W : World) :
    (Instr.slice 31 (.slice (some ⟨g, 0, none⟩) n c) (some (.int .i64 ((k : Int) + 1))) none none).run Tryz.prog W = .ok (.slice (some ⟨g, o, none⟩) (n - (k + 1)) (c - (k + 1))) W := by
  rw [run_slice_l (P := Tryz.prog) W 31 (some ⟨g, 0, none⟩) n c (Tryz.underlying31.trans (by kernel_rfl)) .i64 _ (by omega) (by omega), show ((k : Int) + 1).toNat = k + 1 by omega, szD]
  simp only [Result.andThen, sliced, Option.map]
  rw [show ∀ j, (Addr.mk g 0 none).add j = Addr.mk g (0 + j) none from fun j => WideShapes.add_plain .., ho]
  split <;> simp
theorem atD (v : Value) (lo hi : Option Value) (W : World) : (Instr.sliceAt 31 v lo hi none).run Tryz.prog W = (Instr.slice 31 v lo hi none).run Tryz.prog W :=
  run_sliceAt_slice W 31 _ _ _ _ (Tryz.underlying31.trans (by kernel_rfl))
theorem flatC_one {w : World} {B : Nat} {u : Value} {qs : List Cx} (h : DR w B u qs) (ps : List Cx) (hp : ∀ q ∈ ps, q ∈ qs) : ∀ v ∈ ps.flatMap cellsC, v.oneCell' = true := fun v hv => by
  obtain ⟨q, hq, hf⟩ := List.mem_flatMap.1 hv
  obtain ⟨a, c, e, -⟩ := h.dform (hp q hq)
  exact one_cellsC q ⟨a, _, c, e⟩ v hf
theorem DR.part {w : World} {B g c : Nat} {fs : List Cx} (h : DR w B (.slice (some ⟨g, 0, none⟩) fs.length c) fs) (lo n : Nat) (hn : lo + n ≤ fs.length) : ∀ j u, (((fs.drop lo).take n).flatMap cellsC)[j]? = some u → w.cell? (Addr.add ⟨g, lo * 4, none⟩ j) = some u := by
  intro j u hj
  have hjl := (List.getElem?_eq_some_iff.1 hj).1
  rw [len_cellsC, List.length_take, List.length_drop] at hjl
  have hd : j = j / 4 * 4 + j % 4 := by omega
  have h3 : j / 4 < ((fs.drop lo).take n).length := by rw [List.length_take, List.length_drop]; omega
  rw [WideShapes.add_plain]
  rw [hd, flat_at cellsC 4 (fun _ => rfl) _ (j / 4) (j % 4) h3 (Nat.mod_lt _ (by decide))] at hj
  rw [World.ownsRow.cellAt h.own (lo * 4 + j) (by omega), show lo * 4 + j = (lo + j / 4) * 4 + j % 4 by omega, flat_at cellsC 4 (fun _ => rfl) fs (lo + j / 4) (j % 4) (by omega) (Nat.mod_lt _ (by decide)), ← hj]
  simp
def DDrop (w : World) (B s : Nat) (lo hi : Int) (u : Value) (qs : List Cx) (o : Option Nat) (e : Ending) (w' : World) : Prop :=
  (o = none ∧ e = .returned (.bool false) ∧ Below w.heap.size w w') ∨
  ∃ i, o = some i ∧ e = .returned (.bool true) ∧ ∃ u', DS w' B s lo hi u' (qs.eraseIdx i) ∧ Gs (fun j => j = s) w w' ∧ ∀ j, DB s u' (qs.eraseIdx i) j → DB s u qs j ∨ w.heap.size ≤ j
set_option maxHeartbeats 8000000 in
theorem dropD_any (vs : List V) (a : Option Addr) (c : Nat) (x : Wn) (w : World) (B s : Nat) (lo hi : Int) (u : Value) (qs : List Cx) (h : DS w B s lo hi u qs) (hc : DC qs) (hl : VLies w a vs) (hvl : vs.length ≤ 1048576) (hB : B ≤ w.heap.size) :
    Calls Tryz.prog 25 #[.pointer (some ⟨s, 0, none⟩), .slice a vs.length c, .agg #[.int .i64 x.f, .int .i64 x.t]] w (DDrop w B s lo hi u qs (atI (qs.map (·.c)) vs x)) := by
  obtain ⟨i0, hi0, hz0, hz1, hz2⟩ := info_parts infoD
  obtain ⟨ua, uc, rfl, hcase⟩ := h.row.form
  have hn := hc.len
  have HBB := hidMk (bel1 w (.cells #[.int .i64 x.f, .int .i64 x.t] 38))
  have HA := hidMk (fun W (hb : Below w.heap.size w W) => at_any vs a c x W B s lo hi _ qs (h.later hb) hc (hl.later hb) (by omega))
  have HI : Hid (∀ i, atI (qs.map (·.c)) vs x = some i → i < qs.length) := fun i hh => by obtain ⟨hi, -⟩ := atI_some hh; simpa using hi
  have HS := hidMk h
  clear h hc hl
  unfold DDrop
  go_enter Tryz.func25, Tryz.ntmps25
  go_wp2_with fail
  refine (HA.out _ HBB.out).mono ?_
  rintro e w1 ⟨rfl, hb1⟩
  have HB1 := hidMk (HBB.out.trans (hb1.mono HBB.out.size))
  clear hb1 HA
  generalize hat0 : atI (qs.map (·.c)) vs x = o at *
  have HAT0 := hidMk hat0
  clear hat0
  cases o with
  | none =>
    unfold atV
    go_wp2_with fail
    go_ret
    exact .inl ⟨HAT0.out, rfl, HB1.out⟩
  | some k =>
    have hk := HI.out k rfl
    have hk' : (k : Int) < (qs.length : Int) := by omega
    unfold atV
    obtain ⟨g, rfl, hgB, hgl, hgc⟩ : ∃ g, ua = some ⟨g, 0, none⟩ ∧ B ≤ g ∧ g < w.heap.size ∧ qs.length ≤ uc := by
      rcases hcase with ⟨h1, -⟩ | ⟨g, h1, h2⟩
      · rw [h1] at hk; simp at hk
      · exact ⟨g, h1, h2⟩
    clear hcase
    have HS1 := hidMk (HS.out.later HB1.out)
    have d2 := HS1.out.cells.2.2
    have hsl := HS1.out.own.lt
    have hs1 := HB1.out.size
    obtain ⟨o, ho⟩ : ∃ o, o = if uc = k + 1 then 0 else (k + 1) * 4 := ⟨_, rfl⟩
    have s1 : (Instr.slice 31 (.slice (some ⟨g, 0, none⟩) qs.length uc) none (some (.int .i64 (k : Int))) none).run Tryz.prog w1 = .ok (.slice (some ⟨g, 0, none⟩) k uc) w1 := slD_hi g qs.length uc k (by omega) w1
    have s2 := atD (.slice (some ⟨g, 0, none⟩) qs.length uc) none (some (.int .i64 (k : Int))) w1
    rw [s1] at s2
    have S3 : Hid (∀ W, (Instr.slice 31 (.slice (some ⟨g, 0, none⟩) qs.length uc) (some (.int .i64 ((k : Int) + 1))) none none).run Tryz.prog W = .ok (.slice (some ⟨g, o, none⟩) (qs.length - (k + 1)) (uc - (k + 1))) W) := slD_lo g qs.length uc k o hk hgc ho
    have HO := hidMk ho
    clear ho
    have htk : (qs.take k).length = k := by rw [List.length_take]; omega
    have hdk : (qs.drop (k + 1)).length = qs.length - (k + 1) := List.length_drop
    go_wp2_with (first
      | (at_builtin; refine wpList_append_own_at _ rfl _ _ 31 rfl w.heap.size 97 i0 (.agg #[.slice none 0 0, .int .i64 0, .int .i64 0, .slice none 0 0]) 4 64 Tryz.underlying31 hi0 hz0 hz1 hz2 rfl (by decide) (.slice none 0 0) 0 [] rfl (World.ownsRow_nil _ _ _ _) ⟨g, 0, none⟩ k uc ((qs.take k).flatMap cellsC) rfl ?c0 ?c1 ?c2 ?c3 ?c4 ?c5 ?_))
    case c0 => rw [len_cellsC, htk]
    case c1 =>
      have := HS1.out.row.part 0 k (by omega)
      rw [List.drop_zero, Nat.zero_mul] at this
      exact this
    case c2 => exact flatC_one HS1.out.row _ (fun q hq => List.mem_of_mem_take hq)
    case c3 => unfold maxLen; omega
    case c4 => omega
    case c5 => exact hs1
    intro v1 w2 hown hgrow _ hat
    have hb2 : Below w1.heap.size w1 w2 := ⟨hgrow.os, hgrow.tape, hgrow.output, hgrow.size, fun i hi => hgrow.block i hi (by simp [Value.ownBlock])⟩
    have HS2 := hidMk (HS1.out.later hb2)
    have HOW := hidMk hown
    have HB2 := hidMk (HB1.out.trans (hb2.mono hs1))
    have hs2 := hb2.size
    have s3 := S3.out w2
    have s4 := atD (.slice (some ⟨g, 0, none⟩) qs.length uc) (some (.int .i64 ((k : Int) + 1))) none w2
    rw [s3] at s4
    obtain ⟨a1, c1, rfl⟩ := row_form hown
    have HFAR : Hid (∀ j, (Value.slice a1 k c1).ownBlock = some j → w.heap.size ≤ j) := fun j hj => (World.ownsRow.lt HOW.out j (by simpa using hj)).1
    have d2' := HS2.out.cells.2.2
    clear hown hgrow hat hb2 S3 d2
    have hkk : IntKind.i64.wrap ((k : Int) + 1) = (k : Int) + 1 := wi64 (by omega) (by omega)
    go_wp2_with (first
      | (at_builtin; refine wpList_append_own_at _ rfl _ _ 31 rfl w.heap.size 97 i0 (.agg #[.slice none 0 0, .int .i64 0, .int .i64 0, .slice none 0 0]) 4 64 Tryz.underlying31 hi0 hz0 hz1 hz2 rfl (by decide) _ k ((qs.take k).flatMap cellsC) rfl HOW.out ⟨g, o, none⟩ (qs.length - (k + 1)) (uc - (k + 1)) ((qs.drop (k + 1)).flatMap cellsC) rfl ?c0 ?c1 ?c2 ?c3 ?c4 ?c5 ?_))
    case c0 => rw [len_cellsC, hdk]
    case c1 =>
      by_cases hck : uc = k + 1
      · have : qs.drop (k + 1) = [] := List.drop_eq_nil_of_le (by omega)
        rw [this]; intro j u hj; cases hj
      · have := HS2.out.row.part (k + 1) (qs.length - (k + 1)) (by omega)
        rw [HO.out, if_neg hck]
        rw [List.take_of_length_le (by rw [hdk]; exact Nat.le_refl _)] at this
        exact this
    case c2 => exact flatC_one HS2.out.row _ (fun q hq => List.mem_of_mem_drop hq)
    case c3 => unfold maxLen; omega
    case c4 => omega
    case c5 => omega
    intro v2 w3 hown hgrow _ hat
    obtain ⟨a2, c2, hv2⟩ := row_form hown
    subst hv2
    generalize hv2 : Value.slice a2 (k + (qs.length - (k + 1))) c2 = v2 at *
    have HB3 : Hid (Below w.heap.size w w3) := HB2.out.trans ⟨hgrow.os, hgrow.tape, hgrow.output, hgrow.size, fun i hi => hgrow.block i (by omega) (fun e => by have := HFAR.out i e.symm; omega)⟩
    have HS3 := hidMk (HS.out.later HB3.out)
    have hsl3 := HS3.out.own.lt
    have f2 := HS3.out.own.soft 2
    have d2'' := HS3.out.cells.2.2
    obtain ⟨p1, p2⟩ := HS3.out.own.put 2 v2
    have HOW3 : Hid (w3.ownsRow w.heap.size 97 4 v2 (qs.eraseIdx k).length ((qs.eraseIdx k).flatMap cellsC)) := by
      unfold Hid
      rw [List.eraseIdx_eq_take_drop_succ, List.length_append, htk, hdk, List.flatMap_append]; exact hown
    have HFin : Hid (∃ u', DS (w3.setCell ⟨s, 2, none⟩ v2) B s lo hi u' (qs.eraseIdx k) ∧ Gs (fun j => j = s) w (w3.setCell ⟨s, 2, none⟩ v2) ∧ ∀ j, DB s u' (qs.eraseIdx k) j → DB s (.slice (some ⟨g, 0, none⟩) qs.length uc) qs j ∨ w.heap.size ≤ j) := by
      have hlt := HS.out.own.lt
      have gs : Gs (fun j => j = s) w3 (w3.setCell ⟨s, 2, none⟩ v2) := Gs.one p2 (fun k e => (Option.some.inj e).symm)
      refine ⟨v2, ⟨p1, ⟨?_, fun q hq => ?_, fun q hq => ?_⟩, HS.out.ge⟩, (Gs.below HB3.out).trans gs, fun j hj => ?_⟩
      · exact World.ownsRow.mono (gs.own HOW3.out (fun gg hgg e => by have := (World.ownsRow.lt HOW3.out gg hgg).1; omega)) hB
      · have hq' := List.mem_of_mem_eraseIdx hq
        exact gs.own (HS3.out.row.key q hq') (fun gg hgg e => own_not_row HS3.out.own (HS3.out.row.key q hq') (by decide) gg hgg e)
      · have hq' := List.mem_of_mem_eraseIdx hq
        exact gs.own (HS3.out.row.dat q hq') (fun gg hgg e => own_not_row HS3.out.own (HS3.out.row.dat q hq') (by decide) gg hgg e)
      · rcases hj with e | e | ⟨q, hq, e⟩
        · exact .inl (.inl e)
        · exact .inr (World.ownsRow.lt HOW3.out j e).1
        · exact .inl (.inr (.inr ⟨q, List.mem_of_mem_eraseIdx hq, e⟩))
    clear hown hgrow hat p1 p2
    subst hv2
    go_wp2_with fail
    go_ret
    exact .inr ⟨k, HAT0.out, rfl, HFin.out⟩
end Go.Proofs.YtobhccmnlmlapaaGreatDoor
