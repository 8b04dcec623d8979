import Derived.Test.YtplaplhmjpfbjaaGreatDoorXe1
import Derived.Test.YtplaplhmjpfbjaaGreatDoorXb1
import Derived.Test.YtplaplhmjpfbjaaGreatDoorOoW
import Derived.Laws.CopyOwn
import Derived.WideShapes
import Derived.Laws.AppendOwnNone
import Derived.Maps.AppendAt
import Derived.Deep.AppendLies
import Derived.Deep.Upon
import Derived.Lib.SliceRun
namespace Go.Proofs.YtplaplhmjpfbjaaGreatDoor.Oo
open Go.RowKit
set_option linter.unusedVariables false
set_option linter.unusedSimpArgs false
set_option maxRecDepth 100000

theorem hidO {p : Prop} (h : p) : Hid p := h
/-- What is folded, and of which column. -/
structure Ag where
  k : Int
  at_ : Int
def StrsAt (w : World) (a : Option Addr) (l : List ByteArray) : Prop := ∀ i (h : i < l.length), ∃ b off, a = some ⟨b, off, none⟩ ∧ w.cell? ⟨b, off + i, none⟩ = some (.string l[i])
def IntsAt (w : World) (a : Option Addr) (l : List Int) : Prop := ∀ i (h : i < l.length), ∃ b off, a = some ⟨b, off, none⟩ ∧ w.cell? ⟨b, off + i, none⟩ = some (.int .i64 l[i])
def AgsAt (w : World) (a : Option Addr) (l : List Ag) : Prop := ∀ i (h : i < l.length), ∃ b off, a = some ⟨b, off, none⟩ ∧ w.cell? ⟨b, off + i * 2, none⟩ = some (.int .i64 l[i].k) ∧ w.cell? ⟨b, off + i * 2 + 1, none⟩ = some (.int .i64 l[i].at_)
theorem StrsAt.later {w wx : World} {a : Option Addr} {l : List ByteArray} (h : StrsAt w a l) (hb : Below w.heap.size w wx) : StrsAt wx a l := fun i hi => by
  obtain ⟨b, off, e, h1⟩ := h i hi
  exact ⟨b, off, e, xcell hb h1⟩
theorem IntsAt.later {w wx : World} {a : Option Addr} {l : List Int} (h : IntsAt w a l) (hb : Below w.heap.size w wx) : IntsAt wx a l := fun i hi => by
  obtain ⟨b, off, e, h1⟩ := h i hi
  exact ⟨b, off, e, xcell hb h1⟩
theorem AgsAt.later {w wx : World} {a : Option Addr} {l : List Ag} (h : AgsAt w a l) (hb : Below w.heap.size w wx) : AgsAt wx a l := fun i hi => by
  obtain ⟨b, off, e, h1, h2⟩ := h i hi
  exact ⟨b, off, e, xcell hb h1, xcell hb h2⟩
def cellsC (o : Co) : List Value := [.string o.nm, .int .i64 o.k]
def cellsA (o : Ag) : List Value := [.int .i64 o.k, .int .i64 o.at_]
def cellsS (o : ByteArray) : List Value := [.string o]
def cellsI (o : Int) : List Value := [.int .i64 o]
theorem one_cellsC (v : Co) : ∀ u ∈ cellsC v, u.oneCell' = true := by intro u hu; simp [cellsC] at hu; rcases hu with rfl | rfl <;> rfl
theorem len_cellsC (vs : List Co) : (vs.flatMap cellsC).length = vs.length * 2 := by
  induction vs with
  | nil => rfl
  | cons a l ih => rw [List.flatMap_cons, List.length_append, ih, List.length_cons]; simp [cellsC]; omega
theorem atC_cells {w : World} {b off : Nat} {vs : List Co} (h : ColsAt w (some ⟨b, off, none⟩) vs) : ∀ j u, (vs.flatMap cellsC)[j]? = some u → w.cell? ⟨b, off + j, none⟩ = some u := by
  intro j u hj
  have hlt : j < vs.length * 2 := by
    have := (List.getElem?_eq_some_iff.1 hj).1
    rwa [len_cellsC] at this
  have hi : j / 2 < vs.length := by omega
  have e : j = j / 2 * 2 + j % 2 := by omega
  have hf := flatAt cellsC 2 (fun _ => rfl) vs (j / 2) (j % 2) hi (by omega)
  rw [← e, hj] at hf
  obtain ⟨b', off', e1, h1, h2⟩ := h (j / 2) hi
  cases e1
  have hm : j % 2 = 0 ∨ j % 2 = 1 := by omega
  rw [show off + j = off + j / 2 * 2 + j % 2 by omega]
  rcases hm with hm | hm
  · rw [hm] at hf ⊢
    rw [hf]; exact h1
  · rw [hm] at hf ⊢
    rw [hf]; exact h2
theorem infoC : (Tryz.prog.info? 43).map (fun i => (i.zero, i.size, i.bytes)) = some (some (.agg #[.string ⟨#[]⟩, .int .i64 0]), 2, 24) := by kernel_rfl
set_option maxHeartbeats 1000000 in
/-- slices.Clone. -/
theorem cloneC (a : Option Addr) (vs : List Co) (c : Nat) (w : World) (h : ColsAt w a vs) (hl : vs.length ≤ 5864062014805) :
    Calls Tryz.prog 28 #[.slice a vs.length c] w fun e w' => ∃ a' c', e = .returned (.slice a' vs.length c') ∧ w'.ownsRow w.heap.size 43 2 (.slice a' vs.length c') vs.length (vs.flatMap cellsC) ∧ Below w.heap.size w w' := by
  obtain ⟨i0, hi0, hz0, hz1, hz2⟩ := info_parts infoC
  have q22 : ∀ (w : World) (a : Option Addr) (n c n' c' : Nat), (binOp .eql 23 (.slice a n c) (.slice none n' c')).run Tryz.prog w = .ok (.bool a.isNone) w := fun w a n c n' c' => Lib.run_eql_slice_nil w _ _ a n c n' c' Tryz.underlying23
  cases a with
  | none =>
    have h0 : vs = [] := by
      cases vs with
      | nil => rfl
      | cons v l => obtain ⟨_, _, e, _⟩ := h 0 (by simp); cases e
    subst h0
    go_enter Tryz.func28, Tryz.ntmps28
    go_wp2
    go_ret
    exact ⟨none, 0, rfl, World.ownsRow_nil _ _ _ _, Below.refl _ _⟩
  | some ad =>
    have HV : Hid (ColsAt w (some ad) vs) := h
    clear h
    go_enter Tryz.func28, Tryz.ntmps28
    go_wp2_with (at_builtin; refine wpList_append_own_at _ rfl _ _ 23 rfl w.heap.size 43 i0 (.agg #[.string ⟨#[]⟩, .int .i64 0]) 2 24 Tryz.underlying23 hi0 hz0 hz1 hz2 rfl (by decide) _ 0 [] rfl (World.ownsRow_made w #[] 0 (Nat.le_refl _) (Nat.zero_le _) (by simp)) ad vs.length c (vs.flatMap cellsC) rfl ?qc1 ?qc2 ?qc3 ?qc4 ?qc5 ?qc6 ?_)
    case qc1 => exact len_cellsC vs
    case qc2 =>
      intro j u hj
      have hlt := (List.getElem?_eq_some_iff.1 hj).1
      rw [len_cellsC] at hlt
      obtain ⟨b, off, e, -⟩ := HV.out 0 (by omega)
      cases e
      rw [WideShapes.add_plain]
      exact Lib.cell?_alloc_some _ (atC_cells HV.out j u hj)
    case qc3 => intro u hu; obtain ⟨v, _, hu⟩ := List.mem_flatMap.1 hu; exact one_cellsC v u hu
    case qc4 => unfold maxLen; omega
    case qc5 => omega
    case qc6 => simp
    intro v' w1 hown hgrow hnil hat
    have hB : Below w.heap.size w w1 := ((Below.refl _ w).alloc (Nat.le_refl _) _).grown hgrow (by simp) (by intro k hk; simp [Value.ownBlock] at hk; omega)
    have hO : w1.ownsRow w.heap.size 43 2 v' vs.length (vs.flatMap cellsC) := by
      simpa using hown
    obtain ⟨a', c', rfl⟩ : ∃ a' c', v' = .slice a' vs.length c' := by
      rcases hO.2 with ⟨h1, h2⟩ | ⟨g, c, cur, h1, h2, h3, -⟩
      · exact ⟨none, 0, by rw [h1, h2]⟩
      · exact ⟨_, _, h1⟩
    have HO : Hid (w1.ownsRow w.heap.size 43 2 (.slice a' vs.length c') vs.length (vs.flatMap cellsC)) := hO
    clear hown hgrow hnil hat hO
    go_wp2
    go_ret
    exact ⟨a', c', rfl, HO.out, hB⟩
theorem one_cellsA (v : Ag) : ∀ u ∈ cellsA v, u.oneCell' = true := by intro u hu; simp [cellsA] at hu; rcases hu with rfl | rfl <;> rfl
theorem len_cellsA (vs : List Ag) : (vs.flatMap cellsA).length = vs.length * 2 := by
  induction vs with
  | nil => rfl
  | cons a l ih => rw [List.flatMap_cons, List.length_append, ih, List.length_cons]; simp [cellsA]; omega
theorem atA_cells {w : World} {b off : Nat} {vs : List Ag} (h : AgsAt w (some ⟨b, off, none⟩) vs) : ∀ j u, (vs.flatMap cellsA)[j]? = some u → w.cell? ⟨b, off + j, none⟩ = some u := by
  intro j u hj
  have hlt : j < vs.length * 2 := by
    have := (List.getElem?_eq_some_iff.1 hj).1
    rwa [len_cellsA] at this
  have hi : j / 2 < vs.length := by omega
  have e : j = j / 2 * 2 + j % 2 := by omega
  have hf := flatAt cellsA 2 (fun _ => rfl) vs (j / 2) (j % 2) hi (by omega)
  rw [← e, hj] at hf
  obtain ⟨b', off', e1, h1, h2⟩ := h (j / 2) hi
  cases e1
  have hm : j % 2 = 0 ∨ j % 2 = 1 := by omega
  rw [show off + j = off + j / 2 * 2 + j % 2 by omega]
  rcases hm with hm | hm
  · rw [hm] at hf ⊢
    rw [hf]; exact h1
  · rw [hm] at hf ⊢
    rw [hf]; exact h2
theorem infoA : (Tryz.prog.info? 69).map (fun i => (i.zero, i.size, i.bytes)) = some (some (.agg #[.int .i64 0, .int .i64 0]), 2, 16) := by kernel_rfl
set_option maxHeartbeats 1000000 in
/-- slices.Clone. -/
theorem cloneA (a : Option Addr) (vs : List Ag) (c : Nat) (w : World) (h : AgsAt w a vs) (hl : vs.length ≤ 8796093022208) :
    Calls Tryz.prog 41 #[.slice a vs.length c] w fun e w' => ∃ a' c', e = .returned (.slice a' vs.length c') ∧ w'.ownsRow w.heap.size 69 2 (.slice a' vs.length c') vs.length (vs.flatMap cellsA) ∧ Below w.heap.size w w' := by
  obtain ⟨i0, hi0, hz0, hz1, hz2⟩ := info_parts infoA
  have q22 : ∀ (w : World) (a : Option Addr) (n c n' c' : Nat), (binOp .eql 27 (.slice a n c) (.slice none n' c')).run Tryz.prog w = .ok (.bool a.isNone) w := fun w a n c n' c' => Lib.run_eql_slice_nil w _ _ a n c n' c' Tryz.underlying27
  cases a with
  | none =>
    have h0 : vs = [] := by
      cases vs with
      | nil => rfl
      | cons v l => obtain ⟨_, _, e, _⟩ := h 0 (by simp); cases e
    subst h0
    go_enter Tryz.func41, Tryz.ntmps41
    go_wp2
    go_ret
    exact ⟨none, 0, rfl, World.ownsRow_nil _ _ _ _, Below.refl _ _⟩
  | some ad =>
    have HV : Hid (AgsAt w (some ad) vs) := h
    clear h
    go_enter Tryz.func41, Tryz.ntmps41
    go_wp2_with (at_builtin; refine wpList_append_own_at _ rfl _ _ 27 rfl w.heap.size 69 i0 (.agg #[.int .i64 0, .int .i64 0]) 2 16 Tryz.underlying27 hi0 hz0 hz1 hz2 rfl (by decide) _ 0 [] rfl (World.ownsRow_made w #[] 0 (Nat.le_refl _) (Nat.zero_le _) (by simp)) ad vs.length c (vs.flatMap cellsA) rfl ?qc1 ?qc2 ?qc3 ?qc4 ?qc5 ?qc6 ?_)
    case qc1 => exact len_cellsA vs
    case qc2 =>
      intro j u hj
      have hlt := (List.getElem?_eq_some_iff.1 hj).1
      rw [len_cellsA] at hlt
      obtain ⟨b, off, e, -⟩ := HV.out 0 (by omega)
      cases e
      rw [WideShapes.add_plain]
      exact Lib.cell?_alloc_some _ (atA_cells HV.out j u hj)
    case qc3 => intro u hu; obtain ⟨v, _, hu⟩ := List.mem_flatMap.1 hu; exact one_cellsA v u hu
    case qc4 => unfold maxLen; omega
    case qc5 => omega
    case qc6 => simp
    intro v' w1 hown hgrow hnil hat
    have hB : Below w.heap.size w w1 := ((Below.refl _ w).alloc (Nat.le_refl _) _).grown hgrow (by simp) (by intro k hk; simp [Value.ownBlock] at hk; omega)
    have hO : w1.ownsRow w.heap.size 69 2 v' vs.length (vs.flatMap cellsA) := by
      simpa using hown
    obtain ⟨a', c', rfl⟩ : ∃ a' c', v' = .slice a' vs.length c' := by
      rcases hO.2 with ⟨h1, h2⟩ | ⟨g, c, cur, h1, h2, h3, -⟩
      · exact ⟨none, 0, by rw [h1, h2]⟩
      · exact ⟨_, _, h1⟩
    have HO : Hid (w1.ownsRow w.heap.size 69 2 (.slice a' vs.length c') vs.length (vs.flatMap cellsA)) := hO
    clear hown hgrow hnil hat hO
    go_wp2
    go_ret
    exact ⟨a', c', rfl, HO.out, hB⟩
theorem one_cellsS (v : ByteArray) : ∀ u ∈ cellsS v, u.oneCell' = true := by intro u hu; simp [cellsS] at hu; subst hu; rfl
theorem len_cellsS (vs : List ByteArray) : (vs.flatMap cellsS).length = vs.length * 1 := by
  induction vs with
  | nil => rfl
  | cons a l ih => rw [List.flatMap_cons, List.length_append, ih, List.length_cons]; simp [cellsS]; omega
theorem atS_cells {w : World} {b off : Nat} {vs : List ByteArray} (h : StrsAt w (some ⟨b, off, none⟩) vs) : ∀ j u, (vs.flatMap cellsS)[j]? = some u → w.cell? ⟨b, off + j, none⟩ = some u := by
  intro j u hj
  have hlt : j < vs.length := by
    have := (List.getElem?_eq_some_iff.1 hj).1
    rw [len_cellsS] at this
    omega
  have hf := flatAt cellsS 1 (fun _ => rfl) vs j 0 hlt (by omega)
  rw [show j * 1 + 0 = j by omega, hj] at hf
  obtain ⟨b', off', e1, h1⟩ := h j hlt
  cases e1
  rw [hf]; exact h1
theorem infoS : (Tryz.prog.info? 9).map (fun i => (i.zero, i.size, i.bytes)) = some (some (.string ⟨#[]⟩), 1, 16) := by kernel_rfl
set_option maxHeartbeats 1000000 in
/-- slices.Clone. -/
theorem cloneS (a : Option Addr) (vs : List ByteArray) (c : Nat) (w : World) (h : StrsAt w a vs) (hl : vs.length ≤ 8796093022208) :
    Calls Tryz.prog 39 #[.slice a vs.length c] w fun e w' => ∃ a' c', e = .returned (.slice a' vs.length c') ∧ w'.ownsRow w.heap.size 9 1 (.slice a' vs.length c') vs.length (vs.flatMap cellsS) ∧ Below w.heap.size w w' := by
  obtain ⟨i0, hi0, hz0, hz1, hz2⟩ := info_parts infoS
  have q22 : ∀ (w : World) (a : Option Addr) (n c n' c' : Nat), (binOp .eql 22 (.slice a n c) (.slice none n' c')).run Tryz.prog w = .ok (.bool a.isNone) w := fun w a n c n' c' => Lib.run_eql_slice_nil w _ _ a n c n' c' Tryz.underlying22
  cases a with
  | none =>
    have h0 : vs = [] := by
      cases vs with
      | nil => rfl
      | cons v l => obtain ⟨_, _, e, _⟩ := h 0 (by simp); cases e
    subst h0
    go_enter Tryz.func39, Tryz.ntmps39
    go_wp2
    go_ret
    exact ⟨none, 0, rfl, World.ownsRow_nil _ _ _ _, Below.refl _ _⟩
  | some ad =>
    have HV : Hid (StrsAt w (some ad) vs) := h
    clear h
    go_enter Tryz.func39, Tryz.ntmps39
    go_wp2_with (at_builtin; refine wpList_append_own_at _ rfl _ _ 22 rfl w.heap.size 9 i0 (.string ⟨#[]⟩) 1 16 Tryz.underlying22 hi0 hz0 hz1 hz2 rfl (by decide) _ 0 [] rfl (World.ownsRow_made w #[] 0 (Nat.le_refl _) (Nat.zero_le _) (by simp)) ad vs.length c (vs.flatMap cellsS) rfl ?qc1 ?qc2 ?qc3 ?qc4 ?qc5 ?qc6 ?_)
    case qc1 => exact len_cellsS vs
    case qc2 =>
      intro j u hj
      have hlt := (List.getElem?_eq_some_iff.1 hj).1
      rw [len_cellsS] at hlt
      obtain ⟨b, off, e, -⟩ := HV.out 0 (by omega)
      cases e
      rw [WideShapes.add_plain]
      exact Lib.cell?_alloc_some _ (atS_cells HV.out j u hj)
    case qc3 => intro u hu; obtain ⟨v, _, hu⟩ := List.mem_flatMap.1 hu; exact one_cellsS v u hu
    case qc4 => unfold maxLen; omega
    case qc5 => omega
    case qc6 => simp
    intro v' w1 hown hgrow hnil hat
    have hB : Below w.heap.size w w1 := ((Below.refl _ w).alloc (Nat.le_refl _) _).grown hgrow (by simp) (by intro k hk; simp [Value.ownBlock] at hk; omega)
    have hO : w1.ownsRow w.heap.size 9 1 v' vs.length (vs.flatMap cellsS) := by
      simpa using hown
    obtain ⟨a', c', rfl⟩ : ∃ a' c', v' = .slice a' vs.length c' := by
      rcases hO.2 with ⟨h1, h2⟩ | ⟨g, c, cur, h1, h2, h3, -⟩
      · exact ⟨none, 0, by rw [h1, h2]⟩
      · exact ⟨_, _, h1⟩
    have HO : Hid (w1.ownsRow w.heap.size 9 1 (.slice a' vs.length c') vs.length (vs.flatMap cellsS)) := hO
    clear hown hgrow hnil hat hO
    go_wp2
    go_ret
    exact ⟨a', c', rfl, HO.out, hB⟩
theorem one_cellsI (v : Int) : ∀ u ∈ cellsI v, u.oneCell' = true := by intro u hu; simp [cellsI] at hu; subst hu; rfl
theorem len_cellsI (vs : List Int) : (vs.flatMap cellsI).length = vs.length * 1 := by
  induction vs with
  | nil => rfl
  | cons a l ih => rw [List.flatMap_cons, List.length_append, ih, List.length_cons]; simp [cellsI]; omega
theorem atI_cells {w : World} {b off : Nat} {vs : List Int} (h : IntsAt w (some ⟨b, off, none⟩) vs) : ∀ j u, (vs.flatMap cellsI)[j]? = some u → w.cell? ⟨b, off + j, none⟩ = some u := by
  intro j u hj
  have hlt : j < vs.length := by
    have := (List.getElem?_eq_some_iff.1 hj).1
    rw [len_cellsI] at this
    omega
  have hf := flatAt cellsI 1 (fun _ => rfl) vs j 0 hlt (by omega)
  rw [show j * 1 + 0 = j by omega, hj] at hf
  obtain ⟨b', off', e1, h1⟩ := h j hlt
  cases e1
  rw [hf]; exact h1
theorem infoI : (Tryz.prog.info? 3).map (fun i => (i.zero, i.size, i.bytes)) = some (some (.int .i64 0), 1, 8) := by kernel_rfl
set_option maxHeartbeats 1000000 in
/-- slices.Clone. -/
theorem cloneI (a : Option Addr) (vs : List Int) (c : Nat) (w : World) (h : IntsAt w a vs) (hl : vs.length ≤ 17592186044416) :
    Calls Tryz.prog 40 #[.slice a vs.length c] w fun e w' => ∃ a' c', e = .returned (.slice a' vs.length c') ∧ w'.ownsRow w.heap.size 3 1 (.slice a' vs.length c') vs.length (vs.flatMap cellsI) ∧ Below w.heap.size w w' := by
  obtain ⟨i0, hi0, hz0, hz1, hz2⟩ := info_parts infoI
  have q22 : ∀ (w : World) (a : Option Addr) (n c n' c' : Nat), (binOp .eql 24 (.slice a n c) (.slice none n' c')).run Tryz.prog w = .ok (.bool a.isNone) w := fun w a n c n' c' => Lib.run_eql_slice_nil w _ _ a n c n' c' Tryz.underlying24
  cases a with
  | none =>
    have h0 : vs = [] := by
      cases vs with
      | nil => rfl
      | cons v l => obtain ⟨_, _, e, _⟩ := h 0 (by simp); cases e
    subst h0
    go_enter Tryz.func40, Tryz.ntmps40
    go_wp2
    go_ret
    exact ⟨none, 0, rfl, World.ownsRow_nil _ _ _ _, Below.refl _ _⟩
  | some ad =>
    have HV : Hid (IntsAt w (some ad) vs) := h
    clear h
    go_enter Tryz.func40, Tryz.ntmps40
    go_wp2_with (at_builtin; refine wpList_append_own_at _ rfl _ _ 24 rfl w.heap.size 3 i0 (.int .i64 0) 1 8 Tryz.underlying24 hi0 hz0 hz1 hz2 rfl (by decide) _ 0 [] rfl (World.ownsRow_made w #[] 0 (Nat.le_refl _) (Nat.zero_le _) (by simp)) ad vs.length c (vs.flatMap cellsI) rfl ?qc1 ?qc2 ?qc3 ?qc4 ?qc5 ?qc6 ?_)
    case qc1 => exact len_cellsI vs
    case qc2 =>
      intro j u hj
      have hlt := (List.getElem?_eq_some_iff.1 hj).1
      rw [len_cellsI] at hlt
      obtain ⟨b, off, e, -⟩ := HV.out 0 (by omega)
      cases e
      rw [WideShapes.add_plain]
      exact Lib.cell?_alloc_some _ (atI_cells HV.out j u hj)
    case qc3 => intro u hu; obtain ⟨v, _, hu⟩ := List.mem_flatMap.1 hu; exact one_cellsI v u hu
    case qc4 => unfold maxLen; omega
    case qc5 => omega
    case qc6 => simp
    intro v' w1 hown hgrow hnil hat
    have hB : Below w.heap.size w w1 := ((Below.refl _ w).alloc (Nat.le_refl _) _).grown hgrow (by simp) (by intro k hk; simp [Value.ownBlock] at hk; omega)
    have hO : w1.ownsRow w.heap.size 3 1 v' vs.length (vs.flatMap cellsI) := by
      simpa using hown
    obtain ⟨a', c', rfl⟩ : ∃ a' c', v' = .slice a' vs.length c' := by
      rcases hO.2 with ⟨h1, h2⟩ | ⟨g, c, cur, h1, h2, h3, -⟩
      · exact ⟨none, 0, by rw [h1, h2]⟩
      · exact ⟨_, _, h1⟩
    have HO : Hid (w1.ownsRow w.heap.size 3 1 (.slice a' vs.length c') vs.length (vs.flatMap cellsI)) := hO
    clear hown hgrow hnil hat hO
    go_wp2
    go_ret
    exact ⟨a', c', rfl, HO.out, hB⟩
/-- Columns in a row of one's own. -/
def OC (w : World) (B : Nat) (x : Value) (l : List Co) : Prop := w.ownsRow B 43 2 x l.length (l.flatMap cellsC)
theorem OC.later {w w' : World} {B : Nat} {x : Value} {l : List Co} (h : OC w B x l) (hb : Below w.heap.size w w') : OC w' B x l := xownLater h hb
theorem OC.nil (w : World) (B : Nat) : OC w B (.slice none 0 0) [] := World.ownsRow_nil _ _ _ _
theorem OC.form {w : World} {B : Nat} {x : Value} {l : List Co} (h : OC w B x l) : ∃ a c, x = .slice a l.length c ∧ ColsAt w a l ∧ ∀ y, a = some y → B ≤ y.block ∧ y.block < w.heap.size := by
  rcases h.2 with ⟨h1, h2⟩ | ⟨g, c, cur, h1, h2, h3, -⟩
  · refine ⟨none, 0, by rw [h1, h2], fun i hi => absurd hi (by omega), fun y hy => by cases hy⟩
  · refine ⟨some ⟨g, 0, none⟩, c, h1, fun i hi => ?_, fun y hy => ?_⟩
    · rw [h1] at h
      have key : ∀ j, j < 2 → w.cell? ⟨g, i * 2 + j, none⟩ = (cellsC l[i])[j]? := fun j hj => by
        rw [World.ownsRow.cellAt h (i * 2 + j) (by omega), flatAt cellsC 2 (fun _ => rfl) l i j hi hj]
      exact ⟨g, 0, rfl, by rw [Nat.zero_add]; exact key 0 (by decide), by rw [Nat.zero_add]; exact key 1 (by decide)⟩
    · cases hy
      rcases Nat.lt_or_ge g w.heap.size with h | h
      · exact ⟨h2, h⟩
      · rw [Array.getElem?_eq_none h] at h3; cases h3
/-- append(s, l...) of columns. -/
theorem app_C {w : World} {ops : Array Oper} {rest : List Oper} {o : Oper} {ac : Act} {Q : Exit → Act → World → Prop} (hgd : o.guard = none) (sx x : Operand) (ho : o.op = .call { callee := .builtin .append, args := #[sx, x], argTypes := #[23, 23] })
    (B : Nat) (v : Value) (s l : List Co) (a : Option Addr) (c : Nat) (hs : ac.eval sx = v) (hown : OC w B v s) (hx : ac.eval x = .slice a l.length c) (hl : ColsAt w a l) (hm : s.length + l.length ≤ 5864062014805) (hB : B ≤ w.heap.size)
    (h : ∀ v' w', OC w' B v' (s ++ l) → w.grownBy w' v.ownBlock → wpList Tryz.prog ops Q rest (ac.put o.dst v') w') : wpList Tryz.prog ops Q (o :: rest) ac w := by
  obtain ⟨i0, hi0, hz0, hz1, hz2⟩ := info_parts infoC
  cases a with
  | some ad =>
    refine wpList_append_own_at _ hgd sx x 23 ho B 43 i0 (.agg #[.string ⟨#[]⟩, .int .i64 0]) 2 24 Tryz.underlying23 hi0 hz0 hz1 hz2 rfl (by decide) v s.length (s.flatMap cellsC) hs hown ad l.length c (l.flatMap cellsC) hx (len_cellsC l) ?_ (fun u hu => by obtain ⟨v, _, hu⟩ := List.mem_flatMap.1 hu; exact one_cellsC v u hu) (by unfold maxLen; omega) (by omega) hB ?_
    · intro j u hj
      have hlt := (List.getElem?_eq_some_iff.1 hj).1
      rw [len_cellsC] at hlt
      obtain ⟨b, off, e, -⟩ := hl 0 (by omega)
      cases e
      rw [WideShapes.add_plain]
      exact atC_cells hl j u hj
    intro v' w' h1 h2 _ _
    refine h v' w' ?_ h2
    unfold OC
    rw [List.length_append, List.flatMap_append]
    exact h1
  | none =>
    have hl0 : l = [] := by
      cases l with
      | nil => rfl
      | cons y r => obtain ⟨b, off, e, -⟩ := hl 0 (by simp); cases e
    subst hl0
    obtain ⟨ao, cs, rfl, -⟩ := hown.form
    have hle : s.length ≤ cs := by
      rcases hown.2 with ⟨h1, h2⟩ | ⟨g, cap, cur, h1, h2, h3, h4, -⟩
      · simp at h1; omega
      · simp at h1; omega
    refine wpList_plain hgd fun K hK => ?_
    have hr := run_append_nothing (P := Tryz.prog) w 23 23 o.type 43 i0 Tryz.underlying23 hi0 ao s.length cs hle (.slice none 0 c) (Src.ofNil w Tryz.underlying23 c)
    have hx' : ac.eval x = .slice none 0 c := hx
    unfold Oper.wp execOp
    simp only [ho, resolve, invoke, builtin, Sem.run_bind, Sem.run_pure, Result.andThen_ok, List.map_toArray, List.map_cons, List.map_nil, hs, hx', hr]
    refine hK _ _ (h _ w (by rw [List.append_nil]; exact hown) ⟨rfl, rfl, rfl, Nat.le_refl _, fun _ _ _ => rfl⟩)
end Go.Proofs.YtplaplhmjpfbjaaGreatDoor.Oo
namespace Go.Proofs.YtplaplhmjpfbjaaGreatDoor.Oo
open Go.RowKit
set_option linter.unusedVariables false
set_option linter.unusedSimpArgs false
set_option maxRecDepth 100000

/-- An operator. -/
structure OpD where
  k : Int
  ex : List ByteArray
  nm : List ByteArray
  c : List Co
  r : List Co
  ks : List Int
  os : List Int
  wk : Int
  ws : Int
  wt : Int
  ag : List Ag
  ou : Bool
/-- Where its parts lie. -/
structure OpA where
  ea : Option Addr
  ec : Nat
  na : Option Addr
  nc : Nat
  ca : Option Addr
  cc : Nat
  ra : Option Addr
  rc : Nat
  ka : Option Addr
  kc : Nat
  oa : Option Addr
  oc : Nat
  ga : Option Addr
  gc : Nat
def opCs (o : OpD) (p : OpA) : Array Value := #[.int .i64 o.k, .slice p.ea o.ex.length p.ec, .slice p.na o.nm.length p.nc, .slice p.ca o.c.length p.cc, .slice p.ra o.r.length p.rc, .slice p.ka o.ks.length p.kc, .slice p.oa o.os.length p.oc, .int .i64 o.wk, .int .i64 o.ws, .int .i64 o.wt, .slice p.ga o.ag.length p.gc, .bool o.ou]
structure OpAt (w : World) (d : OpD) (p : OpA) : Prop where
  e : StrsAt w p.ea d.ex
  n : StrsAt w p.na d.nm
  c : ColsAt w p.ca d.c
  r : ColsAt w p.ra d.r
  k : IntsAt w p.ka d.ks
  o : IntsAt w p.oa d.os
  g : AgsAt w p.ga d.ag
theorem OpAt.later {w wx : World} {o : OpD} {p : OpA} (h : OpAt w o p) (hb : Below w.heap.size w wx) : OpAt wx o p :=
  ⟨h.e.later hb, h.n.later hb, h.c.later hb, h.r.later hb, h.k.later hb, h.o.later hb, h.g.later hb⟩
/-- How much there may be of it. -/
structure OpSz (d : OpD) : Prop where
  e : d.ex.length ≤ 8796093022208
  n : d.nm.length ≤ 8796093022208
  c : d.c.length ≤ 5864062014635
  r : d.r.length ≤ 5864062014635
  k : d.ks.length ≤ 17592186044416
  o : d.os.length ≤ 17592186044416
  g : d.ag.length ≤ 8796093022208
  cn : ∀ x ∈ d.c, x.nm.size ≤ 140737488351232
  rn : ∀ x ∈ d.r, x.nm.size ≤ 140737488351232
  nn : ∀ x ∈ d.nm, x.size ≤ 140737488351232
  ws : (Lit.int .i64 d.ws).wf = true

def zw (o : OpD) : Bool := o.wk == 0 && (o.ws == 0 && o.wt == 0)
def usesB (o : OpD) : Bool :=
  if o.k = 2 then decide (o.nm.length + o.r.length + o.ks.length + o.os.length + o.ag.length = 0) && (zw o && !o.ou)
  else if o.k = 3 then decide (o.r.length + o.ks.length + o.os.length + o.ag.length = 0) && (zw o && !o.ou)
  else if o.k = 4 then decide (o.ex.length + o.r.length + o.os.length = 0) && !o.ou
  else if o.k = 5 then decide (o.ex.length + o.nm.length + o.ag.length = 0)
  else if o.k = 6 ∨ o.k = 7 then decide (o.ex.length + o.nm.length + o.r.length + o.ks.length + o.os.length + o.ag.length = 0) && (zw o && !o.ou)
  else false
/-- '==' of two kinds of windows. -/
def eqW (a b c a' b' c' : Int) : Bool := a == a' && (b == b' && c == c')
theorem eqW_in (a b c a' b' c' : Int) (w : World) : (Op.equalIn 10000 26 (.agg #[.int .i64 a, .int .i64 b, .int .i64 c]) (.agg #[.int .i64 a', .int .i64 b', .int .i64 c'])).run Tryz.prog w = .ok (eqW a b c a' b' c') w := by
  have u3 := Tryz.underlying3
  have u2 := Tryz.underlying2
  have a3 := Tryz.isAgg3
  have z3 := Tryz.sizeOf3
  have a2 := Tryz.isAgg2
  have z2 := Tryz.sizeOf2
  have hS : Tryz.prog.underlying 26 = some (.struct (Tryz.prog.fieldsOf 26)) := by kernel_rfl
  rw [show (10000 : Nat) = 9999 + 1 from rfl, run_equalIn_agg w 9999 26 _ _ hS (by kernel_rfl)]
  simp only [Program.fieldsOf, Tryz.underlying26]
  go_simp
  unfold eqW
  by_cases h1 : a = a' <;> by_cases h2 : b = b' <;> by_cases h3 : c = c' <;> simp [h1, h2, h3]
theorem guardW : Tryz.prog.eqGuardType Tryz.prog.depth 26 = false := by kernel_rfl
theorem neqlW (a b c a' b' c' : Int) (w : World) : (binOp .neq 26 (.agg #[.int .i64 a, .int .i64 b, .int .i64 c]) (.agg #[.int .i64 a', .int .i64 b', .int .i64 c'])).run Tryz.prog w = .ok (.bool (!eqW a b c a' b' c')) w := by
  rw [run_neq_struct, eqW_in]; rfl
theorem eqlW (a b c a' b' c' : Int) (w : World) : (binOp .eql 26 (.agg #[.int .i64 a, .int .i64 b, .int .i64 c]) (.agg #[.int .i64 a', .int .i64 b', .int .i64 c'])).run Tryz.prog w = .ok (.bool (eqW a b c a' b' c')) w := by
  rw [run_eql_struct, eqW_in]; rfl
attribute [local go_sem ↓] neqlW eqlW
attribute [local go_sem] guardW
theorem wsum {a b : Int} (h0 : 0 ≤ a) (h1 : 0 ≤ b) (h2 : a ≤ 100000000000000) (h3 : b ≤ 100000000000000) : wrap64 (a + b) = a + b := by unfold wrap64; omega

def placeB (n : Int) (m : Nat) : Bool := decide (0 ≤ n) && decide (n < m)
theorem place_any (n : Int) (a : Option Addr) (m c : Nat) (w : World) (hm : m ≤ 9223372036854775807) : Calls Tryz.prog 68 #[.int .i64 n, .slice a m c] w fun e w' => e = .returned (.bool (placeB n m)) ∧ w' = w := by
  unfold placeB
  by_cases h1 : 0 ≤ n <;> by_cases h2 : n < m
  all_goals
    go_enter Tryz.func68, Tryz.ntmps68
    go_wp2
    go_ret
    first | exact ⟨by simp [h1, h2], rfl⟩ | simp [h1, h2]
def aggB (k : Int) : Bool := decide (1 ≤ k) && decide (k ≤ 7)
theorem aggValid_any (k : Int) (w : World) : Calls Tryz.prog 70 #[.int .i64 k] w fun e w' => e = .returned (.bool (aggB k)) ∧ w' = w := by
  unfold aggB
  by_cases h1 : 1 ≤ k <;> by_cases h2 : k ≤ 7
  all_goals
    go_enter Tryz.func70, Tryz.ntmps70
    go_wp2
    go_ret
    first | exact ⟨by simp [h1, h2], rfl⟩ | simp [h1, h2]
def placesB (l : List Int) (m : Nat) : Bool := l.all (fun n => placeB n m) && decide (l.length ≤ 8)
theorem take_allO {α : Type} (p : α → Bool) (l : List α) (k : Nat) (h : k < l.length) : (l.take (k + 1)).all p = ((l.take k).all p && p l[k]) := by
  rw [List.take_succ_eq_append_getElem h, List.all_append]; simp
theorem all_falseO {α : Type} (p : α → Bool) (l : List α) (k : Nat) (h : k < l.length) (hf : p l[k] = false) : l.all p = false := by
  rw [List.all_eq_false]; exact ⟨l[k], List.getElem_mem h, by simp [hf]⟩
set_option maxHeartbeats 2000000 in
theorem places_any (l : List Int) (a : Option Addr) (lc : Nat) (ca : Option Addr) (m cc : Nat) (w : World) (hm : m ≤ 9223372036854775807) (hl : l.length ≤ 17592186044416) (h : IntsAt w a l) :
    Calls Tryz.prog 47 #[.slice a l.length lc, .slice ca m cc] w fun e w' => e = .returned (.bool (placesB l m)) ∧ Below w.heap.size w w' := by
  have HI := hidO h
  unfold placesB
  clear h
  go_enter Tryz.func47, Tryz.ntmps47
  go_wp2_with fail
  go_loopw [9] (fun i w' => ∃ (k : Nat), k ≤ l.length ∧ i = .int .i64 k ∧ (l.take k).all (fun n => placeB n m) = true ∧ w' = w) (fun i _ => l.length - (intOf i).toNat)
  case atStart => exact ⟨0, Nat.zero_le _, rfl, rfl, rfl⟩
  case round =>
    obtain ⟨k, hk, rfl, hal, rfl⟩ := hrel
    have HAL := hidO hal
    clear hal
    by_cases hlt : k < l.length
    · have hki : (k : Int) < (l.length : Int) := by omega
      obtain ⟨b, off, rfl, e1⟩ := HI.out k hlt
      have HG : Hid (l[k] = l[k]) := rfl
      obtain ⟨n, hn⟩ : ∃ n, n = l[k] := ⟨_, rfl⟩
      rw [← hn] at e1
      have HN := hidO hn
      clear hn HG
      go_wp2_with fail
      refine (place_any n ca m cc _ hm).mono ?_
      rintro e w1 ⟨rfl, hw⟩
      have := hw.symm; subst this
      cases hp : placeB n m with
      | false =>
        have HF : Hid (l.all (fun n => placeB n m) = false) := all_falseO _ l k hlt (by rw [← HN.out]; exact hp)
        go_wp2_with fail
        go_ret
        exact ⟨by rw [HF.out]; rfl, Below.refl _ _⟩
      | true =>
        have HT : Hid ((l.take (k + 1)).all (fun n => placeB n m) = true) := by rw [Hid, take_allO _ l k hlt, HAL.out, ← HN.out, hp]; rfl
        go_wp2_with fail
        exact ⟨⟨k + 1, by omega, by go_num, HT.out, trivial⟩, by simp [intOf]; omega⟩
    · obtain rfl : k = l.length := by omega
      have hnl : ¬ (l.length : Int) < (l.length : Int) := by omega
      have HALL : Hid (l.all (fun n => placeB n m) = true) := by
        have := HAL.out
        rw [List.take_length] at this
        exact this
      clear hlt hk HAL
      by_cases h8 : l.length ≤ 8
      · have h8i : (l.length : Int) ≤ 8 := by omega
        go_wp2_with fail
        go_ret
        exact ⟨by first | (rw [HALL.out]; simp [h8]; done) | (simp [HALL.out]; done) | rfl, Below.refl _ _⟩
      · have h8i : ¬ (l.length : Int) ≤ 8 := by omega
        go_wp2_with fail
        go_ret
        exact ⟨by first | (rw [HALL.out]; simp [h8]; done) | (simp [HALL.out]; done) | rfl, Below.refl _ _⟩

set_option maxHeartbeats 4000000 in
theorem uses_2 (o : OpD) (p : OpA) (w : World) (hs : OpSz o) (hk : o.k = 2) : Calls Tryz.prog 9 #[.agg (opCs o p)] w fun e w' => e = .returned (.bool (usesB o)) ∧ Below w.heap.size w w' := by
  have he := hs.e
  have hn := hs.n
  have hr := hs.r
  have hks := hs.k
  have ho := hs.o
  have hg := hs.g
  obtain ⟨k, ex, nm, c, r, ks, os, wk, ws, wt, ag, ou⟩ := o
  simp only at hk he hn hr hks ho hg
  subst hk
  have HU : Hid (usesB ⟨2, ex, nm, c, r, ks, os, wk, ws, wt, ag, ou⟩ = (decide (nm.length + r.length + ks.length + os.length + ag.length = 0) && (eqW wk ws wt 0 0 0 && !ou))) := by
    unfold Hid usesB zw
    try unfold eqW
    simp
  unfold opCs
  simp only
  clear hs
  generalize ex.length = en at *
  generalize nm.length = nn at *
  generalize c.length = cn at *
  generalize r.length = rn at *
  generalize ks.length = kn at *
  generalize os.length = on at *
  generalize ag.length = gn at *
  go_enter Tryz.func9, Tryz.ntmps9
  go_wp2_with fail
  all_goals
    go_ret
    refine ⟨?_, xbel1 _ _⟩
    rw [HU.out]
    first | rfl | (simp_all; done) | (simp_all; omega)

set_option maxHeartbeats 4000000 in
theorem uses_3 (o : OpD) (p : OpA) (w : World) (hs : OpSz o) (hk : o.k = 3) : Calls Tryz.prog 9 #[.agg (opCs o p)] w fun e w' => e = .returned (.bool (usesB o)) ∧ Below w.heap.size w w' := by
  have he := hs.e
  have hn := hs.n
  have hr := hs.r
  have hks := hs.k
  have ho := hs.o
  have hg := hs.g
  obtain ⟨k, ex, nm, c, r, ks, os, wk, ws, wt, ag, ou⟩ := o
  simp only at hk he hn hr hks ho hg
  subst hk
  have HU : Hid (usesB ⟨3, ex, nm, c, r, ks, os, wk, ws, wt, ag, ou⟩ = (decide (r.length + ks.length + os.length + ag.length = 0) && (eqW wk ws wt 0 0 0 && !ou))) := by
    unfold Hid usesB zw
    try unfold eqW
    simp
  unfold opCs
  simp only
  clear hs
  generalize ex.length = en at *
  generalize nm.length = nn at *
  generalize c.length = cn at *
  generalize r.length = rn at *
  generalize ks.length = kn at *
  generalize os.length = on at *
  generalize ag.length = gn at *
  go_enter Tryz.func9, Tryz.ntmps9
  go_wp2_with fail
  all_goals
    go_ret
    refine ⟨?_, xbel1 _ _⟩
    rw [HU.out]
    first | rfl | (simp_all; done) | (simp_all; omega)

set_option maxHeartbeats 4000000 in
theorem uses_4 (o : OpD) (p : OpA) (w : World) (hs : OpSz o) (hk : o.k = 4) : Calls Tryz.prog 9 #[.agg (opCs o p)] w fun e w' => e = .returned (.bool (usesB o)) ∧ Below w.heap.size w w' := by
  have he := hs.e
  have hn := hs.n
  have hr := hs.r
  have hks := hs.k
  have ho := hs.o
  have hg := hs.g
  obtain ⟨k, ex, nm, c, r, ks, os, wk, ws, wt, ag, ou⟩ := o
  simp only at hk he hn hr hks ho hg
  subst hk
  have HU : Hid (usesB ⟨4, ex, nm, c, r, ks, os, wk, ws, wt, ag, ou⟩ = (decide (ex.length + r.length + os.length = 0) && !ou)) := by
    unfold Hid usesB zw
    try unfold eqW
    simp
  unfold opCs
  simp only
  clear hs
  generalize ex.length = en at *
  generalize nm.length = nn at *
  generalize c.length = cn at *
  generalize r.length = rn at *
  generalize ks.length = kn at *
  generalize os.length = on at *
  generalize ag.length = gn at *
  go_enter Tryz.func9, Tryz.ntmps9
  go_wp2_with fail
  all_goals
    go_ret
    refine ⟨?_, xbel1 _ _⟩
    rw [HU.out]
    first | rfl | (simp_all; done) | (simp_all; omega)

set_option maxHeartbeats 4000000 in
theorem uses_5 (o : OpD) (p : OpA) (w : World) (hs : OpSz o) (hk : o.k = 5) : Calls Tryz.prog 9 #[.agg (opCs o p)] w fun e w' => e = .returned (.bool (usesB o)) ∧ Below w.heap.size w w' := by
  have he := hs.e
  have hn := hs.n
  have hr := hs.r
  have hks := hs.k
  have ho := hs.o
  have hg := hs.g
  obtain ⟨k, ex, nm, c, r, ks, os, wk, ws, wt, ag, ou⟩ := o
  simp only at hk he hn hr hks ho hg
  subst hk
  have HU : Hid (usesB ⟨5, ex, nm, c, r, ks, os, wk, ws, wt, ag, ou⟩ = (decide (ex.length + nm.length + ag.length = 0))) := by
    unfold Hid usesB zw
    try unfold eqW
    simp
  unfold opCs
  simp only
  clear hs
  generalize ex.length = en at *
  generalize nm.length = nn at *
  generalize c.length = cn at *
  generalize r.length = rn at *
  generalize ks.length = kn at *
  generalize os.length = on at *
  generalize ag.length = gn at *
  go_enter Tryz.func9, Tryz.ntmps9
  go_wp2_with fail
  all_goals
    go_ret
    refine ⟨?_, xbel1 _ _⟩
    rw [HU.out]
    first | rfl | (simp_all; done) | (simp_all; omega)

set_option maxHeartbeats 4000000 in
theorem uses_6 (o : OpD) (p : OpA) (w : World) (hs : OpSz o) (hk : o.k = 6) : Calls Tryz.prog 9 #[.agg (opCs o p)] w fun e w' => e = .returned (.bool (usesB o)) ∧ Below w.heap.size w w' := by
  have he := hs.e
  have hn := hs.n
  have hr := hs.r
  have hks := hs.k
  have ho := hs.o
  have hg := hs.g
  obtain ⟨k, ex, nm, c, r, ks, os, wk, ws, wt, ag, ou⟩ := o
  simp only at hk he hn hr hks ho hg
  subst hk
  have HU : Hid (usesB ⟨6, ex, nm, c, r, ks, os, wk, ws, wt, ag, ou⟩ = (decide (ex.length + nm.length + r.length + ks.length + os.length + ag.length = 0) && (eqW wk ws wt 0 0 0 && !ou))) := by
    unfold Hid usesB zw
    try unfold eqW
    simp
  unfold opCs
  simp only
  clear hs
  generalize ex.length = en at *
  generalize nm.length = nn at *
  generalize c.length = cn at *
  generalize r.length = rn at *
  generalize ks.length = kn at *
  generalize os.length = on at *
  generalize ag.length = gn at *
  go_enter Tryz.func9, Tryz.ntmps9
  go_wp2_with fail
  all_goals
    go_ret
    refine ⟨?_, xbel1 _ _⟩
    rw [HU.out]
    first | rfl | (simp_all; done) | (simp_all; omega)

set_option maxHeartbeats 4000000 in
theorem uses_7 (o : OpD) (p : OpA) (w : World) (hs : OpSz o) (hk : o.k = 7) : Calls Tryz.prog 9 #[.agg (opCs o p)] w fun e w' => e = .returned (.bool (usesB o)) ∧ Below w.heap.size w w' := by
  have he := hs.e
  have hn := hs.n
  have hr := hs.r
  have hks := hs.k
  have ho := hs.o
  have hg := hs.g
  obtain ⟨k, ex, nm, c, r, ks, os, wk, ws, wt, ag, ou⟩ := o
  simp only at hk he hn hr hks ho hg
  subst hk
  have HU : Hid (usesB ⟨7, ex, nm, c, r, ks, os, wk, ws, wt, ag, ou⟩ = (decide (ex.length + nm.length + r.length + ks.length + os.length + ag.length = 0) && (eqW wk ws wt 0 0 0 && !ou))) := by
    unfold Hid usesB zw
    try unfold eqW
    simp
  unfold opCs
  simp only
  clear hs
  generalize ex.length = en at *
  generalize nm.length = nn at *
  generalize c.length = cn at *
  generalize r.length = rn at *
  generalize ks.length = kn at *
  generalize os.length = on at *
  generalize ag.length = gn at *
  go_enter Tryz.func9, Tryz.ntmps9
  go_wp2_with fail
  all_goals
    go_ret
    refine ⟨?_, xbel1 _ _⟩
    rw [HU.out]
    first | rfl | (simp_all; done) | (simp_all; omega)

set_option maxHeartbeats 4000000 in
theorem uses_x (o : OpD) (p : OpA) (w : World) (hs : OpSz o) (hk : o.k ≠ 2 ∧ o.k ≠ 3 ∧ o.k ≠ 4 ∧ o.k ≠ 5 ∧ o.k ≠ 6 ∧ o.k ≠ 7) : Calls Tryz.prog 9 #[.agg (opCs o p)] w fun e w' => e = .returned (.bool (usesB o)) ∧ Below w.heap.size w w' := by
  have he := hs.e
  have hn := hs.n
  have hr := hs.r
  have hks := hs.k
  have ho := hs.o
  have hg := hs.g
  obtain ⟨k, ex, nm, c, r, ks, os, wk, ws, wt, ag, ou⟩ := o
  simp only at hk he hn hr hks ho hg
  obtain ⟨k2, k3, k4, k5, k6, k7⟩ := hk
  have HU : Hid (usesB ⟨k, ex, nm, c, r, ks, os, wk, ws, wt, ag, ou⟩ = (false)) := by
    unfold Hid usesB zw
    try unfold eqW
    simp [k2, k3, k4, k5, k6, k7]
  unfold opCs
  simp only
  clear hs
  generalize ex.length = en at *
  generalize nm.length = nn at *
  generalize c.length = cn at *
  generalize r.length = rn at *
  generalize ks.length = kn at *
  generalize os.length = on at *
  generalize ag.length = gn at *
  go_enter Tryz.func9, Tryz.ntmps9
  go_wp2_with fail
  all_goals
    go_ret
    refine ⟨?_, xbel1 _ _⟩
    rw [HU.out]
    first | rfl | (simp_all; done) | (simp_all; omega)

theorem uses_any (o : OpD) (p : OpA) (w : World) (hs : OpSz o) : Calls Tryz.prog 9 #[.agg (opCs o p)] w fun e w' => e = .returned (.bool (usesB o)) ∧ Below w.heap.size w w' := by
  by_cases h2 : o.k = 2
  · exact uses_2 o p w hs h2
  by_cases h3 : o.k = 3
  · exact uses_3 o p w hs h3
  by_cases h4 : o.k = 4
  · exact uses_4 o p w hs h4
  by_cases h5 : o.k = 5
  · exact uses_5 o p w hs h5
  by_cases h6 : o.k = 6
  · exact uses_6 o p w hs h6
  by_cases h7 : o.k = 7
  · exact uses_7 o p w hs h7
  exact uses_x o p w hs ⟨h2, h3, h4, h5, h6, h7⟩
end Go.Proofs.YtplaplhmjpfbjaaGreatDoor.Oo
namespace Go.Proofs.YtplaplhmjpfbjaaGreatDoor.Oo
open Go.RowKit
set_option linter.unusedVariables false
set_option linter.unusedSimpArgs false
set_option maxRecDepth 100000

/-- One after another, up to the first that is wrong. -/
def mapE {α β : Type} (f : α → Except Nat β) : List α → Except Nat (List β)
  | [] => .ok []
  | x :: l => match f x with
    | .error n => .error n
    | .ok b => match mapE f l with
      | .error n => .error n
      | .ok bs => .ok (b :: bs)
theorem mapE_app {α β : Type} (f : α → Except Nat β) : ∀ l m : List α, mapE f (l ++ m) = match mapE f l with
    | .error n => .error n
    | .ok a => match mapE f m with
      | .error n => .error n
      | .ok b => .ok (a ++ b)
  | [], m => by
    simp only [List.nil_append, mapE]
    cases mapE f m <;> rfl
  | x :: l, m => by
    simp only [List.cons_append, mapE]
    cases f x with
    | error n => rfl
    | ok b =>
      simp only
      rw [mapE_app f l m]
      cases mapE f l with
      | error n => rfl
      | ok a =>
        simp only
        cases mapE f m <;> rfl
theorem mapE_next {α β : Type} {f : α → Except Nat β} {l : List α} {i : Nat} {acc : List β} {b : β} (h : mapE f (l.take i) = .ok acc) (hi : i < l.length) (hb : f l[i] = .ok b) : mapE f (l.take (i + 1)) = .ok (acc ++ [b]) := by
  rw [List.take_succ_eq_append_getElem hi, mapE_app, h]
  simp only [mapE, hb]
theorem mapE_stop {α β : Type} {f : α → Except Nat β} {l : List α} {i : Nat} {acc : List β} {n : Nat} (h : mapE f (l.take i) = .ok acc) (hi : i < l.length) (hb : f l[i] = .error n) : mapE f l = .error n := by
  have e : l = l.take i ++ (l[i] :: l.drop (i + 1)) := by
    rw [← List.drop_eq_getElem_cons hi, List.take_append_drop]
  rw [e, mapE_app, h]
  simp only [mapE, hb]
theorem mapE_len {α β : Type} (f : α → Except Nat β) : ∀ (l : List α) (acc : List β), mapE f l = .ok acc → acc.length = l.length
  | [], acc, h => by simp only [mapE] at h; cases h; rfl
  | x :: l, acc, h => by
    simp only [mapE] at h
    cases hx : f x with
    | error n => rw [hx] at h; cases h
    | ok b =>
      rw [hx] at h
      simp only at h
      cases hl : mapE f l with
      | error n => rw [hl] at h; cases h
      | ok bs => rw [hl] at h; cases h; simp [mapE_len f l bs hl]

def colOf (c : List Co) (n : Int) : Co := c.getD n.toNat ⟨⟨#[]⟩, 0⟩
/-- The kind of what is folded. -/
def foldR (c : List Co) (a : Ag) : Except Nat Int :=
  if aggB a.k = false then .error 4
  else if a.k = 1 then (if a.at_ = -1 then .ok 1 else .error 4)
  else if placeB a.at_ c.length = false then .error 4
  else if a.k = 2 then (if (colOf c a.at_).k = 1 then .ok 1 else .error 3)
  else if a.k = 7 then .ok 1 else .ok (colOf c a.at_).k
def nameR (r : Except Nat Int) (n : ByteArray) : Except Nat Co := match r with
  | .error x => .error x
  | .ok k => .ok ⟨n, k⟩
def whereO (ck : ByteArray → Except Nat Int) (o : OpD) : Except Nat (List Co) := match o.ex with
  | [s] => match ck s with
    | .error n => .error n
    | .ok k => if k = 2 then .ok o.c else .error 3
  | _ => .error 4
def mapO (ck : ByteArray → Except Nat Int) (o : OpD) : Except Nat (List Co) :=
  if o.nm.length = o.ex.length then mapE (fun q => nameR (ck q.1) q.2) (o.ex.zip o.nm) else .error 4
def winB (o : OpD) : Bool := Wn.validB o.wk o.ws o.wt
def windowO (o : OpD) : Except Nat (List Co) :=
  if placesB o.ks o.c.length = true ∧ winB o = true ∧ o.nm.length = o.ag.length then
    match mapE (fun q => nameR (foldR o.c q.1) q.2) (o.ag.zip o.nm) with
    | .error n => .error n
    | .ok l => .ok (o.ks.map (colOf o.c) ++ l)
  else .error 4
def kindsB (o : OpD) : Bool := (o.ks.zip o.os).all (fun q => (colOf o.c q.1).k == (colOf o.r q.2).k)
def joinO (o : OpD) : Except Nat (List Co) :=
  if placesB o.ks o.c.length = true ∧ placesB o.os o.r.length = true ∧ o.ks.length = o.os.length ∧ winB o = true then
    (if kindsB o = true then .ok (o.c ++ o.r) else .error 3)
  else .error 4
def rawO (ck : ByteArray → Except Nat Int) (o : OpD) : Except Nat (List Co) :=
  if o.k = 2 then whereO ck o else if o.k = 3 then mapO ck o else if o.k = 4 then windowO o else if o.k = 5 then joinO o else .ok o.c
end Go.Proofs.YtplaplhmjpfbjaaGreatDoor.Oo
namespace Go.Proofs.YtplaplhmjpfbjaaGreatDoor.Oo
open Go.RowKit
set_option linter.unusedVariables false
set_option linter.unusedSimpArgs false
set_option maxRecDepth 100000
attribute [local go_sem ↓] neqlW eqlW
attribute [local go_sem] guardW

/-- A kind and no error, or an error. -/
def retK (r : Except Nat Int) : Value := match r with
  | .ok k => .tuple #[.int .i64 k, .nilIface]
  | .error n => .tuple #[.int .i64 0, .iface 36 (.int .i64 n)]
theorem place_at {n : Int} {m : Nat} (h : placeB n m = true) : ∃ j : Nat, n = j ∧ j < m := by
  unfold placeB at h
  simp at h
  exact ⟨n.toNat, by omega, by omega⟩
theorem colOf_at (c : List Co) (j : Nat) (h : j < c.length) : colOf c (j : Int) = c[j] := by
  unfold colOf
  rw [Int.toNat_natCast, List.getD_eq_getElem?_getD, List.getElem?_eq_getElem h]
  rfl
set_option maxHeartbeats 4000000 in
theorem folded_any (a : Ag) (c : List Co) (ca : Option Addr) (cc : Nat) (w : World) (hm : c.length ≤ 5864062014635) (hc : ColsAt w ca c) :
    Calls Tryz.prog 49 #[.agg #[.int .i64 a.k, .int .i64 a.at_], .slice ca c.length cc] w fun e w' => e = .returned (retK (foldR c a)) ∧ Below w.heap.size w w' := by
  obtain ⟨k, t⟩ := a
  simp only
  have HC := hidO hc
  clear hc
  by_cases hA : aggB k = true
  · by_cases h1 : k = 1
    · subst h1
      by_cases ht : t = -1
      · subst ht
        have HR : Hid (foldR c ⟨1, -1⟩ = .ok 1) := by unfold Hid foldR; simp [hA]
        go_enter Tryz.func49, Tryz.ntmps49
        go_wp2_with fail
        refine (aggValid_any 1 _).mono ?_
        rw [hA]
        rintro e w1 ⟨rfl, hw⟩
        have := hw.symm; subst this
        go_wp2_with fail
        go_ret2
        rw [HR.out]
        exact ⟨by first | rfl | trivial | (simp [retK]; done), by first | exact xbel1 _ _ | trivial⟩
      · have HR : Hid (foldR c ⟨1, t⟩ = .error 4) := by unfold Hid foldR; simp [hA, ht]
        have htb : (t != -1) = true := by simp [ht]
        go_enter Tryz.func49, Tryz.ntmps49
        go_wp2_with fail
        refine (aggValid_any 1 _).mono ?_
        rw [hA]
        rintro e w1 ⟨rfl, hw⟩
        have := hw.symm; subst this
        go_wp2_with fail
        go_ret2
        rw [HR.out]
        exact ⟨by first | rfl | trivial | (simp [retK]; done), by first | exact xbel1 _ _ | trivial⟩
    · have h1b : (k == 1) = false := by simp [h1]
      by_cases hP : placeB t c.length = true
      · obtain ⟨j, rfl, hj⟩ := place_at hP
        obtain ⟨b, off, rfl, e1, e2⟩ := HC.out j hj
        have hji : (j : Int) < (c.length : Int) := by omega
        have HR : Hid (foldR c ⟨k, (j : Int)⟩ = if k = 2 then (if c[j].k = 1 then .ok 1 else .error 3) else if k = 7 then .ok 1 else .ok c[j].k) := by
          unfold Hid foldR; simp [hA, h1, hP, colOf_at c j hj]
        obtain ⟨kd, hkd⟩ : ∃ kd, kd = c[j].k := ⟨_, rfl⟩
        rw [← hkd] at e2 HR
        clear hkd e1
        have e2' : (w.alloc (.cells #[.int .i64 k, .int .i64 (j : Int)] 69)).cell? ⟨b, off + j * 2 + 1, none⟩ = some (.int .i64 kd) := xcell (xbel1 _ _) e2
        have hbl : b < w.heap.size := World.block_lt_of_cell? _ _ e2
        by_cases h2 : k = 2
        · subst h2
          by_cases hk1 : kd = 1
          · subst hk1
            have HR' : Hid (foldR c ⟨2, (j : Int)⟩ = .ok 1) := HR.out
            clear HR
            go_enter Tryz.func49, Tryz.ntmps49
            go_wp2_with fail
            refine (aggValid_any 2 _).mono ?_
            rw [hA]
            rintro e w1 ⟨rfl, hw⟩
            have := hw.symm; subst this
            go_wp2_with fail
            refine (place_any (j : Int) _ _ _ _ (by omega)).mono ?_
            rw [hP]
            rintro e w1 ⟨rfl, hw⟩
            have := hw.symm; subst this
            go_wp2_with fail
            go_ret2
            rw [HR'.out]
            exact ⟨by first | rfl | trivial | (simp [retK]; done), by first | exact xbel1 _ _ | trivial⟩
          · have hkb : (kd != 1) = true := by simp [hk1]
            have HR' : Hid (foldR c ⟨2, (j : Int)⟩ = .error 3) := by show foldR c ⟨2, (j : Int)⟩ = .error 3; have := HR.out; simpa [hk1] using this
            clear HR
            go_enter Tryz.func49, Tryz.ntmps49
            go_wp2_with fail
            refine (aggValid_any 2 _).mono ?_
            rw [hA]
            rintro e w1 ⟨rfl, hw⟩
            have := hw.symm; subst this
            go_wp2_with fail
            refine (place_any (j : Int) _ _ _ _ (by omega)).mono ?_
            rw [hP]
            rintro e w1 ⟨rfl, hw⟩
            have := hw.symm; subst this
            go_wp2_with fail
            go_ret2
            rw [HR'.out]
            exact ⟨by first | rfl | trivial | (simp [retK]; done), by first | exact xbel1 _ _ | trivial⟩
        · have h2b : (k == 2) = false := by simp [h2]
          by_cases h7 : k = 7
          · subst h7
            have HR' : Hid (foldR c ⟨7, (j : Int)⟩ = .ok 1) := HR.out
            clear HR
            go_enter Tryz.func49, Tryz.ntmps49
            go_wp2_with fail
            refine (aggValid_any 7 _).mono ?_
            rw [hA]
            rintro e w1 ⟨rfl, hw⟩
            have := hw.symm; subst this
            go_wp2_with fail
            refine (place_any (j : Int) _ _ _ _ (by omega)).mono ?_
            rw [hP]
            rintro e w1 ⟨rfl, hw⟩
            have := hw.symm; subst this
            go_wp2_with fail
            go_ret2
            rw [HR'.out]
            exact ⟨by first | rfl | trivial | (simp [retK]; done), by first | exact xbel1 _ _ | trivial⟩
          · have h7b : (k == 7) = false := by simp [h7]
            have HR' : Hid (foldR c ⟨k, (j : Int)⟩ = .ok kd) := by show foldR c ⟨k, (j : Int)⟩ = .ok kd; have := HR.out; simpa [h2, h7] using this
            clear HR
            go_enter Tryz.func49, Tryz.ntmps49
            go_wp2_with fail
            refine (aggValid_any k _).mono ?_
            rw [hA]
            rintro e w1 ⟨rfl, hw⟩
            have := hw.symm; subst this
            go_wp2_with fail
            refine (place_any (j : Int) _ _ _ _ (by omega)).mono ?_
            rw [hP]
            rintro e w1 ⟨rfl, hw⟩
            have := hw.symm; subst this
            go_wp2_with fail
            go_ret2
            rw [HR'.out]
            exact ⟨by first | rfl | trivial | (simp [retK]; done), by first | exact xbel1 _ _ | trivial⟩
      · have hPf : placeB t c.length = false := by simpa using hP
        have HR : Hid (foldR c ⟨k, t⟩ = .error 4) := by unfold Hid foldR; simp [hA, h1, hPf]
        go_enter Tryz.func49, Tryz.ntmps49
        go_wp2_with fail
        refine (aggValid_any k _).mono ?_
        rw [hA]
        rintro e w1 ⟨rfl, hw⟩
        have := hw.symm; subst this
        go_wp2_with fail
        refine (place_any t _ _ _ _ (by omega)).mono ?_
        rw [hPf]
        rintro e w1 ⟨rfl, hw⟩
        have := hw.symm; subst this
        go_wp2_with fail
        go_ret2
        rw [HR.out]
        exact ⟨by first | rfl | trivial | (simp [retK]; done), by first | exact xbel1 _ _ | trivial⟩
  · have hAf : aggB k = false := by simpa using hA
    have HR : Hid (foldR c ⟨k, t⟩ = .error 4) := by unfold Hid foldR; simp [hAf]
    go_enter Tryz.func49, Tryz.ntmps49
    go_wp2_with fail
    refine (aggValid_any k _).mono ?_
    rw [hAf]
    rintro e w1 ⟨rfl, hw⟩
    have := hw.symm; subst this
    go_wp2_with fail
    go_ret2
    rw [HR.out]
    exact ⟨by first | rfl | trivial | (simp [retK]; done), by first | exact xbel1 _ _ | trivial⟩
end Go.Proofs.YtplaplhmjpfbjaaGreatDoor.Oo
namespace Go.Proofs.YtplaplhmjpfbjaaGreatDoor.Oo
open Go.RowKit
set_option linter.unusedVariables false
set_option linter.unusedSimpArgs false
set_option maxRecDepth 100000

theorem next_fine {n : Nat} (h : 256 ≤ n) : Builtin.nextslicecap (n + 1) n ≤ n + (n + 768) / 4 := by
  unfold Builtin.nextslicecap
  split
  · omega
  · split
    · omega
    · rw [growBy_four]
      repeat' split
      all_goals omega
theorem run_app1 (w : World) (ty : TypeId) (i : TypeInfo) (hi : Tryz.prog.info? 43 = some i) (hz : i.zero = some (.agg #[.string ⟨#[]⟩, .int .i64 0])) (hs : i.size = 2) (hb : i.bytes = 24) (B : Nat) (v : Value) (s : List Co) (hown : OC w B v s) (ad : Addr) (c : Nat) (x : Co)
    (hx : ∀ j u, (cellsC x)[j]? = some u → w.cell? (ad.add j) = some u) (hm : s.length ≤ 8796093022220) (hB : B ≤ w.heap.size) :
    ∃ v' w', (Builtin.append_ #[23, 23] ty #[v, .slice (some ad) 1 c]).run Tryz.prog w = .ok v' w' ∧ OC w' B v' (s ++ [x]) ∧ w.grownBy w' v.ownBlock := by
  have hfl : (s ++ [x]).flatMap cellsC = s.flatMap cellsC ++ cellsC x := by simp
  have hln : (s ++ [x]).length = s.length + 1 := by simp
  by_cases hsm : (s.length + 1) * 24 ≤ 140737488355328
  · obtain ⟨v', w', h1, h2, h3, _⟩ := run_append_own (P := Tryz.prog) w B 23 ty 43 i (.agg #[.string ⟨#[]⟩, .int .i64 0]) 2 24 Tryz.underlying23 hi hz hs hb rfl (by decide) v s.length (s.flatMap cellsC) hown ad 1 c (cellsC x) rfl hx (one_cellsC x) (by unfold maxLen; omega) hsm hB
    exact ⟨v', w', h1, by unfold OC; rw [hfl, hln]; exact h2, h3⟩
  · rcases hown.2 with ⟨-, h0⟩ | ⟨g, cap, cur, rfl, hbg, hg, hnc, hcm, hcs, htake⟩
    · omega
    · by_cases hroom : s.length + 1 ≤ cap
      · obtain ⟨w', h1, h2, h3⟩ := run_append_fits (P := Tryz.prog) w B 23 ty 43 i 2 Tryz.underlying23 hi hs g s.length cap (s.flatMap cellsC) hown ad 1 c (cellsC x) rfl hx (one_cellsC x) hroom
        exact ⟨_, w', h1, by unfold OC; rw [hfl, hln]; exact h2, h3⟩
      · have hcap : cap = s.length := by omega
        subst hcap
        have hfit : Builtin.nextslicecap (s.length + 1) s.length * i.bytes ≤ 281474976710656 := by
          have := next_fine (n := s.length) (by omega)
          rw [hb]
          omega
        have hr := run_append_grow (P := Tryz.prog) w 23 ty 43 i (.agg #[.string ⟨#[]⟩, .int .i64 0]) Tryz.underlying23 hi hz ⟨g, 0, none⟩ s.length s.length (s.flatMap cellsC) (by rw [hs]; exact len_cellsC s) (World.ownsRow.cells hown (g := g) rfl) ad 1 c (cellsC x) (by rw [hs]; rfl) hx (by omega) (by omega) hfit
        refine ⟨_, _, hr, ?_, ⟨rfl, rfl, rfl, by simp, fun k hk _ => heap_alloc_old w.drew _ hk⟩⟩
        have hge := grownCap_ge w (s.length + 1) s.length 43
        have hgm : grownCap w (s.length + 1) s.length 43 ≤ maxLen := grownCap_le_maxLen w (s.length + 1) s.length 43 (by unfold maxLen; omega)
        have hl2 : (s.flatMap cellsC ++ cellsC x).length = (s.length + 1) * 2 := by rw [List.length_append, len_cellsC]; show _ + 2 = _; omega
        unfold OC
        rw [hfl, hln]
        refine ⟨hl2, .inr ⟨w.heap.size, _, _, rfl, hB, heap_alloc_new w.drew _, hge, hgm, ?_, ?_⟩⟩
        · rw [Array.size_append, Array.size_append, size_zeroCells, List.size_toArray, List.size_toArray, len_cellsC]
          show s.length * 2 + 2 + _ * 2 = _
          omega
        · rw [Array.toList_append, Array.toList_append, List.toList_toArray, List.toList_toArray, ← hl2]
          exact List.take_left
/-- append(s, x) of columns, up to as many as there may be texts. -/
theorem app_C1 {w : World} {ops : Array Oper} {rest : List Oper} {o : Oper} {ac : Act} {Q : Exit → Act → World → Prop} (hgd : o.guard = none) (sx x : Operand) (ho : o.op = .call { callee := .builtin .append, args := #[sx, x], argTypes := #[23, 23] })
    (B : Nat) (v : Value) (s : List Co) (y : Co) (a : Nat) (c : Nat) (hs : ac.eval sx = v) (hown : OC w B v s) (hx : ac.eval x = .slice (some ⟨a, 0, none⟩) 1 c) (hl : ColsAt w (some ⟨a, 0, none⟩) [y]) (hm : s.length ≤ 8796093022220) (hB : B ≤ w.heap.size)
    (h : ∀ v' w', OC w' B v' (s ++ [y]) → w.grownBy w' v.ownBlock → wpList Tryz.prog ops Q rest (ac.put o.dst v') w') : wpList Tryz.prog ops Q (o :: rest) ac w := by
  obtain ⟨i0, hi0, hz0, hz1, hz2⟩ := info_parts infoC
  have hcl : ∀ j u, (cellsC y)[j]? = some u → w.cell? ((⟨a, 0, none⟩ : Addr).add j) = some u := by
    intro j u hj
    rw [WideShapes.add_plain]
    exact atC_cells hl j u (by simpa using hj)
  obtain ⟨v', w', hr, h1, h2⟩ := run_app1 w o.type i0 hi0 hz0 hz1 hz2 B v s hown ⟨a, 0, none⟩ c y hcl hm hB
  refine wpList_plain hgd fun K hK => ?_
  unfold Oper.wp execOp
  simp only [ho, resolve, invoke, builtin, Sem.run_bind, Sem.run_pure, Result.andThen_ok, List.map_toArray, List.map_cons, List.map_nil, hs, hx, hr]
  exact hK _ _ (h v' w' h1 h2)
end Go.Proofs.YtplaplhmjpfbjaaGreatDoor.Oo
