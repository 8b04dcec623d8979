import Derived.Test.YtmeeoamcelkhmaaGreatDoorTbF
import Derived.Shelf.SlSortCmp.NoneTotal
namespace Go.Proofs.YtmeeoamcelkhmaaGreatDoor
open Go.RowKit Go.Maps Go.Sort
set_option linter.unusedVariables false
set_option linter.unusedSimpArgs false
set_option maxRecDepth 100000

theorem sortsT (w : World) (B : Nat) (u : Value) (vs : List Tx) (h : OT w B u vs) (hl : vs.length ≤ 4398046511104) :
    Calls Tryz.prog 36 #[u, .func (.func 25) #[] #[]] w fun e w' => e = .returned (.tuple #[]) ∧ ∃ ps : List Tx, ps.Perm vs ∧ AscT ps ∧ OT w' B u ps ∧ w.grownBy w' u.ownBlock := by
  rcases h.2 with ⟨rfl, h0⟩ | ⟨g, cap', cur, rfl, -⟩
  · obtain rfl := List.eq_nil_of_length_eq_zero h0
    have hnone := AnyF.slices_SortFunc_none Tryz.sortTx none 0 (.func (.func 25) #[] #[]) w
    change Calls Tryz.prog 36 _ _ _ at hnone
    refine hnone.mono ?_
    rintro e w2 ⟨rfl, rfl⟩
    exact ⟨rfl, [], List.Perm.refl _, List.Pairwise.nil, h, World.grownBy.refl _ _⟩
  · refine (sortT_some w B g cap' vs h hl).mono ?_
    rintro e w' ⟨rfl, ps, h1, h2, h3, h4⟩
    refine ⟨rfl, ps, h1, h2, h3, h4⟩
theorem KeysV.perm {D : DataW Value} {vs ps : List Tx} (h : KeysV D vs) (hp : ps.Perm vs) : KeysV D ps := ⟨hp.nodup_iff.2 h.1, fun v hv => h.2.1 v (hp.mem_iff.1 hv), fun v hv => by rw [hp.mem_iff]; exact h.2.2 v hv⟩
set_option maxHeartbeats 1000000 in
theorem sortedT (Bm b nn : Nat) (D0 : DataW Value) (w : World) (hBm : Bm < w.heap.size) (hm : w.cell? ⟨Bm, 0, none⟩ = some (.map (some b))) (hown : w.ownsMap Tryz.prog 27 heldE b nn D0) (hmax : Maps.size D0 * 32 ≤ 140737488355328) :
    Calls Tryz.prog 23 #[.func (.func 37) #[] #[.pointer (some ⟨Bm, 0, none⟩)], .func (.func 25) #[] #[]] w fun e w' => ∃ u vs, e = .returned u ∧ KeysV D0 vs ∧ AscT vs ∧ OT w' w.heap.size u vs ∧ Below w.heap.size w w' := by
  have H := hidMk (collectV Bm b nn D0 w hBm hm hown hmax)
  clear hBm hm hown
  go_enter Tryz.func23, Tryz.ntmps23
  go_wp2_with fail
  refine H.out.mono ?_
  rintro e w1 ⟨u, vs, rfl, h1, h2, h3, h4⟩
  have h3' : OT w1 w.heap.size u vs := h3
  have HO := hidMk h3'
  have HK := hidMk h1
  have HB := hidMk h4
  clear h1 h3 h4
  obtain ⟨a, c, rfl⟩ := row_form h3'
  clear h3'
  go_wp2_with fail
  refine (sortsT _ _ _ vs HO.out (by omega)).mono ?_
  rintro e w2 ⟨rfl, ps, p1, p2, p3, p4⟩
  have hlen := p1.length_eq
  have HP : Hid (∃ (u : Value) (vs' : List Tx), Ending.returned (.slice a vs.length c) = .returned u ∧ KeysV D0 vs' ∧ AscT vs' ∧ OT w2 w.heap.size u vs' ∧ Below w.heap.size w w2) := ⟨_, ps, rfl, HK.out.perm p1, p2, p3, HB.out.grown p4 HB.out.size (fun j ej => (World.ownsRow.lt HO.out j ej).1)⟩
  clear p1 p2 p3 p4 HO HK HB
  go_wp2_with fail
  go_ret
  exact HP.out
theorem keysT_any (mb : Option Nat) (w : World) : Calls Tryz.prog 24 #[.map mb] w fun e w' => e = .returned (.func (.func 37) #[] #[.pointer (some ⟨w.heap.size, 0, none⟩)]) ∧ w' = w.alloc (.cells #[.map mb] 56) := by
  go_enter Tryz.func24, Tryz.ntmps24
  go_wp2
  go_ret
  exact ⟨rfl, rfl⟩
/-- Transactions that rise, and are just these. -/
def RiseT (vs : List Tx) (m : List (Tx × Value)) : Prop := vs.Perm (m.map (·.1)) ∧ AscT vs
set_option maxHeartbeats 1000000 in
theorem prepared_any (w : World) (t mp : Nat) (ms : Value) (m : List (Tx × Value)) (hO : Own w t 59 2 [.map (some mp), ms]) (hM : MP w txk mp m) (hl : m.length ≤ 1099511627776) :
    Calls Tryz.prog 15 #[.pointer (some ⟨t, 0, none⟩)] w fun e w' => ∃ u vs, e = .returned u ∧ RiseT vs m ∧ OT w' w.heap.size u vs ∧ Below w.heap.size w w' := by
  obtain ⟨es, ho, hp, hok, hn⟩ := hM
  have c0 : w.cell? ⟨t, 0, none⟩ = some (.map (some mp)) := hO.cell 0 (by decide)
  have hsz : Maps.size (DataW.map es) = m.length := by
    show es.length = _
    rw [hp.length_eq]; unfold mpOf; rw [List.length_map]
  have HF := hidMk (sortedT w.heap.size mp m.length _ (w.alloc (.cells #[.map (some mp)] 56)) (by simp) (by simp) (ho.alloc _) (by rw [hsz]; omega))
  have HR : Hid (∀ vs, KeysV (DataW.map es) vs → AscT vs → RiseT vs m) := fun vs hk ha => by
    refine ⟨(List.perm_ext_iff_of_nodup hk.1 hn).2 fun x => ?_, ha⟩
    have has : ∀ x, Fits x → (Maps.has (DataW.map es) (keyV x) = true ↔ x ∈ m.map (·.1)) := fun x hx => by
      have hf : es.find? (fun q => q.1.sameKey (keyV x)) = (fnd m x).map fun v => (keyV x, .held v) := find_mp (kd := txk) lawV hp hok hn hx
      rw [has_eq, List.any_eq_true, ← List.find?_isSome, hf, Option.isSome_map]
      cases hq : fnd m x with
      | none => simp [fnd_none.1 hq]
      | some v => simp; exact ⟨v, fnd_mem hq⟩
    constructor
    · intro hx
      have hfx := hk.2.1 x hx
      exact (has x hfx).1 ((hk.2.2 x hfx).1 hx)
    · intro hx
      obtain ⟨p, hp', rfl⟩ := List.mem_map.1 hx
      have hfx : Fits p.1 := hok p hp'
      exact (hk.2.2 _ hfx).2 ((has _ hfx).2 hx)
  clear hO ho hp hok hn
  go_enter Tryz.func15, Tryz.ntmps15
  go_wp2_with fail
  refine (keysT_any _ _).mono ?_
  rintro e w0 ⟨rfl, hw0⟩
  subst hw0
  go_wp2_with fail
  refine HF.out.mono ?_
  rintro e w1 ⟨u, vs, rfl, h1, h2, h3, h4⟩
  have HX : Hid (RiseT vs m ∧ OT w1 w.heap.size u vs ∧ Below w.heap.size w w1) := by
    refine ⟨HR.out vs h1 h2, ?_, (bel1 _ _).trans (h4.mono (by simp))⟩
    refine ⟨h3.1, ?_⟩
    rcases h3.2 with q | ⟨g, cap, cur, q1, q2, q3⟩
    · exact .inl q
    · exact .inr ⟨g, cap, cur, q1, Nat.le_trans (by simp) q2, q3⟩
  clear h1 h2 h3 h4
  go_wp2_with fail
  go_ret
  exact ⟨u, vs, rfl, HX.out⟩
end Go.Proofs.YtmeeoamcelkhmaaGreatDoor
