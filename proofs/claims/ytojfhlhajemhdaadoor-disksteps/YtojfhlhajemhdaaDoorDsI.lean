import Derived.Test.YtojfhlhajemhdaaDoorDsH
import Derived.Sort.KeysCollected
namespace Go.Proofs.YtojfhlhajemhdaaDoor
open Go.RowKit Go.Maps Go.Sort Go.Shelf
set_option linter.unusedVariables false
set_option linter.unusedSimpArgs false
set_option maxRecDepth 100000

theorem sortsS (m : Nat) : AnyZ.SortsIn Tryd.prog Tryd.sorted22_ren Fence.wide m :=
  ⟨fun blk off cap ss W hH hblk hsz => callsIn_wide.2 (AnyM.slices_Sort_string Tryd.sort30 blk off cap ss W hH hblk hsz),
   fun p cap W => callsIn_wide.2 (AnyM.slices_Sort_string_none Tryd.sort30 p cap W)⟩
theorem keys_any (mb : Option Nat) (W : World) : Calls Tryd.prog 23 #[.map mb] W fun e w' => e = .returned (.func (.func 31) #[] #[.pointer (some ⟨W.heap.size, 0, none⟩)]) ∧ w' = W.alloc (.cells #[.map mb] 47) :=
  callsIn_wide.1 (AnyZ.keys_in Tryd.keys23 Fence.wide 5 trivial rfl mb W)
set_option maxHeartbeats 1000000 in
theorem sorted_any {H : Type} (b nn : Nat) (D0 : DataW H) (R : Value → Option (DataW H × List MemPlace)) (w : World) (hown : w.ownsMap Tryd.prog 9 R b nn D0) (hmax : Maps.size D0 ≤ maxLen) (hbytes : Maps.size D0 * 16 ≤ 140737488355328) :
    Calls Tryd.prog 22 #[.func (.func 31) #[] #[.pointer (some ⟨w.heap.size, 0, none⟩)]] (w.alloc (.cells #[.map (some b)] 47)) fun e w' => ∃ (v : Value) (ss : List (List UInt8)), e = .returned v ∧ ss.Perm (strKeys D0) ∧
      w'.ownsRow (w.alloc (.cells #[.map (some b)] 47)).heap.size 9 1 v ss.length ((ss.mergeSort (fun x y => decide (x ≤ y))).map encStr) ∧ (v = .slice none 0 0 ↔ ss = []) ∧ Below (w.alloc (.cells #[.map (some b)] 47)).heap.size (w.alloc (.cells #[.map (some b)] 47)) w' := by
  have hbl := hown.lt
  have hseq : SeqGives Fence.wide 2 Tryd.prog 31 #[.pointer (some ⟨w.heap.size, 0, none⟩)] encStr (fun ss => ss.Perm (strKeys D0)) (Maps.size D0) (w.alloc (.cells #[.map (some b)] 47)) :=
    AnyZ.keys_gives (ρ := Tryd.keys23_ren) { Tryd.keys23 with } Fence.wide _ trivial rfl (by omega) w.heap.size b nn D0 _ (by simp) (by simp) (by
      obtain ⟨es, clock, hb, Ft, hs, hD⟩ := hown
      exact ⟨es, clock, (Below.heap_alloc _ _ b hbl).trans hb, Ft, hs, hD⟩)
  exact callsIn_wide.1 (AnyZ.sorted_in Tryd.sorted22 Fence.wide 5 trivial trivial trivial trivial rfl (by omega) (sortsS _) (enters_of Tryd.func30 (by kernel_rfl) rfl) 31 #[.pointer (some ⟨w.heap.size, 0, none⟩)] trivial (enters_of Tryd.func31 (by kernel_rfl) rfl) _ _ hmax hbytes _ hseq)

/-- Texts that rise, and are just these names. -/
def Rise (ss : List (List UInt8)) (fs : List Fl) : Prop := ss.Perm (fs.map fun f => f.nm.data.toList) ∧ ss.Pairwise (fun x y => x ≤ y)
set_option maxHeartbeats 1000000 in
theorem names_any (w : World) (B d mb : Nat) (lv : Value) (fs : List Fl) (h : PD w B d mb lv fs) (hn : fs.length ≤ 2513169434880) :
    Calls Tryd.prog 15 #[.pointer (some ⟨d, 0, none⟩)] w fun e w' => ∃ (v : Value) (ss : List (List UInt8)), e = .returned v ∧ Rise ss fs ∧ w'.ownsRow w.heap.size 9 1 v ss.length (ss.map encStr) ∧ Below w.heap.size w w' := by
  obtain ⟨c0, c1, f0, f1⟩ := h.cells
  obtain ⟨es, ho, hp, _⟩ := h.mp
  have hsz : Maps.size (DataW.map es) = fs.length := by
    show es.length = _
    rw [hp.length_eq]; unfold mpOf; rw [List.length_map, List.length_map]
  have HS := hidMk (sorted_any mb _ _ _ w ho (by rw [hsz]; unfold maxLen; omega) (by rw [hsz]; omega))
  have hk : (strKeys (DataW.map es)).Perm (fs.map fun f => f.nm.data.toList) := by
    show (es.map fun p => strOf p.1).Perm _
    refine (hp.map _).trans (List.Perm.of_eq ?_)
    unfold mpOf
    rw [List.map_map, List.map_map]
    rfl
  have HK := hidMk hk
  clear h ho hp hk
  go_enter Tryd.func15, Tryd.ntmps15
  go_wp2_with fail
  refine (keys_any _ _).mono ?_
  rintro e w1 ⟨rfl, rfl⟩
  go_wp2_with fail
  refine HS.out.mono ?_
  rintro e w2 ⟨v, ss, rfl, h1, h2, h3, h4⟩
  have HB : Hid (Below w.heap.size w w2) := (bel1 _ _).trans (h4.mono (by simp))
  have HR : Hid (w2.ownsRow w.heap.size 9 1 v (ss.mergeSort (fun x y => decide (x ≤ y))).length ((ss.mergeSort (fun x y => decide (x ≤ y))).map encStr)) := by
    rw [Hid, List.length_mergeSort]
    refine ⟨h2.1, ?_⟩
    rcases h2.2 with q | ⟨g, cap, cur, q1, q2, q3⟩
    · exact .inl q
    · exact .inr ⟨g, cap, cur, q1, Nat.le_trans (by simp) q2, q3⟩
  have HP : Hid (Rise (ss.mergeSort (fun x y => decide (x ≤ y))) fs) := by
    refine ⟨(List.mergeSort_perm _ _).trans (h1.trans HK.out), ?_⟩
    have := List.pairwise_mergeSort (le := fun (x y : List UInt8) => decide (x ≤ y)) (by intro a b c hab hbc; simp only [decide_eq_true_eq] at *; exact List.le_trans hab hbc) (by intro a b; simp only [Bool.or_eq_true, decide_eq_true_eq]; exact List.le_total a b) ss
    exact this.imp (by simp)
  clear h1 h2 h3 h4
  go_wp2_with fail
  go_ret
  exact ⟨v, _, rfl, HP.out, HR.out, HB.out⟩
end Go.Proofs.YtojfhlhajemhdaaDoor
