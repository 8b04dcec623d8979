import Derived.Test.YtpghfopbnicpmaaDoorGtV
import Derived.Test.YtpghfopbnicpmaaDoorGtS
namespace Go.Proofs.YtpghfopbnicpmaaDoor
open Go.RowKit
set_option linter.unusedVariables false
set_option linter.unusedSimpArgs false
set_option maxRecDepth 100000
set_option maxHeartbeats 2000000

theorem takeD_other (w : World) (g p q cp cq : Nat) (tm mk : Int) (es : List En) (h : GR w g p q cp cq tm mk es) (hw : Waits mk es) (k : Int) (hs : openB es k = true) (ek rt : Int) (hk : ¬ (ek = 1 ∨ ek = 2 ∨ ek = 3)) (av : Option Addr) (n cv : Nat) (t m : Int) :
    Calls Tryd.prog 11 #[.pointer (some ⟨g, 0, none⟩), .int .i64 k, .agg #[.int .i64 ek, .int .i64 rt, .slice av n cv, .int .i64 t, .int .i64 m]] w fun e w' => NothingD 4 e ∧ Below w.heap.size w w' := by
  have H := hidMk h
  have HS := hidMk hs
  have k1 : (ek == 1) = false := by simp; omega
  have k2 : (ek == 2) = false := by simp; omega
  have k3 : (ek == 3) = false := by simp; omega
  clear h hs hk
  go_enter Tryd.func11, Tryd.ntmps11
  go_wp2_with fail
  refine (openD_any _ g p q cp cq tm mk es (H.out.later (bel1 _ _)) hw k).mono ?_
  rintro e w1 ⟨rfl, rfl⟩
  rw [HS.out]
  go_wp2_with fail
  go_ret2
  exact ⟨rfl, bel1 _ _⟩
theorem takeD_row (w : World) (g p q cp cq : Nat) (tm mk : Int) (es : List En) (h : GR w g p q cp cq tm mk es) (hw : Waits mk es) (k : Int) (hs : openB es k = true) (rt : Int) (av : Option Addr) (vs : List V) (cv : Nat) (hv : VLies w av vs) (hvl : vs.length ≤ 4398046511104) (t m : Int) :
    Calls Tryd.prog 11 #[.pointer (some ⟨g, 0, none⟩), .int .i64 k, .agg #[.int .i64 1, .int .i64 rt, .slice av vs.length cv, .int .i64 t, .int .i64 m]] w fun e w' => Below w.heap.size w w' ∧ ∃ a' c', GoesD w w' 1 rt (.slice a' vs.length c') 0 0 e ∧ OV w' w.heap.size (.slice a' vs.length c') vs := by
  have H := hidMk h
  have HS := hidMk hs
  have HV := hidMk hv
  clear h hs hv
  go_enter Tryd.func11, Tryd.ntmps11
  go_wp2_with fail
  refine (openD_any _ g p q cp cq tm mk es (H.out.later (bel1 _ _)) hw k).mono ?_
  rintro e w1 ⟨rfl, hw1⟩
  have hs1 : w1.heap.size = w.heap.size + 1 := by rw [hw1]; simp
  have HB1 : Hid (Below w.heap.size w w1) := by unfold Hid; rw [hw1]; exact bel1 _ _
  have d0 : w1.cell? ⟨w.heap.size, 0, none⟩ = some (.int .i64 1) := by rw [hw1]; go_simp
  have d1 : w1.cell? ⟨w.heap.size, 1, none⟩ = some (.int .i64 rt) := by rw [hw1]; go_simp
  have d2 : w1.cell? ⟨w.heap.size, 2, none⟩ = some (.slice av vs.length cv) := by rw [hw1]; go_simp
  clear hw1
  rw [HS.out]
  go_wp2_with fail
  refine (copy_any rt av vs cv w1 (HV.out.later HB1.out) hvl).mono ?_
  rintro e w2 ⟨a', c', rfl, hO, hb⟩
  have HB2 : Hid (Below w.heap.size w w2) := HB1.out.trans (hb.mono (by omega))
  have HO := hidMk hO
  clear hO hb HB1 d0 d1 d2
  go_wp2_with fail
  go_ret2
  have hb3 : Below w2.heap.size w2 ((w2.alloc (.cells #[.int .i64 rt, .slice a' vs.length c'] 34)).alloc (.cells #[.int .i64 1, .int .i64 rt, .slice a' vs.length c', .int .i64 0, .int .i64 0] 36)) := (bel1 _ _).alloc (by simp) _
  have hsz := HB2.out.size
  refine ⟨HB2.out.trans (hb3.mono hsz), a', c', ⟨w2.heap.size + 1, by omega, by simp, by unfold OneE; go_simp⟩, ?_⟩
  exact (HO.out.base (by omega)).later hb3
end Go.Proofs.YtpghfopbnicpmaaDoor
