import Derived.Test.YthdbfgnjeolfaaaDoorVlB
import Derived.Deep.DeepCutAuto
import Derived.Deep.LoopGhost
namespace Go.Proofs.YthdbfgnjeolfaaaDoor
open Go.RowKit
set_option linter.unusedVariables false
set_option linter.unusedSimpArgs false
set_option maxRecDepth 100000
set_option maxHeartbeats 4000000

theorem soft_later {w wx : World} {a : Addr} {v : Value} (hb : Below w.heap.size w wx) (h : w.cell? a = some v) (hf : w.frozen? a = false) : wx.frozen? a = false := (hb.frozen (World.block_lt_of_cell? _ _ h)).trans hf

/-- A row in memory of its own. -/
theorem copied_any (t : Int) (a : Option Addr) (vs : List V) (c : Nat) (w : World) (h : VLies w a vs) (hl : vs.length ≤ 4398046511104) :
    Calls Tryd.prog 20 #[.agg #[.int .i64 t, .slice a vs.length c]] w fun e w' => ∃ a' c', e = .returned (.agg #[.int .i64 t, .slice a' vs.length c']) ∧ OV w' w.heap.size (.slice a' vs.length c') vs ∧ Below w.heap.size w w' := by
  have HV : Hid (VLies w a vs) := h
  have HB0 : Hid (Below w.heap.size w (((w.alloc (.cells #[.int .i64 t, .slice a vs.length c] 37)).alloc (.cells #[.int .i64 0, .slice none 0 0] 37)).drew)) := ((bel1 _ _).trans ((bel1 _ _).mono (by simp))).drew
  clear h
  go_enter Tryd.func20, Tryd.ntmps20
  go_wp2
  go_region_with (first | (go_at_call 28; refine (clone_any a vs c _ (HV.out.later HB0.out) hl).mono ?_; rintro e w1 ⟨a', c', rfl, hOV, hb⟩; have d0 := cell_later (a := ⟨w.heap.size, 0, none⟩) (v := .int .i64 t) hb (by go_simp); have d1 := cell_later (a := ⟨w.heap.size + 1, 0, none⟩) (v := .int .i64 0) hb (by go_simp); have d2 := cell_later (a := ⟨w.heap.size + 1, 1, none⟩) (v := .slice none 0 0) hb (by go_simp); have s1 := soft_later (a := ⟨w.heap.size + 1, 0, none⟩) (v := .int .i64 0) hb (by go_simp) (by go_simp); have s2 := soft_later (a := ⟨w.heap.size + 1, 1, none⟩) (v := .slice none 0 0) hb (by go_simp) (by go_simp)))
  all_goals
    have hs0 : ((w.alloc (.cells #[.int .i64 t, .slice a vs.length c] 37)).alloc (.cells #[.int .i64 0, .slice none 0 0] 37)).drew.heap.size = w.heap.size + 1 + 1 := by simp
    have hOn := Own.new (w.alloc (.cells #[.int .i64 t, .slice a vs.length c] 37)) 37 2 #[.int .i64 0, .slice none 0 0] rfl
    rw [World.size_alloc] at hOn
    have hO1 : Own w1 (w.heap.size + 1) 37 2 [.int .i64 0, .slice none 0 0] := Own.later (w := ((w.alloc (.cells #[.int .i64 t, .slice a vs.length c] 37)).alloc (.cells #[.int .i64 0, .slice none 0 0] 37)).drew) hOn hb
    obtain ⟨hO2, hg2⟩ := hO1.put 0 (.int .i64 t)
    obtain ⟨hO3, hg3⟩ := hO2.put 1 (.slice a' vs.length c')
    have HB : Hid (Below w.heap.size w ((w1.setCell ⟨w.heap.size + 1, 0, none⟩ (.int .i64 t)).setCell ⟨w.heap.size + 1, 1, none⟩ (.slice a' vs.length c'))) := (((HB0.out.trans (hb.mono HB0.out.size)).setCell (p := ⟨w.heap.size + 1, 0, none⟩) (by simp) _).setCell (p := ⟨w.heap.size + 1, 1, none⟩) (by simp) _)
    rw [hs0] at hOV
    have HOV : Hid (OV ((w1.setCell ⟨w.heap.size + 1, 0, none⟩ (.int .i64 t)).setCell ⟨w.heap.size + 1, 1, none⟩ (.slice a' vs.length c')) w.heap.size (.slice a' vs.length c') vs) := ((hOV.grown (grown_trans hg2 hg3) (fun k hk => by cases hk; omega))).base (by omega)
    have k0 := hO3.cell 0 (by decide)
    have k1 := hO3.cell 1 (by decide)
    simp only [List.set_cons_zero, List.set_cons_succ, List.getElem?_cons_zero, List.getElem?_cons_succ] at k0 k1
    clear hs0 hOn hO1 hO2 hg2 hO3 hg3 hOV hb d0 d1 d2 s1 s2
    generalize (w1.setCell ⟨w.heap.size + 1, 0, none⟩ (.int .i64 t)).setCell ⟨w.heap.size + 1, 1, none⟩ (.slice a' vs.length c') = w2 at *
    go_wp2
    exact bodyPost_ret (v := .agg #[.int .i64 t, .slice a' vs.length c']) (by simp [results, Tryd.results20, go_sem, k0, k1]) rfl ⟨a', c', rfl, HOV.out, HB.out⟩
end Go.Proofs.YthdbfgnjeolfaaaDoor
