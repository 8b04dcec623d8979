import Derived.Test.YtmeeoamcelkhmaaGreatDoorSrtG
namespace Go.Proofs.YtmeeoamcelkhmaaGreatDoor
open Go.RowKit
set_option linter.unusedVariables false
set_option maxRecDepth 100000

set_option maxHeartbeats 8000000 in
/-- The program's Sorted. -/
theorem sorted_any (rs : List Rw) (a : Option Addr) (c : Nat) (w : World) (h : RLies w a rs) (hl : rs.length ≤ 4398046511104) (hv : ∀ r ∈ rs, r.vs.length ≤ 4398046511104) :
    Calls Tryz.prog 18 #[.slice a rs.length c] w (SPost w rs) := by
  obtain ⟨i0, hi0, hz0, hz1, hz2⟩ := info_parts info30
  have HR : Hid (RLies w a rs) := h
  have HV : Hid (∀ r ∈ rs, r.vs.length ≤ 4398046511104) := hv
  have hmk : ∀ W : World, (Instr.makeSlice 28 (.int .i64 (rs.length : Int)) (.int .i64 (rs.length : Int))).run Tryz.prog W = .ok (.slice (some ⟨W.heap.size, 0, none⟩) rs.length rs.length) (W.alloc (.cells (madeCells #[.int .i64 0, .slice none 0 0] (rs.length * 2)) 34)) := fun W => by
    have := run_make (P := Tryz.prog) W 28 34 i0 (.agg #[.int .i64 0, .slice none 0 0]) Tryz.underlying28 hi0 hz0 .i64 .i64 (rs.length : Int) (rs.length : Int) (by omega) (by omega) (by rw [hz2]; omega) (by omega)
    rw [this, hz1]
    rw [Int.toNat_natCast]
    rfl
  have HO0 : Hid (OR (w.alloc (.cells (madeCells #[.int .i64 0, .slice none 0 0] (rs.length * 2)) 34)) w.heap.size (.slice (some ⟨w.heap.size, 0, none⟩) rs.length rs.length) (List.replicate rs.length zq)) := by
    refine ⟨?_, fun q hq => ?_, fun q hq y hy => ?_⟩
    · rw [List.length_replicate]
      refine ⟨by rw [len_cellsR, List.length_replicate], .inr ⟨w.heap.size, rs.length, _, rfl, Nat.le_refl _, heap_alloc_new w _, Nat.le_refl _, by unfold maxLen; omega, size_madeCells _ _, ?_⟩⟩
      rw [flat_zq, List.take_of_length_le (by rw [len_cellsR, List.length_replicate]; exact Nat.le_refl _)]
    · rw [List.eq_of_mem_replicate hq]; exact fun i hi => absurd hi (by simp [zq])
    · rw [List.eq_of_mem_replicate hq] at hy; cases hy
  clear h hv
  go_enter Tryz.func18, Tryz.ntmps18
  go_wp2
  go_loopw [11] (fun i w' => ∃ (ps : List Q), ps.length ≤ rs.length ∧ i = .int .i64 (ps.length : Nat) ∧ OR w' w.heap.size (.slice (some ⟨w.heap.size, 0, none⟩) rs.length rs.length) (ps ++ List.replicate (rs.length - ps.length) zq) ∧ (∀ q ∈ ps, OV w' w.heap.size (.slice q.a q.r.vs.length q.c) q.r.vs) ∧ ps.Pairwise Ap ∧ ps.map (·.r) = rs.take ps.length ∧ Below w.heap.size w w') (fun i _ => rs.length - (intOf i).toNat)
  case atStart => exact ⟨[], Nat.zero_le _, rfl, by simpa using HO0.out, (fun q hq => by cases hq), List.Pairwise.nil, by simp, bel1 _ _⟩
  case round =>
    obtain ⟨ps, hk, rfl, hOR, hM, hT, hD, hb⟩ := hrel
    have hlen : (ps ++ List.replicate (rs.length - ps.length) zq).length = rs.length := by simp; omega
    have HOR : Hid (OR wr w.heap.size (.slice (some ⟨w.heap.size, 0, none⟩) rs.length rs.length) (ps ++ List.replicate (rs.length - ps.length) zq)) := hOR
    have HM : Hid (∀ q ∈ ps, OV wr w.heap.size (.slice q.a q.r.vs.length q.c) q.r.vs) := hM
    have HT : Hid (ps.Pairwise Ap) := hT
    have HD : Hid (ps.map (·.r) = rs.take ps.length) := hD
    have HB : Hid (Below w.heap.size w wr) := hb
    have hsz := hb.size
    have hOlt := (hOR.base w.heap.size rfl).2
    clear hOR hM hT hD hb HO0
    by_cases hlt : ps.length < rs.length
    · have hki : (ps.length : Int) < (rs.length : Int) := by omega
      obtain ⟨b, o, av, cv, rfl, e1, e2, e3⟩ := HR.out.later HB.out ps.length hlt
      have HV3 : Hid (VLies wr av rs[ps.length].vs) := e3
      have hvk := HV.out _ (List.getElem_mem hlt)
      have HTK : Hid (rs.take (ps.length + 1) = rs.take ps.length ++ [rs[ps.length]]) := List.take_succ_eq_append_getElem hlt
      clear e3
      generalize hr : rs[ps.length] = r at *
      have HC : Hid (∀ q, Calls Tryz.prog 27 #[.slice av r.vs.length cv] ((wr.alloc (.cells #[.int .i64 r.t, .slice av r.vs.length cv] 34)).drewN q) fun e w' => ∃ a' c', e = .returned (.slice a' r.vs.length c') ∧ OV w' ((wr.alloc (.cells #[.int .i64 r.t, .slice av r.vs.length cv] 34)).drewN q).heap.size (.slice a' r.vs.length c') r.vs ∧ Below ((wr.alloc (.cells #[.int .i64 r.t, .slice av r.vs.length cv] 34)).drewN q).heap.size ((wr.alloc (.cells #[.int .i64 r.t, .slice av r.vs.length cv] 34)).drewN q) w') := fun q =>
        clone_any av r.vs cv _ ((HV3.out.later (bel1 _ _)).later (below_drewN (Below.refl _ _) q)) hvk
      go_wp2
      go_region_held3 (fun w' => w'.cell? ⟨wr.heap.size, 0, none⟩ = some (.int .i64 r.t) ∧ w'.cell? ⟨wr.heap.size, 1, none⟩ = some (.slice av r.vs.length cv))
        (first
          | go_keep
          | (go_split_ands; exact ⟨cell_later hbb (by assumption), cell_later hbb (by assumption)⟩)
          | (go_split_ands; refine ⟨?_, ?_⟩ <;> exact (grown_set _ _ _).cell ((grown_set _ _ _).cell (by assumption) (by simp; omega)) (by simp; omega)))
        (first
          | (go_at_call 27; refine (HC.out _).mono ?_; rintro e w3 ⟨a', c', rfl, hOV, hbb⟩
             have hb3 : Below wr.heap.size wr w3 := (bel1 _ _).trans (((below_drewN (Below.refl _ _) _).trans hbb).mono (by simp))
             have hO3 := HOR.out.later hb3
             obtain ⟨x1, x2⟩ := hO3.cells hlen.symm ps.length (by omega)
             have y1 := hO3.soft hlen.symm (ps.length * 2)
             have y2 := hO3.soft hlen.symm (ps.length * 2 + 1)
             clear hO3
             generalize (ps ++ List.replicate (rs.length - ps.length) zq)[ps.length] = zz at x1 x2))
      all_goals
        have hO3 := HOR.out.later hb3
        obtain ⟨av', cv', hx, hVL, hA⟩ := hOV.form
        cases hx
        have hA' : ∀ y, a' = some y → wr.heap.size + 1 ≤ y.block ∧ y.block < w3.heap.size := fun y hy => by have := hA y hy; simpa using this
        obtain ⟨hO', hg'⟩ := hO3.set hlen.symm ps.length (by omega) ⟨r, a', c'⟩ hVL (fun y hy => ⟨by have := hA' y hy; omega, (hA' y hy).2, fun e => by have := hA' y hy; have e' := Option.some.inj e; omega⟩)
        rw [rep_set ps rs.length zq _ hlt] at hO'
        have hap : ∀ q ∈ ps, ∀ y, q.a = some y → w.heap.size ≤ y.block ∧ y.block < wr.heap.size ∧ some y.block ≠ some w.heap.size := fun q hq => HOR.out.apart q (List.mem_append_left _ hq)
        have hM' : ∀ q ∈ ps ++ [(⟨r, a', c'⟩ : Q)], OV ((w3.setCell ⟨w.heap.size, ps.length * 2, none⟩ (.int .i64 r.t)).setCell ⟨w.heap.size, ps.length * 2 + 1, none⟩ (.slice a' r.vs.length c')) w.heap.size (.slice q.a q.r.vs.length q.c) q.r.vs := fun q hq => by
          rcases List.mem_append.1 hq with hq | hq
          · refine ((HM.out q hq).later hb3).far hg' ?_
            cases ha : q.a with
            | none => simp [Value.ownBlock]
            | some y => simp only [Value.ownBlock]; exact (hap q hq y ha).2.2
          · rw [List.mem_singleton.1 hq]
            refine OV.far (hOV.base (by simp; omega)) hg' ?_
            cases ha : a' with
            | none => simp [Value.ownBlock]
            | some y => simp only [Value.ownBlock]; intro e; have := hA' y ha; have e' := Option.some.inj e; omega
        have hT' : (ps ++ [(⟨r, a', c'⟩ : Q)]).Pairwise Ap := by
          rw [List.pairwise_append]
          refine ⟨HT.out, List.pairwise_singleton _ _, fun q hq p hp y z hy hz => ?_⟩
          rw [List.mem_singleton.1 hp] at hz
          have h1 := hap q hq y hy
          have h2 := hA' z hz
          omega
        have hD' : (ps ++ [(⟨r, a', c'⟩ : Q)]).map (·.r) = rs.take (ps.length + 1) := by
          rw [HTK.out, List.map_append, HD.out]; rfl
        have hB' : Below w.heap.size w ((w3.setCell ⟨w.heap.size, ps.length * 2, none⟩ (.int .i64 r.t)).setCell ⟨w.heap.size, ps.length * 2 + 1, none⟩ (.slice a' r.vs.length c')) := (HB.out.trans (hb3.mono hsz)).grown hg' (by have := hb3.size; omega) (fun k hk => by cases hk; exact Nat.le_refl _)
        have HW : Hid (∃ (ps' : List Q), ps'.length ≤ rs.length ∧ Value.int .i64 ((ps.length : Int) + 1) = .int .i64 (ps'.length : Nat) ∧ OR ((w3.setCell ⟨w.heap.size, ps.length * 2, none⟩ (.int .i64 r.t)).setCell ⟨w.heap.size, ps.length * 2 + 1, none⟩ (.slice a' r.vs.length c')) w.heap.size (.slice (some ⟨w.heap.size, 0, none⟩) rs.length rs.length) (ps' ++ List.replicate (rs.length - ps'.length) zq) ∧ (∀ q ∈ ps', OV ((w3.setCell ⟨w.heap.size, ps.length * 2, none⟩ (.int .i64 r.t)).setCell ⟨w.heap.size, ps.length * 2 + 1, none⟩ (.slice a' r.vs.length c')) w.heap.size (.slice q.a q.r.vs.length q.c) q.r.vs) ∧ ps'.Pairwise Ap ∧ ps'.map (·.r) = rs.take ps'.length ∧ Below w.heap.size w ((w3.setCell ⟨w.heap.size, ps.length * 2, none⟩ (.int .i64 r.t)).setCell ⟨w.heap.size, ps.length * 2 + 1, none⟩ (.slice a' r.vs.length c'))) :=
          ⟨ps ++ [⟨r, a', c'⟩], by simp; omega, by simp, by rw [List.length_append]; exact hO', hM', hT', by rw [hD', List.length_append]; rfl, hB'⟩
        clear hO3 hVL hA hA' hO' hg' hap hM' hT' hD' hB' hOV hb3 hbb
        go_wp2
        go_roundw
        case rel => exact HW.out
        case measure => simp [intOf]; omega
    · have hpl : ps.length = rs.length := by omega
      have hOR := HOR.out
      rw [hpl, Nat.sub_self, List.replicate_zero, List.append_nil] at hOR
      have hDn : Done wr w.heap.size w.heap.size ps := ⟨by have := hOR.own; rw [hpl] at this ⊢; exact this, HM.out, fun q hq y hy e => (hOR.apart q hq y hy).2.2 (congrArg some e), HT.out⟩
      have hmap : ps.map (·.r) = rs := by have := HD.out; rwa [hpl, List.take_length] at this
      have hcall := sort_any wr w.heap.size rs.length ps (whole_row hDn.own) (fun q hq => ⟨hOR.lies q hq, hDn.apart q hq, HV.out _ (by rw [← hmap]; exact List.mem_map.2 ⟨q, hq, rfl⟩)⟩) (by omega)
      rw [hpl] at hcall
      have HCL : Hid _ := hcall
      have HDn : Hid (Done wr w.heap.size w.heap.size ps) := hDn
      clear hOR hDn hcall
      have HMAP : Hid (ps.map (·.r) = rs) := hmap
      clear hmap
      go_wp2_with fail
      refine Calls.mono HCL.out ?_
      rintro e w5 ⟨rfl, qs', hp, ha, hg, hgr⟩
      have HF : Hid (SPost w rs (.returned (.slice (some ⟨w.heap.size, 0, none⟩) rs.length rs.length)) w5) := sorted_fin w wr w5 w.heap.size rs ps qs' (Nat.le_refl _) HDn.out HMAP.out hp ha hg hgr HB.out hl
      clear hp ha hg hgr
      go_wp2
      go_ret
      exact HF.out
end Go.Proofs.YtmeeoamcelkhmaaGreatDoor
