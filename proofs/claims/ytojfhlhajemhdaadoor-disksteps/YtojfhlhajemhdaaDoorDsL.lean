import Derived.Test.YtojfhlhajemhdaaDoorDsK
namespace Go.Proofs.YtojfhlhajemhdaaDoor
open Go.RowKit
set_option linter.unusedVariables false
set_option linter.unusedSimpArgs false
set_option maxRecDepth 100000

theorem LF.more {w' : World} {B : Nat} {x' : Value} {G : List Fl} {f : Fl} (h : w'.ownsRow B 36 3 x' (G.length + 1) (G.flatMap cellsF ++ cellsF f)) : LF w' B x' (G ++ [f]) := by
  unfold LF
  rw [List.length_append, List.flatMap_append]; simpa using h

set_option maxHeartbeats 8000000 in
theorem lcrash_pos (w : World) (B : Nat) (x : Value) (fs : List Fl) (t : Nat) (pa : Option Addr) (pc : Nat) (h : LF w B x fs) (ht : t ≤ 9223372036854775807) (hn : fs.length ≤ 2513169434880) (hB : B ≤ w.heap.size) (hpl : ∀ f ∈ fs, True ∧ f.bs.length ≤ f.lc ∧ f.bs.length ≤ 140737488355328) :
    Calls Tryd.prog 10 #[x, .int .i64 (t : Int)] w fun e w' => ∃ x', e = .returned x' ∧ LF w' w.heap.size x' (crashed t pa pc 0 fs) ∧ Below w.heap.size w w' := by
  obtain ⟨i0, hi0, hz0, hz1, hz2⟩ := info_parts infoF
  obtain ⟨a, c, rfl, hcase⟩ := h.form
  have HL := hidMk h
  have HC := hidMk hcase
  have HPL := hidMk hpl
  have ht0 : ¬ (t : Int) < 0 := by omega
  clear h hcase hpl
  go_enter Tryd.func10, Tryd.ntmps10
  go_wp2_with fail
  go_loopg [5, 6, 7] fs.length (fun gk x' n i wr => ∃ k : Nat, gk + k = fs.length ∧ i = .int .i64 k ∧ n = .int .i64 ((loose (fs.take k)).length : Int) ∧ LF wr w.heap.size x' (crashed t pa pc 0 (fs.take k)) ∧ Below w.heap.size w wr)
  case atStart => exact ⟨0, by omega, rfl, by rw [List.take_zero]; rfl, by rw [List.take_zero]; exact World.ownsRow_nil _ _ _ _, Below.refl _ _⟩
  case round =>
    obtain ⟨k, hgk, rfl, rfl, hLk, hbk⟩ := hrel
    have hszk := hbk.size
    by_cases hk : k < fs.length
    · have hk' : (k : Int) < (fs.length : Int) := by omega
      obtain ⟨g, rfl, -⟩ : ∃ g, a = some ⟨g, 0, none⟩ ∧ True := by
        rcases HC.out with ⟨h1, -⟩ | ⟨g, h1, -⟩
        · rw [h1] at hk; simp at hk
        · exact ⟨g, h1, trivial⟩
      have HL1 : LF wr B (.slice (some ⟨g, 0, none⟩) fs.length c) fs := own_later HL.out hbk
      obtain ⟨c0, c1, c2⟩ := HL1.cells k hk
      obtain ⟨hfp, hfc, hfl⟩ := HPL.out fs[k] (List.getElem_mem hk)
      have htk : fs.take (k + 1) = fs.take k ++ [fs[k]] := List.take_succ_eq_append_getElem hk
      have hlo : (loose (fs.take k)).length ≤ k := by
        unfold loose; rw [List.length_map]; exact Nat.le_trans (List.length_filter_le _ _) (by rw [List.length_take]; omega)
      have hcl : (crashed t pa pc 0 (fs.take k)).length ≤ k := Nat.le_trans (crashed_len t pa pc 0 (fs.take k)) (by rw [List.length_take]; omega)
      have hnx : crashed t pa pc 0 (fs.take (k + 1)) = crashed t pa pc 0 (fs.take k) ++ crashed t pa pc (loose (fs.take k)).length [fs[k]] := by rw [htk, crashed_app, Nat.zero_add]
      have hnl : (loose (fs.take (k + 1))).length = (loose (fs.take k)).length + (if fs[k].ls then 1 else 0) := by rw [htk, loose_app, List.length_append, loose_cons]; split <;> rfl
      obtain ⟨ax, cx, rfl⟩ := row_form hLk
      have HLk := hidMk hLk
      have HBk := hidMk hbk
      have HNX := hidMk hnx
      have HNL := hidMk hnl
      have HFP := hidMk hfp
      clear hLk hbk HL1 htk hnx hnl hfp
      generalize fs[k] = f at *
      generalize (loose (fs.take k)).length = n at *
      generalize hG : crashed t pa pc 0 (fs.take k) = G at *
      clear hG
      cases hls : f.ls with
      | false =>
        rw [hls] at c2
        have hlsn : ¬ f.ls = true := by rw [hls]; decide
        have hff : { f with ls := false } = f := by cases f; simp at hls; simp [hls]
        go_wp2_with (first
          | (at_builtin; refine wpList_append_own_at _ rfl _ _ 25 rfl w.heap.size 36 i0 (.agg #[.string ⟨#[]⟩, .slice none 0 0, .bool false]) 3 48 Tryd.underlying25 hi0 hz0 hz1 hz2 rfl (by decide) _ G.length (G.flatMap cellsF) rfl ((World.ownsRow.alloc HLk.out _).alloc _) ⟨wr.heap.size + 1, 0, none⟩ 1 1 (cellsF { f with ls := false }) rfl rfl ?c1 ?c2 ?c3 ?c4 ?c5 ?_))
        case c1 =>
          intro j u hj
          match j, hj with
          | 0, hj => simp [cellsF] at hj; subst hj; simp [Addr.add]
          | 1, hj => simp [cellsF] at hj; subst hj; simp [Addr.add]
          | 2, hj => simp [cellsF] at hj; subst hj; simp [Addr.add]
        case c2 => exact one_cellsF _
        case c3 => unfold maxLen; omega
        case c4 => omega
        case c5 => first | omega | (simp; omega)
        intro x5 w5 hown' hgrow _ hat
        have HX : Hid (LF w5 w.heap.size x5 (crashed t pa pc 0 (fs.take (k + 1)))) := by
          rw [Hid, HNX.out, crashed, if_neg hlsn]; exact LF.more hown'
        have HB5 : Hid (Below w.heap.size w w5) := HBk.out.trans (Below.grown ((((Below.refl _ wr).alloc (Nat.le_refl _) _).alloc (by simp) _).mono hszk) hgrow (by simp; omega) (fun j hj => (World.ownsRow.lt HLk.out j hj).1))
        clear hown' hgrow hat
        go_wp2_with fail
        go_roundg (gk - 1)
        case measure => omega
        case rel => exact ⟨k + 1, by omega, by go_num, by rw [HNL.out, hls]; simp, HX.out, HB5.out⟩
      | true =>
        rw [hls] at c2
        have hn1 : IntKind.i64.wrap ((n : Int) + 1) = (n : Int) + 1 := wi64 (by omega) (by omega)
        have hn2 : IntKind.i64.wrap ((n : Int) + 1 - 1) = (n : Int) := by rw [show (n : Int) + 1 - 1 = (n : Int) by omega]; exact wi64 (by omega) (by omega)
        by_cases hnt : n = t
        · subst hnt
          have hq : (f.bs.length : Int).tdiv 2 = ((f.bs.length / 2 : Nat) : Int) := by
            rw [Int.tdiv_eq_ediv_of_nonneg (by omega)]; rfl
          have hq2 : (f.bs.length : Int) / 2 = ((f.bs.length / 2 : Nat) : Int) := by omega
          have s1 := slice_any f.la f.bs.length f.lc (f.bs.length / 2) HFP.out (by omega) (wr.alloc (.cells #[.string f.nm, .slice f.la f.bs.length f.lc, .bool true] 36))
          have s2 := sliceAt_any f.la f.bs.length f.lc (f.bs.length / 2) HFP.out (by omega) (wr.alloc (.cells #[.string f.nm, .slice f.la f.bs.length f.lc, .bool true] 36))
          have HH : Hid (f.bs.length / 2 = (half f.bs).length) := (half_len f.bs).symm
          have HQQ : Hid (f.bs.length / 2 ≤ f.bs.length) := by unfold Hid; omega
          generalize hm : f.bs.length / 2 = m at *
          have HM := hidMk hm
          clear hm
          go_wp2_with (first
            | (at_builtin; refine wpList_append_own_at _ rfl _ _ 25 rfl w.heap.size 36 i0 (.agg #[.string ⟨#[]⟩, .slice none 0 0, .bool false]) 3 48 Tryd.underlying25 hi0 hz0 hz1 hz2 rfl (by decide) _ G.length (G.flatMap cellsF) rfl ((World.ownsRow.alloc HLk.out _).alloc _) ⟨wr.heap.size + 1, 0, none⟩ 1 1 (cellsF { f with ls := false, bs := half f.bs, pa := pa, pc := pc }) rfl rfl ?c1 ?c2 ?c3 ?c4 ?c5 ?_))
          case c1 =>
            intro j u hj
            match j, hj with
            | 0, hj => simp [cellsF] at hj; subst hj; simp [Addr.add]
            | 1, hj => simp [cellsF] at hj; subst hj; simp [Addr.add, HH.out]
            | 2, hj => simp [cellsF] at hj; subst hj; simp [Addr.add]
          case c2 => exact one_cellsF _
          case c3 => unfold maxLen; omega
          case c4 => omega
          case c5 => first | omega | (simp; omega)
          intro x5 w5 hown' hgrow _ hat
          have HX : Hid (LF w5 w.heap.size x5 (crashed n pa pc 0 (fs.take (k + 1)))) := by
            rw [Hid, HNX.out, crashed, if_pos hls, if_pos rfl]; exact LF.more hown'
          have HB5 : Hid (Below w.heap.size w w5) := HBk.out.trans (Below.grown ((((Below.refl _ wr).alloc (Nat.le_refl _) _).alloc (by simp) _).mono hszk) hgrow (by simp; omega) (fun j hj => (World.ownsRow.lt HLk.out j hj).1))
          clear hown' hgrow hat
          go_wp2_with fail
          go_roundg (gk - 1)
          case measure => omega
          case rel => exact ⟨k + 1, by omega, by go_num, by rw [HNL.out, hls]; simp, HX.out, HB5.out⟩
        · have hnt' : ¬ (n : Int) = (t : Int) := by omega
          by_cases hlt : n < t
          · have hlt' : ¬ (t : Int) < (n : Int) := by omega
            go_wp2_with (first
              | (at_builtin; refine wpList_append_own_at _ rfl _ _ 25 rfl w.heap.size 36 i0 (.agg #[.string ⟨#[]⟩, .slice none 0 0, .bool false]) 3 48 Tryd.underlying25 hi0 hz0 hz1 hz2 rfl (by decide) _ G.length (G.flatMap cellsF) rfl ((World.ownsRow.alloc HLk.out _).alloc _) ⟨wr.heap.size + 1, 0, none⟩ 1 1 (cellsF { f with ls := false }) rfl rfl ?c1 ?c2 ?c3 ?c4 ?c5 ?_))
            case c1 =>
              intro j u hj
              match j, hj with
              | 0, hj => simp [cellsF] at hj; subst hj; simp [Addr.add]
              | 1, hj => simp [cellsF] at hj; subst hj; simp [Addr.add]
              | 2, hj => simp [cellsF] at hj; subst hj; simp [Addr.add]
            case c2 => exact one_cellsF _
            case c3 => unfold maxLen; omega
            case c4 => omega
            case c5 => first | omega | (simp; omega)
            intro x5 w5 hown' hgrow _ hat
            have HX : Hid (LF w5 w.heap.size x5 (crashed t pa pc 0 (fs.take (k + 1)))) := by
              rw [Hid, HNX.out, crashed, if_pos hls, if_neg hnt, if_pos hlt]; exact LF.more hown'
            have HB5 : Hid (Below w.heap.size w w5) := HBk.out.trans (Below.grown ((((Below.refl _ wr).alloc (Nat.le_refl _) _).alloc (by simp) _).mono hszk) hgrow (by simp; omega) (fun j hj => (World.ownsRow.lt HLk.out j hj).1))
            clear hown' hgrow hat
            go_wp2_with fail
            go_roundg (gk - 1)
            case measure => omega
            case rel => exact ⟨k + 1, by omega, by go_num, by rw [HNL.out, hls]; simp, HX.out, HB5.out⟩
          · have hlt' : (t : Int) < (n : Int) := by omega
            have HX : Hid (LF wr w.heap.size (.slice ax G.length cx) (crashed t pa pc 0 (fs.take (k + 1)))) := by
              rw [Hid, HNX.out, crashed, if_pos hls, if_neg hnt, if_neg hlt, crashed, List.append_nil]; exact HLk.out
            have HBA : Hid (∀ o, LF (wr.alloc o) w.heap.size (.slice ax G.length cx) (crashed t pa pc 0 (fs.take (k + 1)))) := fun o => World.ownsRow.alloc HX.out _
            have HBB : Hid (∀ o, Below w.heap.size w (wr.alloc o)) := fun o => HBk.out.alloc hszk o
            go_wp2_with fail
            go_roundg (gk - 1)
            case measure => omega
            case rel => exact ⟨k + 1, by omega, by go_num, by rw [HNL.out, hls]; simp, HBA.out _, HBB.out _⟩
    · have hk' : ¬ (k : Int) < (fs.length : Int) := by omega
      obtain rfl : k = fs.length := by omega
      rw [List.take_length] at hLk
      have HX := hidMk hLk
      have HB := hidMk hbk
      clear hLk hbk
      go_wp2_with fail
      go_ret
      exact ⟨_, rfl, HX.out, HB.out⟩

set_option maxHeartbeats 8000000 in
theorem lcrash_neg (w : World) (B : Nat) (x : Value) (fs : List Fl) (wh : Int) (pa : Option Addr) (pc : Nat) (h : LF w B x fs) (ht : wh < 0) (hn : fs.length ≤ 2513169434880) (hB : B ≤ w.heap.size) (hpl : ∀ f ∈ fs, True ∧ f.bs.length ≤ f.lc ∧ f.bs.length ≤ 140737488355328) :
    Calls Tryd.prog 10 #[x, .int .i64 wh] w fun e w' => ∃ x', e = .returned x' ∧ LF w' w.heap.size x' (crashed 0 pa pc 0 fs) ∧ Below w.heap.size w w' := by
  obtain ⟨i0, hi0, hz0, hz1, hz2⟩ := info_parts infoF
  obtain ⟨a, c, rfl, hcase⟩ := h.form
  have HL := hidMk h
  have HC := hidMk hcase
  have HPL := hidMk hpl
  have ht0 : wh < 0 := ht
  clear h hcase hpl
  go_enter Tryd.func10, Tryd.ntmps10
  go_wp2_with fail
  go_loopg [5, 6, 7] fs.length (fun gk x' n i wr => ∃ k : Nat, gk + k = fs.length ∧ i = .int .i64 k ∧ n = .int .i64 ((loose (fs.take k)).length : Int) ∧ LF wr w.heap.size x' (crashed 0 pa pc 0 (fs.take k)) ∧ Below w.heap.size w wr)
  case atStart => exact ⟨0, by omega, rfl, by rw [List.take_zero]; rfl, by rw [List.take_zero]; exact World.ownsRow_nil _ _ _ _, Below.refl _ _⟩
  case round =>
    obtain ⟨k, hgk, rfl, rfl, hLk, hbk⟩ := hrel
    have hszk := hbk.size
    by_cases hk : k < fs.length
    · have hk' : (k : Int) < (fs.length : Int) := by omega
      obtain ⟨g, rfl, -⟩ : ∃ g, a = some ⟨g, 0, none⟩ ∧ True := by
        rcases HC.out with ⟨h1, -⟩ | ⟨g, h1, -⟩
        · rw [h1] at hk; simp at hk
        · exact ⟨g, h1, trivial⟩
      have HL1 : LF wr B (.slice (some ⟨g, 0, none⟩) fs.length c) fs := own_later HL.out hbk
      obtain ⟨c0, c1, c2⟩ := HL1.cells k hk
      obtain ⟨hfp, hfc, hfl⟩ := HPL.out fs[k] (List.getElem_mem hk)
      have htk : fs.take (k + 1) = fs.take k ++ [fs[k]] := List.take_succ_eq_append_getElem hk
      have hlo : (loose (fs.take k)).length ≤ k := by
        unfold loose; rw [List.length_map]; exact Nat.le_trans (List.length_filter_le _ _) (by rw [List.length_take]; omega)
      have hcl : (crashed 0 pa pc 0 (fs.take k)).length ≤ k := Nat.le_trans (crashed_len 0 pa pc 0 (fs.take k)) (by rw [List.length_take]; omega)
      have hnx : crashed 0 pa pc 0 (fs.take (k + 1)) = crashed 0 pa pc 0 (fs.take k) ++ crashed 0 pa pc (loose (fs.take k)).length [fs[k]] := by rw [htk, crashed_app, Nat.zero_add]
      have hnl : (loose (fs.take (k + 1))).length = (loose (fs.take k)).length + (if fs[k].ls then 1 else 0) := by rw [htk, loose_app, List.length_append, loose_cons]; split <;> rfl
      obtain ⟨ax, cx, rfl⟩ := row_form hLk
      have HLk := hidMk hLk
      have HBk := hidMk hbk
      have HNX := hidMk hnx
      have HNL := hidMk hnl
      have HFP := hidMk hfp
      clear hLk hbk HL1 htk hnx hnl hfp
      generalize fs[k] = f at *
      generalize (loose (fs.take k)).length = n at *
      generalize hG : crashed 0 pa pc 0 (fs.take k) = G at *
      clear hG
      cases hls : f.ls with
      | false =>
        rw [hls] at c2
        have hlsn : ¬ f.ls = true := by rw [hls]; decide
        have hff : { f with ls := false } = f := by cases f; simp at hls; simp [hls]
        go_wp2_with (first
          | (at_builtin; refine wpList_append_own_at _ rfl _ _ 25 rfl w.heap.size 36 i0 (.agg #[.string ⟨#[]⟩, .slice none 0 0, .bool false]) 3 48 Tryd.underlying25 hi0 hz0 hz1 hz2 rfl (by decide) _ G.length (G.flatMap cellsF) rfl ((World.ownsRow.alloc HLk.out _).alloc _) ⟨wr.heap.size + 1, 0, none⟩ 1 1 (cellsF { f with ls := false }) rfl rfl ?c1 ?c2 ?c3 ?c4 ?c5 ?_))
        case c1 =>
          intro j u hj
          match j, hj with
          | 0, hj => simp [cellsF] at hj; subst hj; simp [Addr.add]
          | 1, hj => simp [cellsF] at hj; subst hj; simp [Addr.add]
          | 2, hj => simp [cellsF] at hj; subst hj; simp [Addr.add]
        case c2 => exact one_cellsF _
        case c3 => unfold maxLen; omega
        case c4 => omega
        case c5 => first | omega | (simp; omega)
        intro x5 w5 hown' hgrow _ hat
        have HX : Hid (LF w5 w.heap.size x5 (crashed 0 pa pc 0 (fs.take (k + 1)))) := by
          rw [Hid, HNX.out, crashed, if_neg hlsn]; exact LF.more hown'
        have HB5 : Hid (Below w.heap.size w w5) := HBk.out.trans (Below.grown ((((Below.refl _ wr).alloc (Nat.le_refl _) _).alloc (by simp) _).mono hszk) hgrow (by simp; omega) (fun j hj => (World.ownsRow.lt HLk.out j hj).1))
        clear hown' hgrow hat
        go_wp2_with fail
        go_roundg (gk - 1)
        case measure => omega
        case rel => exact ⟨k + 1, by omega, by go_num, by rw [HNL.out, hls]; simp, HX.out, HB5.out⟩
      | true =>
        rw [hls] at c2
        have hn1 : IntKind.i64.wrap ((n : Int) + 1) = (n : Int) + 1 := wi64 (by omega) (by omega)
        have hn2 : IntKind.i64.wrap ((n : Int) + 1 - 1) = (n : Int) := by rw [show (n : Int) + 1 - 1 = (n : Int) by omega]; exact wi64 (by omega) (by omega)
        by_cases hnt : n = 0
        · subst hnt
          have hq : (f.bs.length : Int).tdiv 2 = ((f.bs.length / 2 : Nat) : Int) := by
            rw [Int.tdiv_eq_ediv_of_nonneg (by omega)]; rfl
          have hq2 : (f.bs.length : Int) / 2 = ((f.bs.length / 2 : Nat) : Int) := by omega
          have s1 := slice_any f.la f.bs.length f.lc (f.bs.length / 2) HFP.out (by omega) (wr.alloc (.cells #[.string f.nm, .slice f.la f.bs.length f.lc, .bool true] 36))
          have s2 := sliceAt_any f.la f.bs.length f.lc (f.bs.length / 2) HFP.out (by omega) (wr.alloc (.cells #[.string f.nm, .slice f.la f.bs.length f.lc, .bool true] 36))
          have HH : Hid (f.bs.length / 2 = (half f.bs).length) := (half_len f.bs).symm
          have HQQ : Hid (f.bs.length / 2 ≤ f.bs.length) := by unfold Hid; omega
          generalize hm : f.bs.length / 2 = m at *
          have HM := hidMk hm
          clear hm
          go_wp2_with (first
            | (at_builtin; refine wpList_append_own_at _ rfl _ _ 25 rfl w.heap.size 36 i0 (.agg #[.string ⟨#[]⟩, .slice none 0 0, .bool false]) 3 48 Tryd.underlying25 hi0 hz0 hz1 hz2 rfl (by decide) _ G.length (G.flatMap cellsF) rfl ((World.ownsRow.alloc HLk.out _).alloc _) ⟨wr.heap.size + 1, 0, none⟩ 1 1 (cellsF { f with ls := false, bs := half f.bs, pa := pa, pc := pc }) rfl rfl ?c1 ?c2 ?c3 ?c4 ?c5 ?_))
          case c1 =>
            intro j u hj
            match j, hj with
            | 0, hj => simp [cellsF] at hj; subst hj; simp [Addr.add]
            | 1, hj => simp [cellsF] at hj; subst hj; simp [Addr.add, HH.out]
            | 2, hj => simp [cellsF] at hj; subst hj; simp [Addr.add]
          case c2 => exact one_cellsF _
          case c3 => unfold maxLen; omega
          case c4 => omega
          case c5 => first | omega | (simp; omega)
          intro x5 w5 hown' hgrow _ hat
          have HX : Hid (LF w5 w.heap.size x5 (crashed 0 pa pc 0 (fs.take (k + 1)))) := by
            rw [Hid, HNX.out, crashed, if_pos hls, if_pos rfl]; exact LF.more hown'
          have HB5 : Hid (Below w.heap.size w w5) := HBk.out.trans (Below.grown ((((Below.refl _ wr).alloc (Nat.le_refl _) _).alloc (by simp) _).mono hszk) hgrow (by simp; omega) (fun j hj => (World.ownsRow.lt HLk.out j hj).1))
          clear hown' hgrow hat
          go_wp2_with fail
          go_roundg (gk - 1)
          case measure => omega
          case rel => exact ⟨k + 1, by omega, by go_num, by rw [HNL.out, hls]; simp, HX.out, HB5.out⟩
        · have hnt' : ¬ (n : Int) = (0 : Int) := by omega
          by_cases hlt : n < 0
          · have hlt' : ¬ (0 : Int) < (n : Int) := by omega
            exact absurd hlt (by omega)
          · have hlt' : (0 : Int) < (n : Int) := by omega
            have HX : Hid (LF wr w.heap.size (.slice ax G.length cx) (crashed 0 pa pc 0 (fs.take (k + 1)))) := by
              rw [Hid, HNX.out, crashed, if_pos hls, if_neg hnt, if_neg hlt, crashed, List.append_nil]; exact HLk.out
            have HBA : Hid (∀ o, LF (wr.alloc o) w.heap.size (.slice ax G.length cx) (crashed 0 pa pc 0 (fs.take (k + 1)))) := fun o => World.ownsRow.alloc HX.out _
            have HBB : Hid (∀ o, Below w.heap.size w (wr.alloc o)) := fun o => HBk.out.alloc hszk o
            go_wp2_with fail
            go_roundg (gk - 1)
            case measure => omega
            case rel => exact ⟨k + 1, by omega, by go_num, by rw [HNL.out, hls]; simp, HBA.out _, HBB.out _⟩
    · have hk' : ¬ (k : Int) < (fs.length : Int) := by omega
      obtain rfl : k = fs.length := by omega
      rw [List.take_length] at hLk
      have HX := hidMk hLk
      have HB := hidMk hbk
      clear hLk hbk
      go_wp2_with fail
      go_ret
      exact ⟨_, rfl, HX.out, HB.out⟩
end Go.Proofs.YtojfhlhajemhdaaDoor
