import Derived.Test.YtkedbmpnhplmaaaMfC
namespace Go.Proofs.Ytkedbmpnhplmaaa
open Go.RowKit Go.Shelf
set_option linter.unusedVariables false
set_option linter.unusedSimpArgs false
set_option maxRecDepth 100000
set_option maxHeartbeats 4000000

def RMPost (w : World) (xs : List Wn) (e : Ending) (w' : World) : Prop := ∃ u ys, e = .returned u ∧ w'.ownsRow w.heap.size 24 2 u ys.length (wcells ys) ∧ FinW xs ys ∧ ys.length ≤ xs.length ∧ Below w.heap.size w w'

theorem rmerge_any (w : World) (v : Value) (xs : List Wn) (hmax : xs.length * 16 ≤ 140737488355328) (hr : RdW w v xs) :
    Calls Try.prog 6 #[v] w (RMPost w xs) := by
  obtain ⟨i0, hi, hz0, hz1, hz2⟩ := info_parts Try.infoWn
  obtain ⟨a, cap, rfl, hcl⟩ := hr
  go_enter Try.func6, Try.ntmps6
  go_wp2
  go_loopg [3, 4] xs.length (fun gk o i wr => ∃ k : Nat, gk + k = xs.length ∧ i = .int .i64 k ∧ wr.ownsRow w.heap.size 24 2 o (some_ (xs.take k)).length (wcells (some_ (xs.take k))) ∧ Below w.heap.size w wr)
  case atStart => exact ⟨0, by omega, rfl, World.ownsRow_nil _ _ _ _, Below.refl _ _⟩
  case round =>
    obtain ⟨k, hk, rfl, hrow, hb⟩ := hrel
    have hsz := hb.size
    by_cases hlt : k < xs.length
    · have hi1 : (k : Int) < (xs.length : Int) := by omega
      obtain ⟨x, hx⟩ : ∃ x, xs[k]? = some x := ⟨xs[k], by simp [hlt]⟩
      obtain ⟨b1, o1, rfl, e1, e2⟩ := hcl k x hx
      replace e1 := xcell hb e1
      replace e2 := xcell hb e2
      have HX : Hid (some_ (xs.take (k + 1)) = if x.a < x.b then some_ (xs.take k) ++ [x] else some_ (xs.take k)) := by
        unfold Hid; rw [List.take_add_one, hx]; exact some_snoc _ _
      have hln : (some_ (xs.take k)).length ≤ k := by
        have h1 : (some_ (xs.take k)).length ≤ (xs.take k).length := List.length_filter_le _ _
        rw [List.length_take] at h1; omega
      have HCL : Hid (∀ i x, xs[i]? = some x → ∃ b o, some (⟨b1, o1, none⟩ : Addr) = some ⟨b, o, none⟩ ∧ w.cell? ⟨b, o + i * 2, none⟩ = some (.int .i64 x.a) ∧ w.cell? ⟨b, o + i * 2 + 1, none⟩ = some (.int .i64 x.b)) := hcl
      have HR : Hid (wr.ownsRow w.heap.size 24 2 u3 (some_ (xs.take k)).length (wcells (some_ (xs.take k)))) := hrow
      have HB : Hid (Below w.heap.size w wr) := hb
      clear hcl hrow hb
      by_cases hab : x.a < x.b
      · have HX2 : Hid (some_ (xs.take (k + 1)) = some_ (xs.take k) ++ [x]) := by have := HX.out; rw [if_pos hab] at this; exact this
        clear HX
        generalize some_ (xs.take k) = pre at *
        go_wp2
        go_quiet (fail)
        go_wp2_with (at_builtin; refine wpList_append_own _ rfl _ _ 22 rfl w.heap.size 24 i0 (.agg #[.int .i64 0, .int .i64 0]) 2 16 Try.underlying22 hi hz0 hz1 hz2 rfl (by decide) _ _ _ rfl ((show (wr.drewN nq).ownsRow w.heap.size 24 2 u3 pre.length (wcells pre) from HR.out).alloc _) ⟨wr.heap.size, 0, none⟩ 1 1 [.int .i64 x.a, .int .i64 x.b] rfl rfl ?c1 ?c2 ?c3 ?c4 ?c5 ?_)
        case c1 => exact cell_two_new _ _ _ _
        case c2 => intro u hu; simp at hu; rcases hu with rfl | rfl <;> rfl
        case c3 => unfold maxLen; omega
        case c4 => omega
        case c5 => simp; omega
        intro v' w1 hown' hgrow _
        have HB1 : Hid (Below w.heap.size w w1) := below_ownW ((below_drewN HB.out nq).alloc (by simpa using hsz) _) (by simp; omega) (World.ownsRow.alloc (show (wr.drewN nq).ownsRow w.heap.size 24 2 u3 pre.length (wcells pre) from HR.out) _) hgrow
        have HO1 : Hid (w1.ownsRow w.heap.size 24 2 v' (pre.length + 1) (wcells (pre ++ [x]))) := by
          unfold Hid
          rw [wcells_snoc]
          exact hown'
        clear hown' hgrow HR HB
        go_wp2
        go_roundg (gk - 1)
        case measure => omega
        case rel => exact ⟨k + 1, by omega, by go_num, by rw [HX2.out]; simpa using HO1.out, HB1.out⟩
      · have HX2 : Hid (some_ (xs.take (k + 1)) = some_ (xs.take k)) := by have := HX.out; rw [if_neg hab] at this; exact this
        clear HX
        go_wp2
        go_quiet (fail)
        go_wp2
        go_roundg (gk - 1)
        case measure => omega
        case rel => exact ⟨k + 1, by omega, by go_num, by rw [HX2.out]; exact HR.out, below_drewN HB.out _⟩
    · obtain rfl : k = xs.length := by omega
      rw [List.take_length] at hrow
      have hmid := mid_start xs
      clear hcl hk hlt
      generalize some_ xs = ys at *
      go_wp2
      clear hsz
      generalize wr = w1 at *
      go_loopg [3, 5] (2 * ys.length + 1) (fun gk o ag wr => ∃ (ys : List Wn) (again : Bool), gk = 2 * ys.length + (if again then 1 else 0) ∧ ag = .bool again ∧ wr.ownsRow w.heap.size 24 2 o ys.length (wcells ys) ∧ Mid xs ys ∧ (again = false → ys.Pairwise (fun x y => meet x y = false)) ∧ Below w.heap.size w wr)
      case atStart => exact ⟨ys, true, by simp, rfl, hrow, hmid, (fun h => by cases h), hb⟩
      case round =>
        clear hrow hmid hb
        obtain ⟨ys, again, hgk, rfl, hrow, hmid, hno, hb⟩ := hrel
        cases again with
        | false =>
          have HNO : Hid (ys.Pairwise (fun x y => meet x y = false)) := hno rfl
          obtain ⟨a3, c3, rfl, -⟩ := RdW.own hrow
          have hlx := hmid.2.2
          have HMID : Hid (Mid xs ys) := hmid
          clear hno hmid
          generalize wr = w2 at *
          go_wp2
          go_loopg [10] ys.length (fun gk i wr => ∃ (zs : List Wn) (k : Nat), gk + k = ys.length + 1 ∧ 1 ≤ k ∧ i = .int .i64 k ∧ zs.Perm ys ∧ SrB zs k k ∧ wr.ownsRow w.heap.size 24 2 (.slice a3 ys.length c3) ys.length (wcells zs) ∧ Below w.heap.size w wr)
          case atStart => exact ⟨ys, 1, by omega, by omega, rfl, List.Perm.refl _, (fun p q x y h1 h2 => by omega), hrow, hb⟩
          case round =>
            clear hrow hb
            obtain ⟨zs, k, hgk5, hk1, rfl, hpm, hsr, hrow, hb⟩ := hrel
            by_cases hlt : k < ys.length
            · have hlt' : (k : Int) < (ys.length : Int) := by omega
              obtain ⟨g, rfl⟩ := own_form hrow (by omega)
              have hwk : wrap64 ((k : Int) + 1) = ((k + 1 : Nat) : Int) := by rw [w64 (by omega) (by omega)]; omega
              generalize wr = w3 at *
              go_wp2
              go_loopg [11] k (fun gk j wr => ∃ (zs : List Wn), gk ≤ k ∧ j = .int .i64 gk ∧ zs.Perm ys ∧ SrB zs (k + 1) gk ∧ wr.ownsRow w.heap.size 24 2 (.slice (some ⟨g, 0, none⟩) ys.length c3) ys.length (wcells zs) ∧ Below w.heap.size w wr)
              case atStart => exact ⟨zs, Nat.le_refl _, rfl, hpm, srB_start hsr, hrow, hb⟩
              case round =>
                clear hrow hb hsr hpm
                obtain ⟨zs, hgk6, rfl, hpm, hsr, hrow, hb⟩ := hrel
                have hzl : zs.length = ys.length := hpm.length_eq
                by_cases hj0 : gk = 0
                · subst hj0
                  have hd : decide ((((0 : Nat) : Int)) > 0) = false := by simp
                  have hd2 : decide ((0 : Int) > 0) = false := by simp
                  have HZL := hidMk hzl
                  have HPM := hidMk hpm
                  clear hzl hpm
                  go_wp2
                  go_quiet (fail)
                  go_wp2
                  go_roundg (ys.length - k)
                  case measure => omega
                  case rel => exact ⟨zs, k + 1, by omega, by omega, (by first | rfl | exact congrArg _ hwk | go_num), HPM.out, srB_done hsr (.inl rfl), hrow, below_drewN hb _⟩
                · have hd : (0 : Int) < (gk : Int) := by omega
                  have hd1 : decide ((gk : Int) > 0) = true := by simp; omega
                  have hd2 : decide ((0 : Int) < (gk : Int)) = true := by simp; omega
                  have hd3 : 0 < gk := by omega
                  obtain ⟨jm, hjm⟩ : ∃ jm, jm + 1 = gk := ⟨gk - 1, by omega⟩
                  obtain ⟨x, hx⟩ : ∃ x, zs[jm]? = some x := ⟨zs[jm]'(by omega), by simp [show jm < zs.length by omega]⟩
                  obtain ⟨y, hy⟩ : ∃ y, zs[gk]? = some y := ⟨zs[gk]'(by omega), by simp [show gk < zs.length by omega]⟩
                  have hwj : wrap64 ((gk : Int) - 1) = (jm : Int) := by rw [w64 (by omega) (by omega)]; omega
                  have hwj2 : IntKind.i64.wrap ((gk : Int) - 1) = (jm : Int) := by simp [IntKind.wrap, IntKind.bits, IntKind.signed]; omega
                  have hj1 : (jm : Int) < (ys.length : Int) := by omega
                  have hj2 : (gk : Int) < (ys.length : Int) := by omega
                  have HJM : Hid (jm + 1 = gk) := hjm
                  clear hjm
                  obtain ⟨hx0, hx1⟩ := own_at hrow hx
                  obtain ⟨hy0, hy1⟩ := own_at hrow hy
                  have f0 := own_frozen hrow (gk * 2)
                  have f1 := own_frozen hrow (gk * 2 + 1)
                  have f2 := own_frozen hrow (jm * 2)
                  have f3 := own_frozen hrow (jm * 2 + 1)
                  have HX := hidMk hx
                  have HY := hidMk hy
                  have HZL := hidMk hzl
                  have HPM := hidMk hpm
                  have HRW := hidMk hrow
                  have HSR := hidMk hsr
                  have HB := hidMk hb
                  clear hx hy hzl hpm hrow hsr hb
                  by_cases hyx : y.a < x.a
                  · go_wp2
                    go_quiet (fail)
                    have dx0 : (wr.drewN nq).cell? ⟨g, jm * 2, none⟩ = _ := hx0
                    have dx1 : (wr.drewN nq).cell? ⟨g, jm * 2 + 1, none⟩ = _ := hx1
                    have dy0 : (wr.drewN nq).cell? ⟨g, gk * 2, none⟩ = _ := hy0
                    have dy1 : (wr.drewN nq).cell? ⟨g, gk * 2 + 1, none⟩ = _ := hy1
                    have e0 : (wr.drewN nq).frozen? ⟨g, gk * 2, none⟩ = _ := f0
                    have e1 : (wr.drewN nq).frozen? ⟨g, gk * 2 + 1, none⟩ = _ := f1
                    have e2 : (wr.drewN nq).frozen? ⟨g, jm * 2, none⟩ = _ := f2
                    have e3 : (wr.drewN nq).frozen? ⟨g, jm * 2 + 1, none⟩ = _ := f3
                    have HRQ : Hid ((wr.drewN nq).ownsRow w.heap.size 24 2 (.slice (some ⟨g, 0, none⟩) ys.length c3) ys.length (wcells zs)) := HRW.out
                    have HBQ : Hid (Below w.heap.size w (wr.drewN nq)) := below_drewN HB.out nq
                    clear hx0 hx1 hy0 hy1 f0 f1 f2 f3 HRW HB
                    generalize wr.drewN nq = wq at *
                    obtain ⟨hg1, hg2, -⟩ := own_block HRQ.out
                    go_upto_region 34 with fail
                    have HRT : Hid ((wq.alloc (.cells #[.int .i64 y.a, .int .i64 y.b] 24)).ownsRow w.heap.size 24 2 (.slice (some ⟨g, 0, none⟩) ys.length c3) ys.length (wcells zs)) := HRQ.out.alloc _
                    have HBT : Hid (Below w.heap.size w (wq.alloc (.cells #[.int .i64 y.a, .int .i64 y.b] 24))) := HBQ.out.alloc HBQ.out.size _
                    have HT0 : Hid ((wq.alloc (.cells #[.int .i64 y.a, .int .i64 y.b] 24)).cell? ⟨wq.heap.size, 0, none⟩ = some (.int .i64 y.a)) := by unfold Hid; go_simp
                    have HT1 : Hid ((wq.alloc (.cells #[.int .i64 y.a, .int .i64 y.b] 24)).cell? ⟨wq.heap.size, 1, none⟩ = some (.int .i64 y.b)) := by unfold Hid; go_simp
                    clear dx0 dx1 dy0 dy1 e0 e1 e2 e3
                    obtain ⟨dx0, dx1⟩ := own_at HRT.out HX.out
                    obtain ⟨dy0, dy1⟩ := own_at HRT.out HY.out
                    have e0 := own_frozen HRT.out (gk * 2)
                    have e1 := own_frozen HRT.out (gk * 2 + 1)
                    generalize wq.alloc (.cells #[.int .i64 y.a, .int .i64 y.b] 24) = wt at *
                    go_cut [] from 129 to 163 (fun wx => wx.ownsRow w.heap.size 24 2 (.slice (some ⟨g, 0, none⟩) ys.length c3) ys.length (wcells (zs.set gk x)) ∧ Below w.heap.size w wx ∧ wx.cell? ⟨wq.heap.size, 0, none⟩ = some (.int .i64 y.a) ∧ wx.cell? ⟨wq.heap.size, 1, none⟩ = some (.int .i64 y.b))
                    case first =>
                      go_wp2
                      go_meet
                      exact ⟨own_set2 HRT.out HY.out, (HBT.out.setCell (p := ⟨g, gk * 2, none⟩) hg1 _).setCell (p := ⟨g, gk * 2 + 1, none⟩) hg1 _, cell_setCell_ne (cell_setCell_ne HT0.out (by omega)) (by omega), cell_setCell_ne (cell_setCell_ne HT1.out (by omega)) (by omega)⟩
                    case rest =>
                      obtain ⟨hr4, hb4, ht0, ht1⟩ := hcut
                      clear dx0 dx1 dy0 dy1 e0 e1
                      have hxm : (zs.set gk x)[jm]? = some x := by rw [List.getElem?_set_ne (by have := HJM.out; omega)]; exact HX.out
                      obtain ⟨dx0, dx1⟩ := own_at hr4 hxm
                      have e0 := own_frozen hr4 (jm * 2)
                      have e1 := own_frozen hr4 (jm * 2 + 1)
                      have HXM := hidMk hxm
                      have HR4 := hidMk hr4
                      have HB4 := hidMk hb4
                      clear hxm hr4 hb4
                      go_wp2
                      go_roundg jm
                      case measure => have := HJM.out; omega
                      case rel =>
                        have ej : gk - 1 = jm := by have := HJM.out; omega
                        have hx' : zs[gk - 1]? = some x := by rw [ej]; exact HX.out
                        have hsw : (zs.set gk x).set jm ⟨y.a, y.b⟩ = swpW zs gk x y := by unfold swpW; rw [ej]
                        refine ⟨swpW zs gk x y, by omega, (by first | rfl | exact congrArg _ hwj | go_num), (swpW_perm hx' HY.out).trans HPM.out, ?_, ?_, (HB4.out.setCell (p := ⟨g, jm * 2, none⟩) hg1 _).setCell (p := ⟨g, jm * 2 + 1, none⟩) hg1 _⟩
                        · have := srB_swap HSR.out (by omega) (by omega) hx' HY.out hyx
                          rw [ej] at this; exact this
                        · rw [← hsw]; exact own_set2 HR4.out HXM.out
                  · go_wp2
                    go_quiet (fail)
                    go_wp2
                    go_roundg (ys.length - k)
                    case measure => omega
                    case rel => exact ⟨zs, k + 1, by omega, by omega, (by first | rfl | exact congrArg _ hwk | go_num), HPM.out, srB_done HSR.out (.inr ⟨x, y, by rw [show gk - 1 = jm by have := HJM.out; omega]; exact HX.out, HY.out, by omega⟩), HRW.out, below_drewN HB.out _⟩
            · have hlt' : ¬ (k : Int) < (ys.length : Int) := by omega
              have hzl := hpm.length_eq
              have HF : Hid (FinW xs zs) := fin_of HMID.out HNO.out hpm (srB_all hsr (by omega))
              have HZL : Hid (zs.length = ys.length) := hzl
              have HRW := hidMk hrow
              clear hzl hpm hsr hrow
              go_wp2
              go_ret
              exact ⟨_, zs, rfl, by rw [HZL.out]; exact HRW.out, HF.out, by rw [HZL.out]; exact hlx, hb⟩
        | true =>
          clear hno
          obtain ⟨a3, c3, rfl, -⟩ := RdW.own hrow
          generalize wr = w2 at *
          go_wp2
          go_loopg [3, 5, 6] ys.length (fun gk o ag i wr => ∃ (zs : List Wn) (again : Bool) (k : Nat), gk + k = ys.length ∧ i = .int .i64 k ∧ ag = .bool again ∧ wr.ownsRow w.heap.size 24 2 o zs.length (wcells zs) ∧ Mid xs zs ∧ (again = false → zs = ys ∧ NoM ys k 0) ∧ (again = true → zs.length + 1 = ys.length) ∧ Below w.heap.size w wr)
          case atStart => exact ⟨ys, false, 0, by simp, rfl, rfl, hrow, hmid, (fun _ => ⟨rfl, noM_zero _⟩), (fun h => by cases h), hb⟩
          case round =>
            clear hrow hb
            obtain ⟨zs, again, k, hgk3, rfl, rfl, hrow, hmid3, hno, hyes, hb⟩ := hrel
            obtain ⟨a4, c4, rfl, -⟩ := RdW.own hrow
            cases again with
            | true =>
              have hzl := hyes rfl
              by_cases hlt : (k : Int) < (zs.length : Int)
              · go_wp2
                go_roundg (2 * zs.length + 1)
                case measure => omega
                case rel => exact ⟨zs, true, by simp, rfl, hrow, hmid3, (fun h => by cases h), hb⟩
              · go_wp2
                go_roundg (2 * zs.length + 1)
                case measure => omega
                case rel => exact ⟨zs, true, by simp, rfl, hrow, hmid3, (fun h => by cases h), hb⟩
            | false =>
              obtain ⟨rfl, hnm⟩ := hno rfl
              clear hno hyes hmid3
              have hzx := hmid.2.2
              by_cases hlt : k < zs.length
              · have hlt' : (k : Int) < (zs.length : Int) := by omega
                have hwk : wrap64 ((k : Int) + 1) = ((k + 1 : Nat) : Int) := by rw [w64 (by omega) (by omega)]; omega
                generalize wr = w3 at *
                go_wp2
                refine wp_mono (rm_loop4 w xs zs hmax k hlt a4 c4 w3 hrow hmid (noM_next hnm) hb _ _ _ _ _ _ _ _ _ _ _ _ _ _ _ _ _ _ _ _ _ _ _ _ _ _ _ _ _ _ _ _ _ _ _ _ _ _ _ _ _ _ _ _ _ _ _ _ _ _ _ _ _ _ _ _ _ _ _ _ _ _ _ _ _ _ _ _ _ _ _ _ _ _ _ _ _ _ _ _ _ _ _ _ _ _ _ _ _ _ _ _ _ _ _ _ _ _ _ _ _ _ _ _ _ _ _ _ _ _ _ _ _ _ _ _ _ _ _ _ _ _ _ _ _ _ _ _ _ _ _ _ _ _ _ _ _ _ _ _ _ _ _ _ _ _ _ _ _ _ _ _ _ _ _ _ _ _ _ _ _ (N := _) ?_) onlyN_le
                clear hrow hb hnm
                intro ts again o j u8 u9 u50 u51 u52 u53 u54 u55 u56 u57 u58 u59 u60 u61 u62 u63 u64 u65 u66 u67 u68 u69 u70 u71 u72 u73 u74 u75 u76 u77 u78 u79 u80 u81 u82 u83 u84 u85 u86 u87 u88 u89 u90 u91 u92 u93 u94 u95 u96 u97 u98 u99 u100 u101 u102 u103 u104 u105 u106 u107 u108 u109 u110 u111 u112 u113 u114 u115 u116 u117 u118 u119 u120 u121 w4 hrow hmid4 hno hyes hb
                go_wp2
                go_roundg (zs.length - (k + 1))
                case measure => omega
                case rel => exact ⟨ts, again, k + 1, by omega, (by first | rfl | exact congrArg _ hwk | go_num), rfl, hrow, hmid4, hno, hyes, hb⟩
              · have hlt' : ¬ (k : Int) < (zs.length : Int) := by omega
                go_wp2
                go_roundg (2 * zs.length)
                case measure => omega
                case rel => exact ⟨zs, false, by simp, rfl, hrow, hmid, (fun _ => noM_all hnm (by omega)), hb⟩
end Go.Proofs.Ytkedbmpnhplmaaa
