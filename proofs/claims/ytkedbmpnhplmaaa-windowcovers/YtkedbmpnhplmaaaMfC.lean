import Derived.Test.YtkedbmpnhplmaaaMfA
namespace Go.Proofs.Ytkedbmpnhplmaaa
open Go.RowKit Go.Shelf
set_option linter.unusedVariables false
set_option linter.unusedSimpArgs false
set_option maxRecDepth 100000
set_option maxHeartbeats 4000000

theorem hidMk {p : Prop} (h : p) : Hid p := h

/-- A statement that ends by itself. -/
def onlyN (N : Act → World → Prop) : Exit → Act → World → Prop
  | .normal, a, w => N a w
  | _, _, _ => False
theorem onlyN_le {Q : Exit → Act → World → Prop} {n : Nat} : ∀ e a w, Exit.inBlock n (onlyN (Q .normal)) e a w → Exit.inBlock n Q e a w := by
  intro e a w h
  cases e with
  | normal => exact h
  | exit m =>
    by_cases hm : m = n
    · simp only [Exit.inBlock, if_pos hm] at h ⊢; exact h
    · simp only [Exit.inBlock, if_neg hm] at h; exact (h : False).elim
  | _ => exact (h : False).elim

def firstReg : Code → Option Nat
  | .region n _ _ => some n
  | .seq a b => match firstReg a with
    | some x => some x
    | none => firstReg b
  | .block _ c => firstReg c
  | .scope c => firstReg c
  | .loop c => firstReg c
  | .cond _ a b => match firstReg a with
    | some x => some x
    | none => firstReg b
  | _ => none
/-- The body of the loop whose first region has that number. -/
def loopOf (n : Nat) : Code → Option Code
  | .loop c => match firstReg c with
    | some m => match Nat.beq m n with
      | true => some c
      | false => loopOf n c
    | none => loopOf n c
  | .seq a b => match loopOf n a with
    | some c => some c
    | none => loopOf n b
  | .block _ c => loopOf n c
  | .scope c => loopOf n c
  | .cond _ a b => match loopOf n a with
    | some c => some c
    | none => loopOf n b
  | _ => none
noncomputable def rmBody4 : Code := (Try.f6.body.bind (loopOf 14)).getD .skip

theorem rm_loop4 (w : World) (xs ts : List Wn) (hmax : xs.length * 16 ≤ 140737488355328) (k : Nat) (hk : k < ts.length) (ao : Option Addr) (co : Nat) (w3 : World)
    (hrow : w3.ownsRow w.heap.size 24 2 (.slice ao ts.length co) ts.length (wcells ts)) (hmid : Mid xs ts) (hnm : NoM ts k (k + 1)) (hb : Below w.heap.size w w3)
    (c0 c1 c2 c4 c8 c9 c10 c11 c12 c13 c14 c15 c16 c17 c18 c19 c20 c21 c22 c23 c24 c25 c26 c27 c28 c29 c30 c31 c32 c33 c34 c35 c36 c37 c38 c39 c40 c41 c42 c43 c44 c45 c46 c47 c48 c49 c50 c51 c52 c53 c54 c55 c56 c57 c58 c59 c60 c61 c62 c63 c64 c65 c66 c67 c68 c69 c70 c71 c72 c73 c74 c75 c76 c77 c78 c79 c80 c81 c82 c83 c84 c85 c86 c87 c88 c89 c90 c91 c92 c93 c94 c95 c96 c97 c98 c99 c100 c101 c102 c103 c104 c105 c106 c107 c108 c109 c110 c111 c112 c113 c114 c115 c116 c117 c118 c119 c120 c121 c122 c123 c124 c125 c126 c127 c128 c129 c130 c131 c132 c133 c134 c135 c136 c137 c138 c139 c140 c141 c142 c143 c144 c145 c146 c147 c148 c149 c150 c151 c152 c153 c154 c155 c156 c157 c158 c159 c160 c161 c162 c163 c164 : Value) (N : Act → World → Prop)
    (hexit : ∀ (zs : List Wn) (again : Bool) (o j u8 u9 u50 u51 u52 u53 u54 u55 u56 u57 u58 u59 u60 u61 u62 u63 u64 u65 u66 u67 u68 u69 u70 u71 u72 u73 u74 u75 u76 u77 u78 u79 u80 u81 u82 u83 u84 u85 u86 u87 u88 u89 u90 u91 u92 u93 u94 u95 u96 u97 u98 u99 u100 u101 u102 u103 u104 u105 u106 u107 u108 u109 u110 u111 u112 u113 u114 u115 u116 u117 u118 u119 u120 u121 : Value) (w4 : World), w4.ownsRow w.heap.size 24 2 o zs.length (wcells zs) → Mid xs zs → (again = false → zs = ts ∧ NoM ts (k + 1) 0) → (again = true → zs.length + 1 = ts.length) → Below w.heap.size w w4 →
      N { tmps := List.toArray (c0 :: c1 :: c2 :: o :: c4 :: (.bool again) :: (.int .i64 k) :: j :: u8 :: u9 :: c10 :: c11 :: c12 :: c13 :: c14 :: c15 :: c16 :: c17 :: c18 :: c19 :: c20 :: c21 :: c22 :: c23 :: c24 :: c25 :: c26 :: c27 :: c28 :: c29 :: c30 :: c31 :: c32 :: c33 :: c34 :: c35 :: c36 :: c37 :: c38 :: c39 :: c40 :: c41 :: c42 :: c43 :: c44 :: c45 :: c46 :: c47 :: c48 :: c49 :: u50 :: u51 :: u52 :: u53 :: u54 :: u55 :: u56 :: u57 :: u58 :: u59 :: u60 :: u61 :: u62 :: u63 :: u64 :: u65 :: u66 :: u67 :: u68 :: u69 :: u70 :: u71 :: u72 :: u73 :: u74 :: u75 :: u76 :: u77 :: u78 :: u79 :: u80 :: u81 :: u82 :: u83 :: u84 :: u85 :: u86 :: u87 :: u88 :: u89 :: u90 :: u91 :: u92 :: u93 :: u94 :: u95 :: u96 :: u97 :: u98 :: u99 :: u100 :: u101 :: u102 :: u103 :: u104 :: u105 :: u106 :: u107 :: u108 :: u109 :: u110 :: u111 :: u112 :: u113 :: u114 :: u115 :: u116 :: u117 :: u118 :: u119 :: u120 :: u121 :: c122 :: c123 :: c124 :: c125 :: c126 :: c127 :: c128 :: c129 :: c130 :: c131 :: c132 :: c133 :: c134 :: c135 :: c136 :: c137 :: c138 :: c139 :: c140 :: c141 :: c142 :: c143 :: c144 :: c145 :: c146 :: c147 :: c148 :: c149 :: c150 :: c151 :: c152 :: c153 :: c154 :: c155 :: c156 :: c157 :: c158 :: c159 :: c160 :: c161 :: c162 :: c163 :: c164 :: []), defers := [] } w4) :
    Code.wp Try.prog (Code.loop rmBody4) (Exit.inBlock 6 (onlyN N)) { tmps := List.toArray (c0 :: c1 :: c2 :: (.slice ao ts.length co) :: c4 :: (.bool false) :: (.int .i64 k) :: (.int .i64 ((k + 1 : Nat) : Int)) :: c8 :: c9 :: c10 :: c11 :: c12 :: c13 :: c14 :: c15 :: c16 :: c17 :: c18 :: c19 :: c20 :: c21 :: c22 :: c23 :: c24 :: c25 :: c26 :: c27 :: c28 :: c29 :: c30 :: c31 :: c32 :: c33 :: c34 :: c35 :: c36 :: c37 :: c38 :: c39 :: c40 :: c41 :: c42 :: c43 :: c44 :: c45 :: c46 :: c47 :: c48 :: c49 :: c50 :: c51 :: c52 :: c53 :: c54 :: c55 :: c56 :: c57 :: c58 :: c59 :: c60 :: c61 :: c62 :: c63 :: c64 :: c65 :: c66 :: c67 :: c68 :: c69 :: c70 :: c71 :: c72 :: c73 :: c74 :: c75 :: c76 :: c77 :: c78 :: c79 :: c80 :: c81 :: c82 :: c83 :: c84 :: c85 :: c86 :: c87 :: c88 :: c89 :: c90 :: c91 :: c92 :: c93 :: c94 :: c95 :: c96 :: c97 :: c98 :: c99 :: c100 :: c101 :: c102 :: c103 :: c104 :: c105 :: c106 :: c107 :: c108 :: c109 :: c110 :: c111 :: c112 :: c113 :: c114 :: c115 :: c116 :: c117 :: c118 :: c119 :: c120 :: c121 :: c122 :: c123 :: c124 :: c125 :: c126 :: c127 :: c128 :: c129 :: c130 :: c131 :: c132 :: c133 :: c134 :: c135 :: c136 :: c137 :: c138 :: c139 :: c140 :: c141 :: c142 :: c143 :: c144 :: c145 :: c146 :: c147 :: c148 :: c149 :: c150 :: c151 :: c152 :: c153 :: c154 :: c155 :: c156 :: c157 :: c158 :: c159 :: c160 :: c161 :: c162 :: c163 :: c164 :: []), defers := [] } w3 := by
  obtain ⟨i0, hi, hz0, hz1, hz2⟩ := info_parts Try.infoWn
  have hzx := hmid.2.2
  conv => arg 2; arg 1; whnf
  go_loopg [3, 5, 7] (ts.length - (k + 1)) (fun gk o ag j wr => ∃ (zs : List Wn) (again : Bool) (q : Nat), gk + q = ts.length ∧ k < q ∧ j = .int .i64 q ∧ ag = .bool again ∧ wr.ownsRow w.heap.size 24 2 o zs.length (wcells zs) ∧ Mid xs zs ∧ (again = false → zs = ts ∧ NoM ts k q) ∧ (again = true → zs.length + 1 = ts.length) ∧ Below w.heap.size w wr)
  case atStart => exact ⟨ts, false, k + 1, by omega, by omega, rfl, rfl, hrow, hmid, (fun _ => ⟨rfl, hnm⟩), (fun h => by cases h), hb⟩
  case round =>
    clear hrow hb hnm
    obtain ⟨zs, again, q, hgk4, hkq, rfl, rfl, hrow, hmid4, hno, hyes, hb⟩ := hrel
    obtain ⟨a5, c5, rfl, -⟩ := RdW.own hrow
    cases again with
    | true =>
      have hzl := hyes rfl
      by_cases hlq : (q : Int) < (zs.length : Int)
      · go_wp2
        exact hexit zs true _ _ _ _ _ _ _ _ _ _ _ _ _ _ _ _ _ _ _ _ _ _ _ _ _ _ _ _ _ _ _ _ _ _ _ _ _ _ _ _ _ _ _ _ _ _ _ _ _ _ _ _ _ _ _ _ _ _ _ _ _ _ _ _ _ _ _ _ _ _ _ _ _ _ _ _ wr hrow hmid4 (fun h => by cases h) (fun _ => hzl) hb
      · go_wp2
        exact hexit zs true _ _ _ _ _ _ _ _ _ _ _ _ _ _ _ _ _ _ _ _ _ _ _ _ _ _ _ _ _ _ _ _ _ _ _ _ _ _ _ _ _ _ _ _ _ _ _ _ _ _ _ _ _ _ _ _ _ _ _ _ _ _ _ _ _ _ _ _ _ _ _ _ _ _ _ _ wr hrow hmid4 (fun h => by cases h) (fun _ => hzl) hb
    | false =>
      obtain ⟨rfl, hnm⟩ := hno rfl
      clear hno hyes hmid4
      by_cases hlq : q < zs.length
      · have hlq' : (q : Int) < (zs.length : Int) := by omega
        have hlt' : (k : Int) < (zs.length : Int) := by omega
        obtain ⟨x, hx⟩ : ∃ x, zs[k]? = some x := ⟨zs[k], by simp [hk]⟩
        obtain ⟨y, hy⟩ : ∃ y, zs[q]? = some y := ⟨zs[q], by simp [hlq]⟩
        obtain ⟨g, rfl⟩ := own_form hrow (by omega)
        have HX : Hid (zs[k]? = some x) := hx
        have HY : Hid (zs[q]? = some y) := hy
        have HRW : Hid (wr.ownsRow w.heap.size 24 2 (.slice (some ⟨g, 0, none⟩) zs.length c5) zs.length (wcells zs)) := hrow
        obtain ⟨hx0, hx1⟩ := own_at hrow hx
        obtain ⟨hy0, hy1⟩ := own_at hrow hy
        have hwq : wrap64 ((q : Int) + 1) = ((q + 1 : Nat) : Int) := by rw [w64 (by omega) (by omega)]; omega
        have HNM : Hid (NoM zs k q) := hnm
        have HMID : Hid (Mid xs zs) := hmid
        have HEX := hidMk hexit
        clear hrow hx hy hnm hmid hexit
        go_upto_region 16 with fail
        go_cut [8] from 50 to 121 (fun m wx => m = .bool (meet x y) ∧ Below wr.heap.size wr wx)
        case first =>
          go_region_with (go_at_call 9; refine (rmeet_any x y _).mono ?_; rintro e w' ⟨rfl, rfl⟩)
          all_goals (go_wp2_with fail; go_meet; exact ⟨rfl, ((xbel1 wr _).trans ((xbel1 _ _).mono (by simp))).drew⟩)
        case rest =>
          obtain ⟨rfl, hbx⟩ := hcut
          have HBX : Hid (Below wr.heap.size wr wc) := hbx
          have HRX : Hid (wc.ownsRow w.heap.size 24 2 (.slice (some ⟨g, 0, none⟩) zs.length c5) zs.length (wcells zs)) := own_later HRW.out hbx
          have HBC : Hid (Below w.heap.size w wc) := hb.trans (hbx.mono hb.size)
          clear hx0 hx1 hy0 hy1 hb hbx HRW
          obtain ⟨hx0, hx1⟩ := own_at HRX.out HX.out
          obtain ⟨hy0, hy1⟩ := own_at HRX.out HY.out
          cases hm : meet x y with
          | false =>
            go_wp2
            go_roundg (gk - 1)
            case measure => omega
            case rel => exact ⟨zs, false, q + 1, by omega, by omega, (by first | rfl | exact congrArg _ hwq | go_num), rfl, HRX.out, HMID.out, (fun _ => ⟨rfl, noM_step HNM.out HX.out HY.out hm⟩), (fun h => by cases h), HBC.out⟩
          | true =>
            have hq5 : (q : Int) ≤ (c5 : Int) := by have := (own_block HRX.out).2.2; omega
            obtain ⟨oz, eA, hOZ⟩ : ∃ oz, (if c5 = q + 1 then some (Addr.mk g 0 none) else some (Addr.mk g (0 + (q + 1) * 2) none)) = some (Addr.mk g oz none) ∧ (q + 1 < zs.length → oz = (q + 1) * 2) := by
              have := (own_block HRX.out).2.2
              by_cases e : c5 = q + 1
              · exact ⟨0, by rw [if_pos e], fun h => by omega⟩
              · exact ⟨(q + 1) * 2, by rw [if_neg e, Nat.zero_add], fun _ => rfl⟩
            have HOZ : Hid (q + 1 < zs.length → oz = (q + 1) * 2) := hOZ
            have hS1 := slice_toW g 0 zs.length c5 q (by omega)
            have hS2 := sliceAt_toW g 0 zs.length c5 q (by omega)
            have hS3 := slice_fromW g 0 zs.length c5 (q + 1) ((q : Int) + 1) (by omega) (by omega) (own_block HRX.out).2.2 oz eA
            have hS4 := sliceAt_fromW g 0 zs.length c5 (q + 1) ((q : Int) + 1) (by omega) (by omega) (own_block HRX.out).2.2 oz eA
            have f0 := own_frozen HRX.out (k * 2)
            clear hOZ eA
            by_cases hA : y.a < x.a
            · go_upto_region 18 with fail
              go_quiet (fail)
              go_upto_region 19 with fail
              go_cut [] from 50 to 121 (fun wx => wx.ownsRow w.heap.size 24 2 (.slice (some ⟨g, 0, none⟩) zs.length c5) zs.length (wcells (zs.set k ⟨y.a, x.b⟩)) ∧ Below w.heap.size w wx)
              case first =>
                go_wp2
                go_meet
                exact ⟨own_setA (z := y.a) HRX.out HX.out, (below_drewN HBC.out _).setCell (p := ⟨g, k * 2, none⟩) (own_block HRX.out).1 _⟩
              case rest =>
                obtain ⟨hra, hba⟩ := hcut
                clear hx0 hx1 hy0 hy1 f0 HBX
                clear HRX HBC
                have HRA' : Hid ((wc).ownsRow w.heap.size 24 2 (.slice (some ⟨g, 0, none⟩) zs.length c5) zs.length (wcells (zs.set k ⟨y.a, x.b⟩))) := hra
                have HXA : (zs.set k (⟨y.a, x.b⟩ : Wn))[k]? = some ⟨y.a, x.b⟩ := List.getElem?_set_self hk
                have HYA : (zs.set k (⟨y.a, x.b⟩ : Wn))[q]? = some y := by rw [List.getElem?_set_ne (by omega)]; exact HY.out
                obtain ⟨hx0, hx1⟩ := own_at HRA'.out HXA
                obtain ⟨hy0, hy1⟩ := own_at HRA'.out HYA
                have f1 := own_frozen HRA'.out (k * 2 + 1)
                have HXA' := hidMk HXA
                clear HXA HYA
                by_cases hB : y.b > x.b
                · go_upto_region 20 with fail
                  go_quiet (fail)
                  go_upto_region 21 with fail
                  go_cut [] from 50 to 121 (fun wx => wx.ownsRow w.heap.size 24 2 (.slice (some ⟨g, 0, none⟩) zs.length c5) zs.length (wcells (zs.set k ⟨y.a, y.b⟩)) ∧ Below w.heap.size w wx)
                  case first =>
                    go_wp2
                    go_meet
                    exact ⟨by have := own_setB2 (z := y.b) HRA'.out HXA'.out; rw [List.set_set] at this; exact this, (below_drewN hba _).setCell (p := ⟨g, k * 2 + 1, none⟩) (own_block HRA'.out).1 _⟩
                  case rest =>
                    obtain ⟨hrz, hbz⟩ := hcut
                    have HRZ : Hid ((wc).ownsRow w.heap.size 24 2 (.slice (some ⟨g, 0, none⟩) zs.length c5) zs.length (wcells (zs.set k (⟨y.a, y.b⟩ : Wn)))) := hrz
                    have HBZ : Hid (Below w.heap.size w (wc)) := hbz
                    have HZ : Hid ((zs.set k (⟨y.a, y.b⟩ : Wn)) = zs.set k (joinW x y)) := by
                      unfold Hid joinW
                      first
                        | (congr 2 <;> omega)
                        | (rw [set_same zs k _ (by rw [HX.out]; congr 2 <;> omega)])
                        | (symm; exact set_same zs k _ (by rw [HX.out]; congr 1; cases x; simp only [Wn.mk.injEq]; constructor <;> simp only <;> omega))
                    have HZL : Hid ((zs.set k (⟨y.a, y.b⟩ : Wn)).length = zs.length) := by unfold Hid; rw [HZ.out, List.length_set]
                    generalize hZZ : (zs.set k (⟨y.a, y.b⟩ : Wn)) = Z at *
                    clear hZZ
                    generalize wc = WZ at *
                    have C0 : Hid (((wcells Z).take (q * 2)).length = q * 2) := by unfold Hid; rw [List.length_take, wcells_length]; have := HZL.out; omega
                    have C1 : Hid (∀ (j : Nat) u, ((wcells Z).take (q * 2))[j]? = some u → WZ.cell? ((⟨g, 0, none⟩ : Addr).add j) = some u) := fun j u hj => by
                      rw [show (Addr.mk g 0 none).add j = ⟨g, 0 + j, none⟩ from WideShapes.add_plain .., Nat.zero_add]
                      refine own_cellsW HRZ.out j u ?_
                      have hl := (List.getElem?_eq_some_iff.1 hj).1
                      rw [List.length_take] at hl
                      rw [List.getElem?_take_of_lt (by omega)] at hj
                      exact hj
                    have C2 : Hid (∀ u ∈ (wcells Z).take (q * 2), u.oneCell' = true) := fun u hu => wcells_one Z u (List.mem_of_mem_take hu)
                    go_wp2_with (at_builtin; refine wpList_append_own _ rfl _ _ 22 rfl w.heap.size 24 i0 (.agg #[.int .i64 0, .int .i64 0]) 2 16 Try.underlying22 hi hz0 hz1 hz2 rfl (by decide) _ 0 [] rfl (World.ownsRow_nil _ _ _ _) ⟨g, 0, none⟩ q c5 ((wcells Z).take (q * 2)) rfl C0.out C1.out C2.out (by unfold maxLen; omega) (by omega) HBZ.out.size ?_)
                    intro v' w1 hown' hgrow _
                    have hgr : Below WZ.heap.size WZ w1 := Below.grown (Below.refl _ _) hgrow (Nat.le_refl _) (fun j ej => by simp [Value.ownBlock] at ej)
                    have HR1 : Hid (w1.ownsRow w.heap.size 24 2 (.slice (some ⟨g, 0, none⟩) zs.length c5) zs.length (wcells Z)) := own_later HRZ.out hgr
                    have HB1 : Hid (Below w.heap.size w w1) := HBZ.out.trans (hgr.mono HBZ.out.size)
                    have HO1 : Hid (w1.ownsRow w.heap.size 24 2 v' (0 + q) ([] ++ (wcells Z).take (q * 2))) := by unfold Hid; simpa using hown'
                    clear hown' hgrow hgr HRZ HBZ
                    have D0 : Hid (((wcells Z).drop ((q + 1) * 2)).length = (zs.length - (q + 1)) * 2) := by unfold Hid; rw [List.length_drop, wcells_length]; have := HZL.out; omega
                    have D1 : Hid (∀ (j : Nat) u, ((wcells Z).drop ((q + 1) * 2))[j]? = some u → w1.cell? ((⟨g, oz, none⟩ : Addr).add j) = some u) := fun j u hj => by
                      have hlj := (List.getElem?_eq_some_iff.1 hj).1
                      rw [List.length_drop, wcells_length] at hlj
                      rw [List.getElem?_drop] at hj
                      rw [show (Addr.mk g oz none).add j = ⟨g, oz + j, none⟩ from WideShapes.add_plain .., HOZ.out (by have := HZL.out; omega)]
                      exact own_cellsW HR1.out _ u hj
                    have D2 : Hid (∀ u ∈ (wcells Z).drop ((q + 1) * 2), u.oneCell' = true) := fun u hu => wcells_one Z u (List.mem_of_mem_drop hu)
                    go_wp2_with (at_builtin; refine wpList_append_own _ rfl _ _ 22 rfl w.heap.size 24 i0 (.agg #[.int .i64 0, .int .i64 0]) 2 16 Try.underlying22 hi hz0 hz1 hz2 rfl (by decide) _ _ _ rfl HO1.out ⟨g, oz, none⟩ (zs.length - (q + 1)) (c5 - (q + 1)) ((wcells Z).drop ((q + 1) * 2)) rfl D0.out D1.out D2.out (by unfold maxLen; omega) (by omega) HB1.out.size ?_)
                    intro v2 w2 hown2 hgrow2 _
                    have HB2 : Hid (Below w.heap.size w w2) := below_ownW HB1.out HB1.out.size HO1.out hgrow2
                    have HO2 : Hid (w2.ownsRow w.heap.size 24 2 v2 (cutW zs k q (joinW x y)).length (wcells (cutW zs k q (joinW x y)))) := by
                      have e1 : (cutW zs k q (joinW x y)).length = 0 + q + (zs.length - (q + 1)) := by have := cutW_len (i := k) (z := joinW x y) hlq; omega
                      have e2 : wcells (cutW zs k q (joinW x y)) = [] ++ (wcells Z).take (q * 2) ++ (wcells Z).drop ((q + 1) * 2) := by
                        unfold cutW
                        rw [← HZ.out, wcells_app, wcells_take _ _ (by have := HZL.out; omega), wcells_drop _ _ (by have := HZL.out; omega), List.nil_append]
                      rw [e1, e2]
                      unfold Hid; simpa using hown2
                    clear hown2 hgrow2 HO1 HR1
                    go_wp2
                    go_roundg (gk - 1)
                    case measure => omega
                    case rel => exact ⟨cutW zs k q (joinW x y), true, q + 1, by omega, by omega, (by first | rfl | exact congrArg _ hwq | go_num), rfl, HO2.out, mid_join HMID.out HX.out HY.out hkq hm, (fun h => by cases h), (fun _ => cutW_len hlq), HB2.out⟩
                · go_upto_region 20 with fail
                  go_quiet (fail)
                  have HRZ : Hid (((wc).drewN nq).ownsRow w.heap.size 24 2 (.slice (some ⟨g, 0, none⟩) zs.length c5) zs.length (wcells (zs.set k (⟨y.a, x.b⟩ : Wn)))) := HRA'.out
                  have HBZ : Hid (Below w.heap.size w ((wc).drewN nq)) := below_drewN (hba) _
                  have HZ : Hid ((zs.set k (⟨y.a, x.b⟩ : Wn)) = zs.set k (joinW x y)) := by
                    unfold Hid joinW
                    first
                      | (congr 2 <;> omega)
                      | (rw [set_same zs k _ (by rw [HX.out]; congr 2 <;> omega)])
                      | (symm; exact set_same zs k _ (by rw [HX.out]; congr 1; cases x; simp only [Wn.mk.injEq]; constructor <;> simp only <;> omega))
                  have HZL : Hid ((zs.set k (⟨y.a, x.b⟩ : Wn)).length = zs.length) := by unfold Hid; rw [HZ.out, List.length_set]
                  generalize hZZ : (zs.set k (⟨y.a, x.b⟩ : Wn)) = Z at *
                  clear hZZ
                  generalize (wc).drewN nq = WZ at *
                  have C0 : Hid (((wcells Z).take (q * 2)).length = q * 2) := by unfold Hid; rw [List.length_take, wcells_length]; have := HZL.out; omega
                  have C1 : Hid (∀ (j : Nat) u, ((wcells Z).take (q * 2))[j]? = some u → WZ.cell? ((⟨g, 0, none⟩ : Addr).add j) = some u) := fun j u hj => by
                    rw [show (Addr.mk g 0 none).add j = ⟨g, 0 + j, none⟩ from WideShapes.add_plain .., Nat.zero_add]
                    refine own_cellsW HRZ.out j u ?_
                    have hl := (List.getElem?_eq_some_iff.1 hj).1
                    rw [List.length_take] at hl
                    rw [List.getElem?_take_of_lt (by omega)] at hj
                    exact hj
                  have C2 : Hid (∀ u ∈ (wcells Z).take (q * 2), u.oneCell' = true) := fun u hu => wcells_one Z u (List.mem_of_mem_take hu)
                  go_wp2_with (at_builtin; refine wpList_append_own _ rfl _ _ 22 rfl w.heap.size 24 i0 (.agg #[.int .i64 0, .int .i64 0]) 2 16 Try.underlying22 hi hz0 hz1 hz2 rfl (by decide) _ 0 [] rfl (World.ownsRow_nil _ _ _ _) ⟨g, 0, none⟩ q c5 ((wcells Z).take (q * 2)) rfl C0.out C1.out C2.out (by unfold maxLen; omega) (by omega) HBZ.out.size ?_)
                  intro v' w1 hown' hgrow _
                  have hgr : Below WZ.heap.size WZ w1 := Below.grown (Below.refl _ _) hgrow (Nat.le_refl _) (fun j ej => by simp [Value.ownBlock] at ej)
                  have HR1 : Hid (w1.ownsRow w.heap.size 24 2 (.slice (some ⟨g, 0, none⟩) zs.length c5) zs.length (wcells Z)) := own_later HRZ.out hgr
                  have HB1 : Hid (Below w.heap.size w w1) := HBZ.out.trans (hgr.mono HBZ.out.size)
                  have HO1 : Hid (w1.ownsRow w.heap.size 24 2 v' (0 + q) ([] ++ (wcells Z).take (q * 2))) := by unfold Hid; simpa using hown'
                  clear hown' hgrow hgr HRZ HBZ
                  have D0 : Hid (((wcells Z).drop ((q + 1) * 2)).length = (zs.length - (q + 1)) * 2) := by unfold Hid; rw [List.length_drop, wcells_length]; have := HZL.out; omega
                  have D1 : Hid (∀ (j : Nat) u, ((wcells Z).drop ((q + 1) * 2))[j]? = some u → w1.cell? ((⟨g, oz, none⟩ : Addr).add j) = some u) := fun j u hj => by
                    have hlj := (List.getElem?_eq_some_iff.1 hj).1
                    rw [List.length_drop, wcells_length] at hlj
                    rw [List.getElem?_drop] at hj
                    rw [show (Addr.mk g oz none).add j = ⟨g, oz + j, none⟩ from WideShapes.add_plain .., HOZ.out (by have := HZL.out; omega)]
                    exact own_cellsW HR1.out _ u hj
                  have D2 : Hid (∀ u ∈ (wcells Z).drop ((q + 1) * 2), u.oneCell' = true) := fun u hu => wcells_one Z u (List.mem_of_mem_drop hu)
                  go_wp2_with (at_builtin; refine wpList_append_own _ rfl _ _ 22 rfl w.heap.size 24 i0 (.agg #[.int .i64 0, .int .i64 0]) 2 16 Try.underlying22 hi hz0 hz1 hz2 rfl (by decide) _ _ _ rfl HO1.out ⟨g, oz, none⟩ (zs.length - (q + 1)) (c5 - (q + 1)) ((wcells Z).drop ((q + 1) * 2)) rfl D0.out D1.out D2.out (by unfold maxLen; omega) (by omega) HB1.out.size ?_)
                  intro v2 w2 hown2 hgrow2 _
                  have HB2 : Hid (Below w.heap.size w w2) := below_ownW HB1.out HB1.out.size HO1.out hgrow2
                  have HO2 : Hid (w2.ownsRow w.heap.size 24 2 v2 (cutW zs k q (joinW x y)).length (wcells (cutW zs k q (joinW x y)))) := by
                    have e1 : (cutW zs k q (joinW x y)).length = 0 + q + (zs.length - (q + 1)) := by have := cutW_len (i := k) (z := joinW x y) hlq; omega
                    have e2 : wcells (cutW zs k q (joinW x y)) = [] ++ (wcells Z).take (q * 2) ++ (wcells Z).drop ((q + 1) * 2) := by
                      unfold cutW
                      rw [← HZ.out, wcells_app, wcells_take _ _ (by have := HZL.out; omega), wcells_drop _ _ (by have := HZL.out; omega), List.nil_append]
                    rw [e1, e2]
                    unfold Hid; simpa using hown2
                  clear hown2 hgrow2 HO1 HR1
                  go_wp2
                  go_roundg (gk - 1)
                  case measure => omega
                  case rel => exact ⟨cutW zs k q (joinW x y), true, q + 1, by omega, by omega, (by first | rfl | exact congrArg _ hwq | go_num), rfl, HO2.out, mid_join HMID.out HX.out HY.out hkq hm, (fun h => by cases h), (fun _ => cutW_len hlq), HB2.out⟩
            · go_upto_region 18 with fail
              go_quiet (fail)
              revert nq; intro n1
              clear hx0 hx1 hy0 hy1 f0
              have HRA' : Hid (wc.ownsRow w.heap.size 24 2 (.slice (some ⟨g, 0, none⟩) zs.length c5) zs.length (wcells (zs.set k ⟨x.a, x.b⟩))) := by unfold Hid; rw [set_same zs k _ (by rw [HX.out])]; exact HRX.out
              have HXA : (zs.set k (⟨x.a, x.b⟩ : Wn))[k]? = some ⟨x.a, x.b⟩ := List.getElem?_set_self hk
              have HYA : (zs.set k (⟨x.a, x.b⟩ : Wn))[q]? = some y := by rw [List.getElem?_set_ne (by omega)]; exact HY.out
              obtain ⟨hx0, hx1⟩ := own_at HRA'.out HXA
              obtain ⟨hy0, hy1⟩ := own_at HRA'.out HYA
              have f1 := own_frozen HRA'.out (k * 2 + 1)
              have HXA' := hidMk HXA
              clear HXA HYA
              by_cases hB : y.b > x.b
              · go_upto_region 20 with fail
                go_quiet (fail)
                go_upto_region 21 with fail
                go_cut [] from 50 to 121 (fun wx => wx.ownsRow w.heap.size 24 2 (.slice (some ⟨g, 0, none⟩) zs.length c5) zs.length (wcells (zs.set k ⟨x.a, y.b⟩)) ∧ Below w.heap.size w wx)
                case first =>
                  go_wp2
                  go_meet
                  exact ⟨by have := own_setB2 (z := y.b) HRA'.out HXA'.out; rw [List.set_set] at this; exact this, (below_drewN HBC.out _).setCell (p := ⟨g, k * 2 + 1, none⟩) (own_block HRA'.out).1 _⟩
                case rest =>
                  obtain ⟨hrz, hbz⟩ := hcut
                  have HRZ : Hid ((wc).ownsRow w.heap.size 24 2 (.slice (some ⟨g, 0, none⟩) zs.length c5) zs.length (wcells (zs.set k (⟨x.a, y.b⟩ : Wn)))) := hrz
                  have HBZ : Hid (Below w.heap.size w (wc)) := hbz
                  have HZ : Hid ((zs.set k (⟨x.a, y.b⟩ : Wn)) = zs.set k (joinW x y)) := by
                    unfold Hid joinW
                    first
                      | (congr 2 <;> omega)
                      | (rw [set_same zs k _ (by rw [HX.out]; congr 2 <;> omega)])
                      | (symm; exact set_same zs k _ (by rw [HX.out]; congr 1; cases x; simp only [Wn.mk.injEq]; constructor <;> simp only <;> omega))
                  have HZL : Hid ((zs.set k (⟨x.a, y.b⟩ : Wn)).length = zs.length) := by unfold Hid; rw [HZ.out, List.length_set]
                  generalize hZZ : (zs.set k (⟨x.a, y.b⟩ : Wn)) = Z at *
                  clear hZZ
                  generalize wc = WZ at *
                  have C0 : Hid (((wcells Z).take (q * 2)).length = q * 2) := by unfold Hid; rw [List.length_take, wcells_length]; have := HZL.out; omega
                  have C1 : Hid (∀ (j : Nat) u, ((wcells Z).take (q * 2))[j]? = some u → WZ.cell? ((⟨g, 0, none⟩ : Addr).add j) = some u) := fun j u hj => by
                    rw [show (Addr.mk g 0 none).add j = ⟨g, 0 + j, none⟩ from WideShapes.add_plain .., Nat.zero_add]
                    refine own_cellsW HRZ.out j u ?_
                    have hl := (List.getElem?_eq_some_iff.1 hj).1
                    rw [List.length_take] at hl
                    rw [List.getElem?_take_of_lt (by omega)] at hj
                    exact hj
                  have C2 : Hid (∀ u ∈ (wcells Z).take (q * 2), u.oneCell' = true) := fun u hu => wcells_one Z u (List.mem_of_mem_take hu)
                  go_wp2_with (at_builtin; refine wpList_append_own _ rfl _ _ 22 rfl w.heap.size 24 i0 (.agg #[.int .i64 0, .int .i64 0]) 2 16 Try.underlying22 hi hz0 hz1 hz2 rfl (by decide) _ 0 [] rfl (World.ownsRow_nil _ _ _ _) ⟨g, 0, none⟩ q c5 ((wcells Z).take (q * 2)) rfl C0.out C1.out C2.out (by unfold maxLen; omega) (by omega) HBZ.out.size ?_)
                  intro v' w1 hown' hgrow _
                  have hgr : Below WZ.heap.size WZ w1 := Below.grown (Below.refl _ _) hgrow (Nat.le_refl _) (fun j ej => by simp [Value.ownBlock] at ej)
                  have HR1 : Hid (w1.ownsRow w.heap.size 24 2 (.slice (some ⟨g, 0, none⟩) zs.length c5) zs.length (wcells Z)) := own_later HRZ.out hgr
                  have HB1 : Hid (Below w.heap.size w w1) := HBZ.out.trans (hgr.mono HBZ.out.size)
                  have HO1 : Hid (w1.ownsRow w.heap.size 24 2 v' (0 + q) ([] ++ (wcells Z).take (q * 2))) := by unfold Hid; simpa using hown'
                  clear hown' hgrow hgr HRZ HBZ
                  have D0 : Hid (((wcells Z).drop ((q + 1) * 2)).length = (zs.length - (q + 1)) * 2) := by unfold Hid; rw [List.length_drop, wcells_length]; have := HZL.out; omega
                  have D1 : Hid (∀ (j : Nat) u, ((wcells Z).drop ((q + 1) * 2))[j]? = some u → w1.cell? ((⟨g, oz, none⟩ : Addr).add j) = some u) := fun j u hj => by
                    have hlj := (List.getElem?_eq_some_iff.1 hj).1
                    rw [List.length_drop, wcells_length] at hlj
                    rw [List.getElem?_drop] at hj
                    rw [show (Addr.mk g oz none).add j = ⟨g, oz + j, none⟩ from WideShapes.add_plain .., HOZ.out (by have := HZL.out; omega)]
                    exact own_cellsW HR1.out _ u hj
                  have D2 : Hid (∀ u ∈ (wcells Z).drop ((q + 1) * 2), u.oneCell' = true) := fun u hu => wcells_one Z u (List.mem_of_mem_drop hu)
                  go_wp2_with (at_builtin; refine wpList_append_own _ rfl _ _ 22 rfl w.heap.size 24 i0 (.agg #[.int .i64 0, .int .i64 0]) 2 16 Try.underlying22 hi hz0 hz1 hz2 rfl (by decide) _ _ _ rfl HO1.out ⟨g, oz, none⟩ (zs.length - (q + 1)) (c5 - (q + 1)) ((wcells Z).drop ((q + 1) * 2)) rfl D0.out D1.out D2.out (by unfold maxLen; omega) (by omega) HB1.out.size ?_)
                  intro v2 w2 hown2 hgrow2 _
                  have HB2 : Hid (Below w.heap.size w w2) := below_ownW HB1.out HB1.out.size HO1.out hgrow2
                  have HO2 : Hid (w2.ownsRow w.heap.size 24 2 v2 (cutW zs k q (joinW x y)).length (wcells (cutW zs k q (joinW x y)))) := by
                    have e1 : (cutW zs k q (joinW x y)).length = 0 + q + (zs.length - (q + 1)) := by have := cutW_len (i := k) (z := joinW x y) hlq; omega
                    have e2 : wcells (cutW zs k q (joinW x y)) = [] ++ (wcells Z).take (q * 2) ++ (wcells Z).drop ((q + 1) * 2) := by
                      unfold cutW
                      rw [← HZ.out, wcells_app, wcells_take _ _ (by have := HZL.out; omega), wcells_drop _ _ (by have := HZL.out; omega), List.nil_append]
                    rw [e1, e2]
                    unfold Hid; simpa using hown2
                  clear hown2 hgrow2 HO1 HR1
                  go_wp2
                  go_roundg (gk - 1)
                  case measure => omega
                  case rel => exact ⟨cutW zs k q (joinW x y), true, q + 1, by omega, by omega, (by first | rfl | exact congrArg _ hwq | go_num), rfl, HO2.out, mid_join HMID.out HX.out HY.out hkq hm, (fun h => by cases h), (fun _ => cutW_len hlq), HB2.out⟩
              · go_upto_region 20 with fail
                go_quiet (fail)
                have HRZ : Hid (((wc.drewN n1).drewN nq).ownsRow w.heap.size 24 2 (.slice (some ⟨g, 0, none⟩) zs.length c5) zs.length (wcells (zs.set k (⟨x.a, x.b⟩ : Wn)))) := HRA'.out
                have HBZ : Hid (Below w.heap.size w ((wc.drewN n1).drewN nq)) := below_drewN (below_drewN HBC.out n1) nq
                have HZ : Hid ((zs.set k (⟨x.a, x.b⟩ : Wn)) = zs.set k (joinW x y)) := by
                  unfold Hid joinW
                  first
                    | (congr 2 <;> omega)
                    | (rw [set_same zs k _ (by rw [HX.out]; congr 2 <;> omega)])
                    | (symm; exact set_same zs k _ (by rw [HX.out]; congr 1; cases x; simp only [Wn.mk.injEq]; constructor <;> simp only <;> omega))
                have HZL : Hid ((zs.set k (⟨x.a, x.b⟩ : Wn)).length = zs.length) := by unfold Hid; rw [HZ.out, List.length_set]
                generalize hZZ : (zs.set k (⟨x.a, x.b⟩ : Wn)) = Z at *
                clear hZZ
                generalize (wc.drewN n1).drewN nq = WZ at *
                have C0 : Hid (((wcells Z).take (q * 2)).length = q * 2) := by unfold Hid; rw [List.length_take, wcells_length]; have := HZL.out; omega
                have C1 : Hid (∀ (j : Nat) u, ((wcells Z).take (q * 2))[j]? = some u → WZ.cell? ((⟨g, 0, none⟩ : Addr).add j) = some u) := fun j u hj => by
                  rw [show (Addr.mk g 0 none).add j = ⟨g, 0 + j, none⟩ from WideShapes.add_plain .., Nat.zero_add]
                  refine own_cellsW HRZ.out j u ?_
                  have hl := (List.getElem?_eq_some_iff.1 hj).1
                  rw [List.length_take] at hl
                  rw [List.getElem?_take_of_lt (by omega)] at hj
                  exact hj
                have C2 : Hid (∀ u ∈ (wcells Z).take (q * 2), u.oneCell' = true) := fun u hu => wcells_one Z u (List.mem_of_mem_take hu)
                go_wp2_with (at_builtin; refine wpList_append_own _ rfl _ _ 22 rfl w.heap.size 24 i0 (.agg #[.int .i64 0, .int .i64 0]) 2 16 Try.underlying22 hi hz0 hz1 hz2 rfl (by decide) _ 0 [] rfl (World.ownsRow_nil _ _ _ _) ⟨g, 0, none⟩ q c5 ((wcells Z).take (q * 2)) rfl C0.out C1.out C2.out (by unfold maxLen; omega) (by omega) HBZ.out.size ?_)
                intro v' w1 hown' hgrow _
                have hgr : Below WZ.heap.size WZ w1 := Below.grown (Below.refl _ _) hgrow (Nat.le_refl _) (fun j ej => by simp [Value.ownBlock] at ej)
                have HR1 : Hid (w1.ownsRow w.heap.size 24 2 (.slice (some ⟨g, 0, none⟩) zs.length c5) zs.length (wcells Z)) := own_later HRZ.out hgr
                have HB1 : Hid (Below w.heap.size w w1) := HBZ.out.trans (hgr.mono HBZ.out.size)
                have HO1 : Hid (w1.ownsRow w.heap.size 24 2 v' (0 + q) ([] ++ (wcells Z).take (q * 2))) := by unfold Hid; simpa using hown'
                clear hown' hgrow hgr HRZ HBZ
                have D0 : Hid (((wcells Z).drop ((q + 1) * 2)).length = (zs.length - (q + 1)) * 2) := by unfold Hid; rw [List.length_drop, wcells_length]; have := HZL.out; omega
                have D1 : Hid (∀ (j : Nat) u, ((wcells Z).drop ((q + 1) * 2))[j]? = some u → w1.cell? ((⟨g, oz, none⟩ : Addr).add j) = some u) := fun j u hj => by
                  have hlj := (List.getElem?_eq_some_iff.1 hj).1
                  rw [List.length_drop, wcells_length] at hlj
                  rw [List.getElem?_drop] at hj
                  rw [show (Addr.mk g oz none).add j = ⟨g, oz + j, none⟩ from WideShapes.add_plain .., HOZ.out (by have := HZL.out; omega)]
                  exact own_cellsW HR1.out _ u hj
                have D2 : Hid (∀ u ∈ (wcells Z).drop ((q + 1) * 2), u.oneCell' = true) := fun u hu => wcells_one Z u (List.mem_of_mem_drop hu)
                go_wp2_with (at_builtin; refine wpList_append_own _ rfl _ _ 22 rfl w.heap.size 24 i0 (.agg #[.int .i64 0, .int .i64 0]) 2 16 Try.underlying22 hi hz0 hz1 hz2 rfl (by decide) _ _ _ rfl HO1.out ⟨g, oz, none⟩ (zs.length - (q + 1)) (c5 - (q + 1)) ((wcells Z).drop ((q + 1) * 2)) rfl D0.out D1.out D2.out (by unfold maxLen; omega) (by omega) HB1.out.size ?_)
                intro v2 w2 hown2 hgrow2 _
                have HB2 : Hid (Below w.heap.size w w2) := below_ownW HB1.out HB1.out.size HO1.out hgrow2
                have HO2 : Hid (w2.ownsRow w.heap.size 24 2 v2 (cutW zs k q (joinW x y)).length (wcells (cutW zs k q (joinW x y)))) := by
                  have e1 : (cutW zs k q (joinW x y)).length = 0 + q + (zs.length - (q + 1)) := by have := cutW_len (i := k) (z := joinW x y) hlq; omega
                  have e2 : wcells (cutW zs k q (joinW x y)) = [] ++ (wcells Z).take (q * 2) ++ (wcells Z).drop ((q + 1) * 2) := by
                    unfold cutW
                    rw [← HZ.out, wcells_app, wcells_take _ _ (by have := HZL.out; omega), wcells_drop _ _ (by have := HZL.out; omega), List.nil_append]
                  rw [e1, e2]
                  unfold Hid; simpa using hown2
                clear hown2 hgrow2 HO1 HR1
                go_wp2
                go_roundg (gk - 1)
                case measure => omega
                case rel => exact ⟨cutW zs k q (joinW x y), true, q + 1, by omega, by omega, (by first | rfl | exact congrArg _ hwq | go_num), rfl, HO2.out, mid_join HMID.out HX.out HY.out hkq hm, (fun h => by cases h), (fun _ => cutW_len hlq), HB2.out⟩
      · have hlq' : ¬ (q : Int) < (zs.length : Int) := by omega
        go_wp2
        exact hexit zs false _ _ _ _ _ _ _ _ _ _ _ _ _ _ _ _ _ _ _ _ _ _ _ _ _ _ _ _ _ _ _ _ _ _ _ _ _ _ _ _ _ _ _ _ _ _ _ _ _ _ _ _ _ _ _ _ _ _ _ _ _ _ _ _ _ _ _ _ _ _ _ _ _ _ _ _ wr hrow hmid (fun _ => ⟨rfl, noM_row hnm (by omega)⟩) (fun h => by cases h) hb
end Go.Proofs.Ytkedbmpnhplmaaa
