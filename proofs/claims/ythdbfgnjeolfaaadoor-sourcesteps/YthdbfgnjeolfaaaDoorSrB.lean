import Derived.Test.YthdbfgnjeolfaaaDoorSrA
import Derived.Deep.RegionLaw
namespace Go.Proofs.YthdbfgnjeolfaaaDoor
open Go.RowKit
set_option linter.unusedVariables false
set_option linter.unusedSimpArgs false
set_option maxRecDepth 100000
set_option maxHeartbeats 4000000

/-- A reader in its block. -/
def Rdr (w : World) (g : Nat) (x : Value) (bd at_ tm lt : Int) : Prop := Own w g 56 5 [x, .int .i64 bd, .int .i64 at_, .int .i64 tm, .int .i64 lt]

theorem Rdr.cells {w : World} {g : Nat} {x : Value} {bd at_ tm lt : Int} (h : Rdr w g x bd at_ tm lt) : w.cell? ⟨g, 0, none⟩ = some x ∧ w.cell? ⟨g, 1, none⟩ = some (.int .i64 bd) ∧ w.cell? ⟨g, 2, none⟩ = some (.int .i64 at_) ∧ w.cell? ⟨g, 3, none⟩ = some (.int .i64 tm) ∧ w.cell? ⟨g, 4, none⟩ = some (.int .i64 lt) :=
  ⟨Own.cell h 0 (by decide), Own.cell h 1 (by decide), Own.cell h 2 (by decide), Own.cell h 3 (by decide), Own.cell h 4 (by decide)⟩

theorem one_cellsR (q : Q) : ∀ u ∈ cellsR q, u.oneCell' = true := by intro u hu; simp [cellsR] at hu; rcases hu with rfl | rfl <;> rfl
theorem OR.drew {w : World} {B : Nat} {x : Value} {qs : List Q} (h : OR w B x qs) : OR w.drew B x qs := ⟨h.own, h.lies, h.apart⟩
theorem OR.far {w : World} {B : Nat} {x : Value} {qs : List Q} (h : OR w B x qs) (g : Nat) (hg : g < B) : some g ≠ x.ownBlock := fun e => by have := (World.ownsRow.lt h.own g e.symm).1; omega
def NewPost (w : World) (rs : List Rw) (bd : Int) (e : Ending) (w' : World) : Prop :=
  Below w.heap.size w w' ∧ ((∃ er : Int, 1 ≤ er ∧ er ≤ 8 ∧ e = .returned (.tuple #[.pointer none, .iface 33 (.int .i64 er)]) ∧ ((er = 5 ∧ 100 < rs.length) ∨ (er = 4 ∧ rs.length ≤ 100 ∧ ¬ (0 ≤ bd ∧ bd ≤ 1048576 ∧ ∀ r ∈ rs, validR r = true)))) ∨
    (rs.length ≤ 100 ∧ 0 ≤ bd ∧ bd ≤ 1048576 ∧ (∀ r ∈ rs, validR r = true) ∧ ∃ (g : Nat) (x : Value) (qs : List Q), e = .returned (.tuple #[.pointer (some ⟨g, 0, none⟩), .nilIface]) ∧ w.heap.size ≤ g ∧ Rdr w' g x bd 0 (-1) 0 ∧ OR w' (g + 1) x qs ∧ qs.map (·.r) = rs))

theorem begin_any (w : World) (g : Nat) (x : Value) (bd at_ tm lt : Int) (h : Rdr w g x bd at_ tm lt) :
    Calls Tryd.prog 21 #[.pointer (some ⟨g, 0, none⟩)] w fun e w' => e = .returned (.tuple #[]) ∧ Rdr w' g x bd 0 (-1) 0 ∧ w.grownBy w' (some g) := by
  obtain ⟨c0, c1, c2, c3, c4⟩ := h.cells
  have s2 := Own.soft h 2
  have s3 := Own.soft h 3
  have s4 := Own.soft h 4
  have HO : Hid (Rdr ((((w.setCell ⟨g, 2, none⟩ (.int .i64 0)).setCell ⟨g, 3, none⟩ (.int .i64 (-1))).setCell ⟨g, 4, none⟩ (.int .i64 0))) g x bd 0 (-1) 0) := ((((Own.put h 2 (.int .i64 0)).1).put 3 (.int .i64 (-1))).1.put 4 (.int .i64 0)).1
  have HG : Hid (w.grownBy ((((w.setCell ⟨g, 2, none⟩ (.int .i64 0)).setCell ⟨g, 3, none⟩ (.int .i64 (-1))).setCell ⟨g, 4, none⟩ (.int .i64 0))) (some g)) := grown_trans (grown_trans (grown_set _ ⟨g, 2, none⟩ _) (grown_set _ ⟨g, 3, none⟩ _)) (grown_set _ ⟨g, 4, none⟩ _)
  clear h
  go_enter Tryd.func21, Tryd.ntmps21
  go_wp2
  go_end0
  exact ⟨rfl, HO.out, HG.out⟩

theorem new_any (rs : List Rw) (a : Option Addr) (c : Nat) (bd : Int) (w : World) (h : RLies w a rs) (hl : rs.length ≤ 4398046511104) (hg : ∀ r ∈ rs, r.vs.length ≤ 4398046511104 ∧ ∀ v ∈ r.vs, v.s.size ≤ maxLen) :
    Calls Tryd.prog 5 #[.slice a rs.length c, .int .i64 bd] w (NewPost w rs bd) := by
  have HR : Hid (RLies w a rs) := h
  have HG : Hid (∀ r ∈ rs, r.vs.length ≤ 4398046511104 ∧ ∀ v ∈ r.vs, v.s.size ≤ maxLen) := hg
  obtain ⟨i0, hi0, hz0, hz1, hz2⟩ := info_parts infoR
  clear h hg
  by_cases h100 : (rs.length : Int) > 100
  · go_enter Tryd.func5, Tryd.ntmps5
    go_wp2
    go_ret2
    exact ⟨Below.refl _ _, .inl ⟨5, by omega, by omega, rfl, .inl ⟨rfl, by omega⟩⟩⟩
  by_cases hb0 : bd < 0
  · have g1 : decide (bd < 0) = true := by simpa using hb0
    go_enter Tryd.func5, Tryd.ntmps5
    go_wp2
    go_ret2
    exact ⟨Below.refl _ _, .inl ⟨4, by omega, by omega, rfl, .inr ⟨rfl, by omega, fun h => by omega⟩⟩⟩
  have g1 : decide (bd < 0) = false := by simpa using hb0
  by_cases hb1 : bd > 1048576
  · go_enter Tryd.func5, Tryd.ntmps5
    go_wp2
    go_ret2
    exact ⟨Below.refl _ _, .inl ⟨4, by omega, by omega, rfl, .inr ⟨rfl, by omega, fun h => by omega⟩⟩⟩
  have hO0 : Hid (Rdr (w.alloc (.cells #[.slice none 0 0, .int .i64 bd, .int .i64 0, .int .i64 0, .int .i64 0] 56)) w.heap.size (.slice none 0 0) bd 0 0 0) := Own.new w 56 5 #[.slice none 0 0, .int .i64 bd, .int .i64 0, .int .i64 0, .int .i64 0] rfl
  go_enter Tryd.func5, Tryd.ntmps5
  go_wp2
  go_loopg [25] rs.length (fun gk i wr => ∃ (k : Nat) (x : Value) (qs : List Q), gk + k = rs.length ∧ i = .int .i64 k ∧ Rdr wr w.heap.size x bd 0 0 0 ∧ OR wr (w.heap.size + 1) x qs ∧ qs.map (·.r) = rs.take k ∧ (∀ r ∈ rs.take k, validR r = true) ∧ Below w.heap.size w wr)
  case atStart => exact ⟨0, .slice none 0 0, [], by omega, rfl, hO0.out, OR.nil _ _, by simp, by simp, bel1 _ _⟩
  case round =>
    clear hO0
    obtain ⟨k, x, qs, hgk, rfl, hO, hOR, hqs, hval, hb⟩ := hrel
    have hql : qs.length = k := by have := congrArg List.length hqs; rw [List.length_map, List.length_take] at this; omega
    have HO := hidMk hO
    have HOR := hidMk hOR
    have HQS := hidMk hqs
    have HVAL := hidMk hval
    have HB := hidMk hb
    have HQL := hidMk hql
    have hsz := hb.size
    clear hO hOR hqs hval hb hql
    by_cases hlt : k < rs.length
    · have hlt' : (k : Int) < (rs.length : Int) := by omega
      obtain ⟨b, off, av, cv, e0, e1, e2, e3⟩ := HR.out k hlt
      subst e0
      have HE : Hid (rs[k] ∈ rs) := List.getElem_mem hlt
      obtain ⟨hn, hns⟩ := HG.out _ HE.out
      have HNS := hidMk hns
      have HV := hidMk (e3.later HB.out)
      have HTK : Hid (rs.take (k + 1) = rs.take k ++ [rs[k]]) := List.take_succ_eq_append_getElem hlt
      replace e1 := cell_later HB.out e1
      replace e2 := cell_later HB.out e2
      clear hns e3
      generalize rs[k] = r at *
      go_upto_region 9 with fail
      have d1 : (wr.alloc (.cells #[.int .i64 r.t, .slice av r.vs.length cv] 37)).cell? ⟨wr.heap.size, 0, none⟩ = some (.int .i64 r.t) := by go_simp
      have d2 : (wr.alloc (.cells #[.int .i64 r.t, .slice av r.vs.length cv] 37)).cell? ⟨wr.heap.size, 1, none⟩ = some (.slice av r.vs.length cv) := by go_simp
      have HB1 : Hid (Below wr.heap.size wr (wr.alloc (.cells #[.int .i64 r.t, .slice av r.vs.length cv] 37))) := bel1 _ _
      have hs1 : (wr.alloc (.cells #[.int .i64 r.t, .slice av r.vs.length cv] 37)).heap.size = wr.heap.size + 1 := by simp
      generalize wr.alloc (.cells #[.int .i64 r.t, .slice av r.vs.length cv] 37) = w1 at *
      clear e1 e2
      go_wp2_with fail
      refine (validRow_any r av cv w1 (HV.out.later HB1.out) ⟨by unfold maxLen; omega, HNS.out⟩).mono ?_
      rintro e w2 ⟨rfl, hb2⟩
      have HB2 : Hid (Below wr.heap.size wr w2) := HB1.out.trans (hb2.mono HB1.out.size)
      have f1 := cell_later hb2 d1
      have f2 := cell_later hb2 d2
      have hs2 : wr.heap.size + 1 ≤ w2.heap.size := by have := hb2.size; omega
      clear d1 d2 hb2 HB1 hs1
      cases hvr : validR r with
      | false =>
        go_wp2
        go_ret2
        refine ⟨HB.out.trans (HB2.out.mono hsz), .inl ⟨4, by omega, by omega, rfl, .inr ⟨rfl, by omega, fun h => ?_⟩⟩⟩
        have := h.2.2 r HE.out
        rw [hvr] at this; cases this
      | true =>
        have HO2 : Hid (Rdr w2 w.heap.size x bd 0 0 0) := Own.later HO.out HB2.out
        have HOR2 : Hid (OR w2 (w.heap.size + 1) x qs) := HOR.out.later HB2.out
        have HV2 : Hid (VLies w2 av r.vs) := HV.out.later HB2.out
        have HBW : Hid (Below w.heap.size w w2) := HB.out.trans (HB2.out.mono hsz)
        clear HO HOR HV HB HB2
        obtain ⟨ax, cx, rfl, -⟩ := HOR2.out.form
        have hqb : qs.length ≤ 100 := by have := HQL.out; omega
        have hgl : w.heap.size < w2.heap.size := by omega
        have HFAR : Hid (some w.heap.size ≠ (Value.slice ax qs.length cx).ownBlock) := HOR2.out.far _ (by omega)
        obtain ⟨c0, -, -, -, -⟩ := HO2.out.cells
        go_upto_region 11 with fail
        go_region_law (first
          | (refine step_append_lies _ (by rfl) _ _ _ (by rfl) (w.heap.size + 1) 37 i0 _ 2 32 Tryd.underlying22 hi0 hz0 hz1 hz2 rfl (by omega) (.slice ax qs.length cx) qs.length (qs.flatMap cellsR) (by rfl) (HOR3.out.own.alloc _) ⟨w3.heap.size, 0, none⟩ 1 1 (cellsR ⟨r, a', c'⟩) (by rfl) (by rfl) (World.news_of_block (cs := #[.int .i64 r.t, .slice a' r.vs.length c']) (t := 37) (fr := (0, 0)) (heap_alloc_new w3 _)) (one_cellsR ⟨r, a', c'⟩) (by omega) (by unfold maxLen; omega) (by omega) (by simp; omega) (w3.heap.size + 1) (by simp) ?_; intro gg cap w4 hown4 hgrow hat hlt4
             have k0 : w4.cell? ⟨w.heap.size, 0, none⟩ = some (.slice ax qs.length cx) := (hgrow.cell_far ⟨w.heap.size, 0, none⟩ (by simp; omega) HFAR.out).trans (cell_later (bel1 _ _) (cell_later hb3 c0))
             have k1 : w4.frozen? ⟨w.heap.size, 0, none⟩ = false := (hgrow.frozen_far ⟨w.heap.size, 0, none⟩ (by simp; omega) HFAR.out).trans (Own.soft (Own.later HO3.out (bel1 _ _)) 0))
          | (go_simp; go_at_call 20; refine (copied_any r.t av r.vs cv w2.drew HV2.out hn).mono ?_; rintro e w3 ⟨a', c', rfl, hOV, hb3⟩
             have HO3 : Hid (Rdr w3 w.heap.size (.slice ax qs.length cx) bd 0 0 0) := Own.later (w := w2.drew) HO2.out hb3
             have HOR3 : Hid (OR w3 (w.heap.size + 1) (.slice ax qs.length cx) qs) := OR.later (w := w2.drew) HOR2.out.drew hb3
             have hs3 : w2.heap.size ≤ w3.heap.size := hb3.size
             have j1 : (w3.alloc (.cells #[.int .i64 r.t, .slice a' r.vs.length c'] 37)).cell? ⟨w.heap.size, 0, none⟩ = some (.slice ax qs.length cx) := cell_later (bel1 _ _) (cell_later hb3 c0)
             have j0 : w3.cell? ⟨w.heap.size, 0, none⟩ = some (.slice ax qs.length cx) := cell_later hb3 c0))
        all_goals
          obtain ⟨hO5, hg5⟩ := Own.put (Own.grown (Own.later HO3.out (bel1 _ (.cells #[.int .i64 r.t, .slice a' r.vs.length c'] 37))) hgrow HFAR.out) 0 (.slice (some ⟨gg, 0, none⟩) (qs.length + 1) cap)
          have hap : ∀ y, a' = some y → w2.heap.size ≤ y.block ∧ y.block < w3.heap.size := by
            obtain ⟨a2, c2, e2, -, h4⟩ := hOV.form
            cases e2
            exact h4
          have HVL : Hid (VLies w3 a' r.vs) := by
            obtain ⟨a2, c2, e2, h3, -⟩ := hOV.form
            cases e2
            exact h3
          have HOR4 : Hid (OR w4 (w.heap.size + 1) (.slice (some ⟨gg, 0, none⟩) (qs.length + 1) cap) (qs ++ [⟨r, a', c'⟩])) := by
            refine OR.more (w0 := w2) (w := w3.alloc (.cells #[.int .i64 r.t, .slice a' r.vs.length c'] 37)) HOR2.out (HOR3.out.later (bel1 _ _)) hown4 hgrow ?_ (by omega) (HVL.out.later (bel1 _ _)) (fun y hy => ?_)
            · rcases hat with h | h
              · exact .inl h.symm
              · right; simp [Value.ownBlock, h]
            · have := hap y hy; simp; omega
          have HOR5 : Hid (OR (w4.setCell ⟨w.heap.size, 0, none⟩ (.slice (some ⟨gg, 0, none⟩) (qs.length + 1) cap)) (w.heap.size + 1) (.slice (some ⟨gg, 0, none⟩) (qs.length + 1) cap) (qs ++ [⟨r, a', c'⟩])) := HOR4.out.grown hg5 (fun k hk => by cases hk; omega)
          have HB5 : Hid (Below w.heap.size w (w4.setCell ⟨w.heap.size, 0, none⟩ (.slice (some ⟨gg, 0, none⟩) (qs.length + 1) cap))) := by
            have h3 : Below w.heap.size w w3 := HBW.out.drew.trans (hb3.mono HBW.out.size)
            have h4 : Below w.heap.size w w4 := (h3.alloc h3.size _).grown hgrow (by simp; have := h3.size; omega) (fun j ej => by have := (World.ownsRow.lt HOR2.out.own j ej).1; omega)
            exact h4.setCell (p := ⟨w.heap.size, 0, none⟩) (Nat.le_refl _) _
          have HO5 := hidMk hO5
          clear hO5 hg5 hown4 hgrow hat hlt4 k0 k1 hOV hb3 HO3 HOR3 HOR4
          go_wp2
          go_roundg (gk - 1)
          case measure => omega
          case rel =>
            refine ⟨k + 1, _, qs ++ [⟨r, a', c'⟩], by omega, by go_num, HO5.out, HOR5.out, ?_, ?_, HB5.out⟩
            · rw [List.map_append, HQS.out, HTK.out]; rfl
            · rw [HTK.out]
              intro z hz
              rcases List.mem_append.1 hz with hz | hz
              · exact HVAL.out z hz
              · rw [List.mem_singleton.1 hz]; exact hvr
    · have hlt' : ¬ (k : Int) < (rs.length : Int) := by omega
      obtain rfl : k = rs.length := by omega
      go_wp2_with fail
      refine (begin_any _ _ _ _ _ _ _ HO.out).mono ?_
      rintro e w2 ⟨rfl, hR2, hg2⟩
      have HR2 := hidMk hR2
      have HG2 := hidMk hg2
      clear hR2 hg2
      go_wp2
      go_ret2
      refine ⟨HB.out.grown HG2.out hsz (fun j ej => by cases ej; exact Nat.le_refl _), .inr ⟨by omega, by omega, by omega, fun r hr => HVAL.out r (by rw [List.take_length]; exact hr), w.heap.size, x, qs, rfl, Nat.le_refl _, HR2.out, HOR.out.grown HG2.out (fun k hk => by cases hk; omega), ?_⟩⟩
      have := HQS.out; rw [List.take_length] at this; exact this
end Go.Proofs.YthdbfgnjeolfaaaDoor
