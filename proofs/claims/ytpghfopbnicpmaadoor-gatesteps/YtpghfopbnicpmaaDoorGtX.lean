import Derived.Test.YtpghfopbnicpmaaDoorGtT
namespace Go.Proofs.YtpghfopbnicpmaaDoor
open Go.RowKit
set_option linter.unusedVariables false
set_option linter.unusedSimpArgs false
set_option maxRecDepth 100000
set_option maxHeartbeats 2000000

theorem infoI64 : (Tryd.prog.info? 2).map (fun i => (i.zero, i.size, i.bytes)) = some (some (.int .i64 0), 1, 8) := by kernel_rfl
theorem infoInt : (Tryd.prog.info? 3).map (fun i => (i.zero, i.size, i.bytes)) = some (some (.int .i64 0), 1, 8) := by kernel_rfl
def NewD (w : World) (n : Nat) (e : Ending) (w' : World) : Prop := ∃ g p q cp cq : Nat, e = .returned (.pointer (some ⟨g, 0, none⟩)) ∧ w.heap.size ≤ g ∧ w.heap.size ≤ p ∧ w.heap.size ≤ q ∧ GR w' g p q cp cq (-1) 0 (List.replicate n ⟨-1, false⟩) ∧ Below w.heap.size w w'
theorem newD_any (n : Nat) (h1 : 1 ≤ n) (hn : n ≤ 64) (w : World) :
    Calls Tryd.prog 6 #[.int .i64 n] w (NewD w n) := by
  obtain ⟨i0, hi0, hz0, hz1, hz2⟩ := info_parts infoI64
  obtain ⟨i1, hi1, hy0, hy1, hy2⟩ := info_parts infoInt
  have HO0 : Hid (Own (w.alloc (.cells #[.slice none 0 0, .slice none 0 0, .int .i64 (-1)] 53)) w.heap.size 53 3 [.slice none 0 0, .slice none 0 0, .int .i64 (-1)]) := Own.new w 53 3 #[.slice none 0 0, .slice none 0 0, .int .i64 (-1)] rfl
  go_enter Tryd.func6, Tryd.ntmps6
  go_wp2_with fail
  go_loopg [4] n (fun gk i wr => ∃ (k : Nat) (x y : Value), gk + k = n ∧ i = .int .i64 k ∧ Own wr w.heap.size 53 3 [x, y, .int .i64 (-1)] ∧ wr.ownsRow (w.heap.size + 1) 2 1 x k (List.replicate k (.int .i64 (-1))) ∧ wr.ownsRow (w.heap.size + 1) 3 1 y k (List.replicate k (.int .i64 0)) ∧ (∀ b, x.ownBlock = some b → y.ownBlock ≠ some b) ∧ Below w.heap.size w wr)
  case atStart => exact ⟨0, _, _, by omega, rfl, HO0.out, World.ownsRow_nil _ _ _ _, World.ownsRow_nil _ _ _ _, (fun b hb => by cases hb), bel1 _ _⟩
  case round =>
    clear HO0
    obtain ⟨k, x, y, hgk, rfl, hO, hX, hY, hd, hb⟩ := hrel
    by_cases hk : k < n
    · have hk' : (k : Int) < (n : Int) := by omega
      have c0 : wr.cell? ⟨w.heap.size, 0, none⟩ = some x := hO.cell 0 (by decide)
      have c1 : wr.cell? ⟨w.heap.size, 1, none⟩ = some y := hO.cell 1 (by decide)
      have HO := hidMk hO
      have HX := hidMk hX
      have HY := hidMk hY
      have HD := hidMk hd
      have HB := hidMk hb
      have hg0 := hO.lt
      have fx : ∃ a c, x = .slice a k c := by
        rcases hX.2 with ⟨e, e2⟩ | ⟨g, cap, cur, e, _⟩
        · exact ⟨_, _, by rw [e, e2]⟩
        · exact ⟨_, _, e⟩
      have fy : ∃ a c, y = .slice a k c := by
        rcases hY.2 with ⟨e, e2⟩ | ⟨g, cap, cur, e, _⟩
        · exact ⟨_, _, by rw [e, e2]⟩
        · exact ⟨_, _, e⟩
      obtain ⟨ax, cx, rfl⟩ := fx
      obtain ⟨ay, cy, rfl⟩ := fy
      have NX : Hid (some w.heap.size ≠ (Value.slice ax k cx).ownBlock) := fun e => by have := (World.ownsRow.lt hX w.heap.size e.symm).1; omega
      have NY : Hid (some w.heap.size ≠ (Value.slice ay k cy).ownBlock) := fun e => by have := (World.ownsRow.lt hY w.heap.size e.symm).1; omega
      clear hO hX hY hd hb
      go_wp2_with (at_builtin; refine wpList_append_own_at _ rfl _ _ 50 rfl (w.heap.size + 1) 2 i0 (.int .i64 0) 1 8 Tryd.underlying50 hi0 hz0 hz1 hz2 rfl (by decide) _ k _ rfl (HX.out.alloc _) ⟨wr.heap.size, 0, none⟩ 1 1 [.int .i64 (-1)] rfl ?qc1 ?qc2 ?qc3 ?qc4 ?qc5 ?qc6 ?_)
      case qc1 => rfl
      case qc2 =>
        intro j u hj
        match j, hj with
        | 0, hj => cases hj; rw [WideShapes.add_plain]; go_simp
        | j + 1, hj => simp at hj
      case qc3 => intro u hu; rw [List.mem_singleton.1 hu]; rfl
      case qc4 => unfold maxLen; omega
      case qc5 => omega
      case qc6 => simp; omega
      intro v1 w1 hown hgrow hnil hat
      have hs1 : wr.heap.size + 1 ≤ w1.heap.size := by have := hgrow.size; simpa using this
      have HO1 : Hid (Own w1 w.heap.size 53 3 [.slice ax k cx, .slice ay k cy, .int .i64 (-1)]) := (HO.out.later (bel1 _ _)).grown hgrow NX.out
      have HX1 : Hid (w1.ownsRow (w.heap.size + 1) 2 1 v1 (k + 1) (List.replicate (k + 1) (.int .i64 (-1)))) := by
        rw [Hid, List.replicate_succ']; exact hown
      have HY1 : Hid (w1.ownsRow (w.heap.size + 1) 3 1 (.slice ay k cy) k (List.replicate k (.int .i64 0))) := own_grown (own_later HY.out (bel1 _ _)) hgrow (fun b hb e => HD.out b e.symm hb)
      have HD1 : Hid (∀ b, v1.ownBlock = some b → (Value.slice ay k cy).ownBlock ≠ some b) := fun b hb e => by
        rcases hat with h | h
        · rw [h] at hb; exact HD.out b hb e
        · rw [h] at hb; have h2 := (World.ownsRow.lt HY.out b e).2; have h3 := Option.some.inj hb; first | omega | (simp at h3; omega)
      have HB1 : Hid (Below w.heap.size w w1) := (HB.out.trans ((bel1 _ _).mono HB.out.size)).grown hgrow (by simp; omega) (fun j ej => by have := (World.ownsRow.lt HX.out j ej).1; omega)
      obtain ⟨ax1, cx1, rfl⟩ : ∃ a c, v1 = .slice a (k + 1) c := by
        rcases hown.2 with ⟨e, e2⟩ | ⟨g, cap, cur, e, _⟩
        · omega
        · exact ⟨_, _, e⟩
      have NX1 : Hid (some w.heap.size ≠ (Value.slice ax1 (k + 1) cx1).ownBlock) := fun e => by have := (World.ownsRow.lt HX1.out w.heap.size e.symm).1; omega
      clear hown hgrow hnil hat HO HX HY HD HB NX c0 c1
      have c0 : w1.cell? ⟨w.heap.size, 0, none⟩ = some (.slice ax k cx) := HO1.out.cell 0 (by decide)
      have s0 := HO1.out.soft 0
      obtain ⟨p1, p2⟩ := HO1.out.put 0 (.slice ax1 (k + 1) cx1)
      have HO2 : Hid (Own (w1.setCell ⟨w.heap.size, 0, none⟩ (.slice ax1 (k + 1) cx1)) w.heap.size 53 3 [.slice ax1 (k + 1) cx1, .slice ay k cy, .int .i64 (-1)]) := p1
      have HX2 : Hid ((w1.setCell ⟨w.heap.size, 0, none⟩ (.slice ax1 (k + 1) cx1)).ownsRow (w.heap.size + 1) 2 1 (.slice ax1 (k + 1) cx1) (k + 1) (List.replicate (k + 1) (.int .i64 (-1)))) := own_grown HX1.out p2 (fun b hb e => NX1.out (by rw [hb]; exact e.symm))
      have HY2 : Hid ((w1.setCell ⟨w.heap.size, 0, none⟩ (.slice ax1 (k + 1) cx1)).ownsRow (w.heap.size + 1) 3 1 (.slice ay k cy) k (List.replicate k (.int .i64 0))) := own_grown HY1.out p2 (fun b hb e => NY.out (by rw [hb]; exact e.symm))
      have HB2 : Hid (Below w.heap.size w (w1.setCell ⟨w.heap.size, 0, none⟩ (.slice ax1 (k + 1) cx1))) := HB1.out.setCell (p := ⟨w.heap.size, 0, none⟩) (Nat.le_refl _) _
      have hs2 : w.heap.size < (w1.setCell ⟨w.heap.size, 0, none⟩ (.slice ax1 (k + 1) cx1)).heap.size := by simp; omega
      have c1 : (w1.setCell ⟨w.heap.size, 0, none⟩ (.slice ax1 (k + 1) cx1)).cell? ⟨w.heap.size, 1, none⟩ = some (.slice ay k cy) := HO2.out.cell 1 (by decide)
      clear p1 p2 HO1 HX1 HY1 HB1
      go_upto_region 6 with fail
      generalize w1.setCell ⟨w.heap.size, 0, none⟩ (.slice ax1 (k + 1) cx1) = w2 at *
      clear c0 s0
      go_wp2_with (at_builtin; refine wpList_append_own_at _ rfl _ _ 51 rfl (w.heap.size + 1) 3 i1 (.int .i64 0) 1 8 Tryd.underlying51 hi1 hy0 hy1 hy2 rfl (by decide) _ k _ rfl (HY2.out.alloc _) ⟨w2.heap.size, 0, none⟩ 1 1 [.int .i64 0] rfl ?qd1 ?qd2 ?qd3 ?qd4 ?qd5 ?qd6 ?_)
      case qd1 => rfl
      case qd2 =>
        intro j u hj
        match j, hj with
        | 0, hj => cases hj; rw [WideShapes.add_plain]; go_simp
        | j + 1, hj => simp at hj
      case qd3 => intro u hu; rw [List.mem_singleton.1 hu]; rfl
      case qd4 => unfold maxLen; omega
      case qd5 => omega
      case qd6 => simp; omega
      intro v3 w3 hown hgrow hnil hat
      have HO3 : Hid (Own w3 w.heap.size 53 3 [.slice ax1 (k + 1) cx1, .slice ay k cy, .int .i64 (-1)]) := (HO2.out.later (bel1 _ _)).grown hgrow NY.out
      have HY3 : Hid (w3.ownsRow (w.heap.size + 1) 3 1 v3 (k + 1) (List.replicate (k + 1) (.int .i64 0))) := by
        rw [Hid, List.replicate_succ']; exact hown
      have HX3 : Hid (w3.ownsRow (w.heap.size + 1) 2 1 (.slice ax1 (k + 1) cx1) (k + 1) (List.replicate (k + 1) (.int .i64 (-1)))) := own_grown (own_later HX2.out (bel1 _ _)) hgrow (fun b hb e => HD1.out b hb e.symm)
      have HD3 : Hid (∀ b, (Value.slice ax1 (k + 1) cx1).ownBlock = some b → v3.ownBlock ≠ some b) := fun b hb e => by
        rcases hat with h | h
        · rw [h] at e; exact HD1.out b hb e
        · rw [h] at e; have h2 := (World.ownsRow.lt HX2.out b hb).2; have h3 := Option.some.inj e; first | omega | (simp at h3; omega)
      have HB3 : Hid (Below w.heap.size w w3) := (HB2.out.trans ((bel1 _ _).mono HB2.out.size)).grown hgrow (by simp; omega) (fun j ej => by have := (World.ownsRow.lt HY2.out j ej).1; omega)
      obtain ⟨ay1, cy1, rfl⟩ : ∃ a c, v3 = .slice a (k + 1) c := by
        rcases hown.2 with ⟨e, e2⟩ | ⟨g, cap, cur, e, _⟩
        · omega
        · exact ⟨_, _, e⟩
      have NY3 : Hid (some w.heap.size ≠ (Value.slice ay1 (k + 1) cy1).ownBlock) := fun e => by have := (World.ownsRow.lt HY3.out w.heap.size e.symm).1; omega
      clear hown hgrow hnil hat HO2 HX2 HY2 HD1 HB2 NY c1
      have c1 : w3.cell? ⟨w.heap.size, 1, none⟩ = some (.slice ay k cy) := HO3.out.cell 1 (by decide)
      have s1 := HO3.out.soft 1
      obtain ⟨p1, p2⟩ := HO3.out.put 1 (.slice ay1 (k + 1) cy1)
      have HO4 : Hid (Own (w3.setCell ⟨w.heap.size, 1, none⟩ (.slice ay1 (k + 1) cy1)) w.heap.size 53 3 [.slice ax1 (k + 1) cx1, .slice ay1 (k + 1) cy1, .int .i64 (-1)]) := p1
      have HX4 := hidMk (own_grown HX3.out p2 (fun b hb e => NX1.out (by rw [hb]; exact e.symm)))
      have HY4 := hidMk (own_grown HY3.out p2 (fun b hb e => NY3.out (by rw [hb]; exact e.symm)))
      have HB4 : Hid (Below w.heap.size w (w3.setCell ⟨w.heap.size, 1, none⟩ (.slice ay1 (k + 1) cy1))) := HB3.out.setCell (p := ⟨w.heap.size, 1, none⟩) (Nat.le_refl _) _
      clear p1 p2 HO3 HX3 HY3 HB3
      go_wp2_with fail
      go_roundg (gk - 1)
      case measure => omega
      case rel => exact ⟨k + 1, _, _, by omega, by go_num, HO4.out, HX4.out, HY4.out, HD3.out, HB4.out⟩
    · have hk' : ¬ (k : Int) < (n : Int) := by omega
      obtain rfl : k = n := by omega
      have HFIN : Hid (∃ p q cp cq : Nat, w.heap.size ≤ p ∧ w.heap.size ≤ q ∧ GR wr w.heap.size p q cp cq (-1) 0 (List.replicate k ⟨-1, false⟩)) := by
        rcases hX.2 with ⟨e, e2⟩ | ⟨p, cp, cur, e, hp, hrest⟩
        · omega
        rcases hY.2 with ⟨e', e2'⟩ | ⟨q, cq, cur', e', hq, hrest'⟩
        · omega
        subst e e'
        refine ⟨p, q, cp, cq, by omega, by omega, ?_, ?_, ?_, by omega, by omega, fun e => hd p rfl (by rw [e]; rfl)⟩
        · rw [List.length_replicate]; exact hO
        · rw [List.length_replicate, show timesL (List.replicate k ⟨-1, false⟩) = List.replicate k (.int .i64 (-1)) by unfold timesL; simp]
          exact ⟨by simp, .inr ⟨p, cp, cur, rfl, Nat.le_refl _, hrest⟩⟩
        · rw [List.length_replicate, show marksL 0 (List.replicate k ⟨-1, false⟩) = List.replicate k (.int .i64 0) by unfold marksL; simp]
          exact ⟨by simp, .inr ⟨q, cq, cur', rfl, Nat.le_refl _, hrest'⟩⟩
      have HB := hidMk hb
      clear hO hX hY hd hb
      go_wp2_with fail
      go_ret
      obtain ⟨p, q, cp, cq, a1, a2, a3⟩ := HFIN.out
      exact ⟨w.heap.size, p, q, cp, cq, rfl, Nat.le_refl _, a1, a2, a3, HB.out⟩
end Go.Proofs.YtpghfopbnicpmaaDoor
