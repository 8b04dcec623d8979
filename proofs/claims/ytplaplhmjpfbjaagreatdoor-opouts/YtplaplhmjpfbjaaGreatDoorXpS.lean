import Derived.Test.YtplaplhmjpfbjaaGreatDoorXc1
import Derived.Deep.Cut
namespace Go.Proofs.YtplaplhmjpfbjaaGreatDoor
open Go.RowKit
set_option linter.unusedVariables false
set_option linter.unusedSimpArgs false
set_option maxRecDepth 100000

theorem prefixOp_any (t : ByteArray) (r : Int) (g : Nat) (w : World) (hg : g < w.heap.size) (hs : (t = bNot ∧ r = 2) ∨ (t = bMinus ∧ r = 6)) :
    Calls Tryz.prog 142 #[.string t] w (OpPost w g (opPre t) (toPre t)) := by
  rcases hs with ⟨rfl, _⟩ | ⟨rfl, _⟩
  · exact prefixOp_not g w hg
  · exact prefixOp_minus g w hg
/-- What a prefix has of its own. -/
def OwnPre (w : World) (B pl : Nat) (s : ByteArray) (u p : Value) : Prop := ∃ tk f ps, p = .agg #[.int .i64 pl, tk, .int .i64 (opPre s).2, f, ps, .string s, .int .i64 (preRank s)] ∧ Lst w B tk ((opPre s).1.map (Value.int .i64 ·)) ∧ CloIs w B (toPre s) f ∧ Lst w B ps [u]
theorem OwnPre.nd {w : World} {g pl : Nat} {s : ByteArray} {u p : Value} {x : X} (h : OwnPre w g pl s u p) (hx : Nd w g x u) : Nd w g (.pre pl s x) (.iface 199 p) := by
  obtain ⟨tk, f, ps, rfl, h2, h3, h4⟩ := h
  rw [Nd]
  exact ⟨tk, f, ps, u, rfl, h2, h3, h4, hx⟩
theorem OwnPre.grown {w w' : World} {B pl : Nat} {s : ByteArray} {u p : Value} (h : OwnPre w B pl s u p) (hg : w.grownBy w' (some B)) : OwnPre w' B pl s u p := by
  obtain ⟨tk, f, ps, h1, h2, h3, h4⟩ := h
  exact ⟨tk, f, ps, h1, h2.grown hg, h3.grown hg, h4.grown hg⟩
theorem OwnPre.up {w : World} {B B' pl : Nat} {s : ByteArray} {u p : Value} (h : OwnPre w B pl s u p) (hb : B' ≤ B) : OwnPre w B' pl s u p := by
  obtain ⟨tk, f, ps, h1, h2, h3, h4⟩ := h
  exact ⟨tk, f, ps, h1, h2.up hb, CloIs.up hb h3, h4.up hb⟩
theorem OwnPre.form {w : World} {B pl : Nat} {s : ByteArray} {u p : Value} (h : OwnPre w B pl s u p) : ∃ ta tn tc fn fc pa pn pc, p = .agg #[.int .i64 pl, .slice ta tn tc, .int .i64 (opPre s).2, .func (.func fn) #[] fc, .slice pa pn pc, .string s, .int .i64 (preRank s)] := by
  obtain ⟨tk, f, ps, rfl, h2, h3, h4⟩ := h
  obtain ⟨ta, tn, tc, rfl⟩ := h2.form
  obtain ⟨fn, fc, rfl⟩ := h3.form
  obtain ⟨pa, pn, pc, rfl⟩ := h4.form
  exact ⟨_, _, _, _, _, _, _, _, rfl⟩
set_option maxHeartbeats 4000000 in
theorem newPrefix_any (t : Tk) (r : Int) (ut : TypeId) (up : Value) (w : World) (hs : (t.tx = bNot ∧ r = 2) ∨ (t.tx = bMinus ∧ r = 6)) :
    Calls Tryz.prog 129 #[tkV t, .int .i64 r, .iface ut up] w fun e w' => Below w.heap.size w w' ∧ ∃ p, e = .returned p ∧ OwnPre w' w.heap.size t.pl t.tx (.iface ut up) p := by
  have HO : Hid (∀ W, w.heap.size + 1 < W.heap.size → Calls Tryz.prog 142 #[.string t.tx] W (OpPost W (w.heap.size + 1) (opPre t.tx) (toPre t.tx))) := fun W h => prefixOp_any t.tx r _ W h hs
  have HS : Hid (r = preRank t.tx) := by
    unfold Hid preRank
    rcases hs with ⟨h, rfl⟩ | ⟨h, rfl⟩ <;> rw [h] <;> decide +kernel
  clear hs
  unfold tkV
  go_enter Tryz.func129, Tryz.ntmps129
  go_wp2_with fail
  go_region_held3 (fun w' => w'.cell? ⟨w.heap.size, 0, none⟩ = some (.int .i64 t.pl) ∧ w'.cell? ⟨w.heap.size, 1, none⟩ = some (.int .i64 t.kd) ∧ w'.cell? ⟨w.heap.size, 2, none⟩ = some (.string t.tx))
    (first | go_keep)
    (first | (go_at_call 142; refine (HO.out _ ?_).mono ?_; (simp); rintro e w1 ⟨hb1, tk, f, rfl, hL1, hC1⟩; have s0 : w1.cell? ⟨w.heap.size, 0, none⟩ = some (.int .i64 t.pl) := xcell hb1 (by go_keep); have s1 : w1.cell? ⟨w.heap.size, 1, none⟩ = some (.int .i64 t.kd) := xcell hb1 (by go_keep); have s2 : w1.cell? ⟨w.heap.size, 2, none⟩ = some (.string t.tx) := xcell hb1 (by go_keep); obtain ⟨ta, tn, tc, rfl⟩ := hL1.form; obtain ⟨fn, fc, rfl⟩ := hC1.form; have hlt := World.block_lt_of_cell? _ _ (xcell (a := ⟨w.heap.size + 1, 0, none⟩) (v := .int .i64 0) hb1 (by go_simp)); have q0 := xcell (a := ⟨w.heap.size + 1, 0, none⟩) (v := .int .i64 0) hb1 (by go_simp); have qf0 := xfroz (a := ⟨w.heap.size + 1, 0, none⟩) hb1 (by simp) (by go_simp); have q1 := xcell (a := ⟨w.heap.size + 1, 1, none⟩) (v := .slice none 0 0) hb1 (by go_simp); have qf1 := xfroz (a := ⟨w.heap.size + 1, 1, none⟩) hb1 (by simp) (by go_simp); have q2 := xcell (a := ⟨w.heap.size + 1, 2, none⟩) (v := .int .i64 0) hb1 (by go_simp); have qf2 := xfroz (a := ⟨w.heap.size + 1, 2, none⟩) hb1 (by simp) (by go_simp); have q3 := xcell (a := ⟨w.heap.size + 1, 3, none⟩) (v := .nilFunc) hb1 (by go_simp); have qf3 := xfroz (a := ⟨w.heap.size + 1, 3, none⟩) hb1 (by simp) (by go_simp); have q4 := xcell (a := ⟨w.heap.size + 1, 4, none⟩) (v := .slice none 0 0) hb1 (by go_simp); have qf4 := xfroz (a := ⟨w.heap.size + 1, 4, none⟩) hb1 (by simp) (by go_simp); have q5 := xcell (a := ⟨w.heap.size + 1, 5, none⟩) (v := .string ⟨#[]⟩) hb1 (by go_simp); have qf5 := xfroz (a := ⟨w.heap.size + 1, 5, none⟩) hb1 (by simp) (by go_simp); have q6 := xcell (a := ⟨w.heap.size + 1, 6, none⟩) (v := .int .i64 0) hb1 (by go_simp); have qf6 := xfroz (a := ⟨w.heap.size + 1, 6, none⟩) hb1 (by simp) (by go_simp); skip))
  all_goals
    clear q0 q1 q2 q3 q4 q5 q6 qf0 qf1 qf2 qf3 qf4 qf5 qf6 s0 s1 s2
    have hbb : Below ((w.alloc (.cells #[.int .i64 t.pl, .int .i64 t.kd, .string t.tx] 168)).alloc (.cells #[.int .i64 0, .slice none 0 0, .int .i64 0, .nilFunc, .slice none 0 0, .string ⟨#[]⟩, .int .i64 0] 199)).heap.size ((w.alloc (.cells #[.int .i64 t.pl, .int .i64 t.kd, .string t.tx] 168)).alloc (.cells #[.int .i64 0, .slice none 0 0, .int .i64 0, .nilFunc, .slice none 0 0, .string ⟨#[]⟩, .int .i64 0] 199)) w1 := by
      refine Below.trans ?_ (hb1.mono (by simp))
      first | exact (Below.refl _ _).drew | exact (Below.refl _ _).drew.alloc (by simp) _
    have hO0 : Own w1 (w.heap.size + 1) 199 7 [.int .i64 0, .slice none 0 0, .int .i64 0, .nilFunc, .slice none 0 0, .string ⟨#[]⟩, .int .i64 0] := by
      have := (Own.new (w.alloc (.cells #[.int .i64 t.pl, .int .i64 t.kd, .string t.tx] 168)) 199 7 #[.int .i64 0, .slice none 0 0, .int .i64 0, .nilFunc, .slice none 0 0, .string ⟨#[]⟩, .int .i64 0] rfl).later hbb
      simpa using this
    have hB1 : Below w.heap.size w w1 := ((xbel1 w _).alloc (by simp) _).trans (hbb.mono (by simp; omega))
  · obtain ⟨hG, hZ⟩ := set7 w1 (w.heap.size + 1) (.int .i64 t.pl) (.slice ta tn tc) (.int .i64 (opPre t.tx).2) (.func (.func fn) #[] fc) (.slice (some ⟨w1.heap.size, 0, none⟩) 1 1) (.string t.tx) (.int .i64 r)
    have hO7 := ((((((((hO0.put 0 (.int .i64 t.pl)).1.put 1 (.slice ta tn tc)).1.put 2 (.int .i64 (opPre t.tx).2)).1.put 3 (.func (.func fn) #[] fc)).1.put 4 (.slice (some ⟨w1.heap.size, 0, none⟩) 1 1)).1.put 5 (.string t.tx)).1.put 6 (.int .i64 r)).1)
    have hPW : Hid (w1 = w1) := rfl
    generalize World.setCell _ ⟨w.heap.size + 1, 6, none⟩ _ = W7 at hG hZ hO7 ⊢
    have c0 : W7.cell? ⟨w.heap.size + 1, 0, none⟩ = some (.int .i64 t.pl) := by rw [hO7.cell 0 (by decide)]; rfl
    have c1 : W7.cell? ⟨w.heap.size + 1, 1, none⟩ = some (.slice ta tn tc) := by rw [hO7.cell 1 (by decide)]; rfl
    have c2 : W7.cell? ⟨w.heap.size + 1, 2, none⟩ = some (.int .i64 (opPre t.tx).2) := by rw [hO7.cell 2 (by decide)]; rfl
    have c3 : W7.cell? ⟨w.heap.size + 1, 3, none⟩ = some (.func (.func fn) #[] fc) := by rw [hO7.cell 3 (by decide)]; rfl
    have c4 : W7.cell? ⟨w.heap.size + 1, 4, none⟩ = some (.slice (some ⟨w1.heap.size, 0, none⟩) 1 1) := by rw [hO7.cell 4 (by decide)]; rfl
    have c5 : W7.cell? ⟨w.heap.size + 1, 5, none⟩ = some (.string t.tx) := by rw [hO7.cell 5 (by decide)]; rfl
    have c6 : W7.cell? ⟨w.heap.size + 1, 6, none⟩ = some (.int .i64 r) := by rw [hO7.cell 6 (by decide)]; rfl
    have hL7 : Lst W7 w.heap.size (.slice ta tn tc) ((opPre t.tx).1.map (Value.int .i64 ·)) := (hL1.grown hG).up (by omega)
    have hC7 : CloIs W7 w.heap.size (toPre t.tx) (.func (.func fn) #[] fc) := CloIs.up (by omega) (hC1.grown hG)
    have hB7 : Below w.heap.size w W7 := xbNew hB1 hG (fun k hk => by cases hk; omega)
    have hl7 : w.heap.size + 1 < W7.heap.size := hO7.lt
    have hPP : Lst (W7.alloc (.cells #[.iface ut up] 136)) w.heap.size (.slice (some ⟨w1.heap.size, 0, none⟩) 1 1) [.iface ut up] := by
      rw [← hZ]
      exact Lst.one (by omega) (by decide) (by decide) (by go_simp)
    have FIN : Hid (Below w.heap.size w (W7.alloc (.cells #[.iface ut up] 136)) ∧ OwnPre (W7.alloc (.cells #[.iface ut up] 136)) w.heap.size t.pl t.tx (.iface ut up) (.agg #[.int .i64 t.pl, .slice ta tn tc, .int .i64 (opPre t.tx).2, .func (.func fn) #[] fc, .slice (some ⟨w1.heap.size, 0, none⟩) 1 1, .string t.tx, .int .i64 r])) := by
      have hbF : Below W7.heap.size W7 (W7.alloc (.cells #[.iface ut up] 136)) := by first | exact Below.refl _ _ | exact xbel1 _ _
      have hBF := hB7.trans (hbF.mono hB7.size)
      refine ⟨hBF, ?_⟩
      rw [HS.out]
      exact ⟨_, _, _, rfl, hL7.later hbF, hC7.later hbF, hPP⟩
    clear hG hZ hO7 hL7 hC7 hB7 hPP hL1 hC1 hb1 hbb hO0 hB1 HO
    go_wp2_with fail
    exact bodyPost_ret (v := .agg #[.int .i64 t.pl, .slice ta tn tc, .int .i64 (opPre t.tx).2, .func (.func fn) #[] fc, .slice (some ⟨w1.heap.size, 0, none⟩) 1 1, .string t.tx, .int .i64 r]) (by simp [results, Tryz.results129, go_sem, c0, c1, c2, c3, c4, c5, c6, hl7]) rfl ⟨FIN.out.1, _, rfl, FIN.out.2⟩
  · obtain ⟨hG, hZ⟩ := set7 w1 (w.heap.size + 1) (.int .i64 t.pl) (.slice ta tn tc) (.int .i64 (opPre t.tx).2) (.func (.func fn) #[] fc) (.slice (some ⟨w.heap.size + 1 + 1, 0, none⟩) 1 1) (.string t.tx) (.int .i64 r)
    have hO7 := ((((((((hO0.put 0 (.int .i64 t.pl)).1.put 1 (.slice ta tn tc)).1.put 2 (.int .i64 (opPre t.tx).2)).1.put 3 (.func (.func fn) #[] fc)).1.put 4 (.slice (some ⟨w.heap.size + 1 + 1, 0, none⟩) 1 1)).1.put 5 (.string t.tx)).1.put 6 (.int .i64 r)).1)
    have hPW : Hid (w1 = w1) := rfl
    generalize World.setCell _ ⟨w.heap.size + 1, 6, none⟩ _ = W7 at hG hZ hO7 ⊢
    have c0 : W7.cell? ⟨w.heap.size + 1, 0, none⟩ = some (.int .i64 t.pl) := by rw [hO7.cell 0 (by decide)]; rfl
    have c1 : W7.cell? ⟨w.heap.size + 1, 1, none⟩ = some (.slice ta tn tc) := by rw [hO7.cell 1 (by decide)]; rfl
    have c2 : W7.cell? ⟨w.heap.size + 1, 2, none⟩ = some (.int .i64 (opPre t.tx).2) := by rw [hO7.cell 2 (by decide)]; rfl
    have c3 : W7.cell? ⟨w.heap.size + 1, 3, none⟩ = some (.func (.func fn) #[] fc) := by rw [hO7.cell 3 (by decide)]; rfl
    have c4 : W7.cell? ⟨w.heap.size + 1, 4, none⟩ = some (.slice (some ⟨w.heap.size + 1 + 1, 0, none⟩) 1 1) := by rw [hO7.cell 4 (by decide)]; rfl
    have c5 : W7.cell? ⟨w.heap.size + 1, 5, none⟩ = some (.string t.tx) := by rw [hO7.cell 5 (by decide)]; rfl
    have c6 : W7.cell? ⟨w.heap.size + 1, 6, none⟩ = some (.int .i64 r) := by rw [hO7.cell 6 (by decide)]; rfl
    have hL7 : Lst W7 w.heap.size (.slice ta tn tc) ((opPre t.tx).1.map (Value.int .i64 ·)) := (hL1.grown hG).up (by omega)
    have hC7 : CloIs W7 w.heap.size (toPre t.tx) (.func (.func fn) #[] fc) := CloIs.up (by omega) (hC1.grown hG)
    have hB7 : Below w.heap.size w W7 := xbNew hB1 hG (fun k hk => by cases hk; omega)
    have hl7 : w.heap.size + 1 < W7.heap.size := hO7.lt
    have hPP : Lst W7 w.heap.size (.slice (some ⟨w.heap.size + 1 + 1, 0, none⟩) 1 1) [.iface ut up] := by
      have h0 : w1.cell? ⟨w.heap.size + 1 + 1, 0, none⟩ = some (.iface ut up) := xcell hb1 (by go_simp)
      exact Lst.one (by omega) (by decide) (by decide) (hG.cell h0 (by simp))
    have FIN : Hid (Below w.heap.size w (W7) ∧ OwnPre (W7) w.heap.size t.pl t.tx (.iface ut up) (.agg #[.int .i64 t.pl, .slice ta tn tc, .int .i64 (opPre t.tx).2, .func (.func fn) #[] fc, .slice (some ⟨w.heap.size + 1 + 1, 0, none⟩) 1 1, .string t.tx, .int .i64 r])) := by
      have hbF : Below W7.heap.size W7 (W7) := by first | exact Below.refl _ _ | exact xbel1 _ _
      have hBF := hB7.trans (hbF.mono hB7.size)
      refine ⟨hBF, ?_⟩
      rw [HS.out]
      exact ⟨_, _, _, rfl, hL7.later hbF, hC7.later hbF, hPP⟩
    clear hG hZ hO7 hL7 hC7 hB7 hPP hL1 hC1 hb1 hbb hO0 hB1 HO
    go_wp2_with fail
    exact bodyPost_ret (v := .agg #[.int .i64 t.pl, .slice ta tn tc, .int .i64 (opPre t.tx).2, .func (.func fn) #[] fc, .slice (some ⟨w.heap.size + 1 + 1, 0, none⟩) 1 1, .string t.tx, .int .i64 r]) (by simp [results, Tryz.results129, go_sem, c0, c1, c2, c3, c4, c5, c6, hl7]) rfl ⟨FIN.out.1, _, rfl, FIN.out.2⟩

theorem info7 : (Tryz.prog.info? 223).map (·.size) = some 7 := by kernel_rfl
theorem Own.row {w : World} {g t n : Nat} {xs : List Value} (h : Own w g t n xs) : w.heap[g]? = some (.cells xs.toArray t (0, 0)) := by
  rcases h.2 with ⟨h1, _⟩ | ⟨g', c, cur, h1, h2, h3, h4, h5, h6, h7⟩
  · cases h1
  · cases h1
    rw [h3]
    congr 2
    apply Array.toList_inj.1
    have hl := h.1
    rw [← h7]
    simp only [Nat.one_mul] at *
    rw [List.take_of_length_le (by simp; omega)]
theorem xgRow (w : World) (g : Nat) (cs : Array Value) : w.grownBy (w.setRow g cs) (some g) := ⟨rfl, rfl, rfl, by simp, fun k _ hk => setRow_other w g k cs (fun e => hk (by rw [e]))⟩
set_option maxHeartbeats 4000000 in
theorem newCall_any (t : Tk) (l : List X) (pa : Option Addr) (pn pc : Nat) (us : List Value) (g : Nat) (w : World) (hg : g < w.heap.size) (hp : Lst w g (.slice pa pn pc) us) (hl : Nds w g l us) :
    Calls Tryz.prog 164 #[tkV t, .slice pa pn pc] w fun e w' => Below w.heap.size w w' ∧ ∃ p, e = .returned p ∧ Nd w' g (.app t.pl t.tx l) (.iface 223 p) := by
  have HL : Hid (Nds w g l us) := hl
  have HP : Hid (Lst w g (.slice pa pn pc) us) := hp
  have HO : Hid (∀ W, w.heap.size + 1 < W.heap.size → Calls Tryz.prog 173 #[.string t.tx] W (FnPost W (w.heap.size + 1) t.tx)) := fun W h => function_any t.tx _ W h
  clear hl hp
  unfold tkV
  go_enter Tryz.func164, Tryz.ntmps164
  go_wp2_with fail
  refine (HO.out _ (by simp)).mono ?_
  rintro e w1 ⟨hb1, tk, gv, f, rfl, ⟨ta, tn, tc, rfl⟩, hf, hO⟩
  have HF : Hid (∀ o, opApp t.tx = some o → gv = o.2 ∧ Lst w1 (w.heap.size + 1) (.slice ta tn tc) (o.1.map (Value.int .i64 ·)) ∧ CloIs w1 (w.heap.size + 1) (toApp t.tx) f) := hO
  have hO0 : Own w1 (w.heap.size + 1) 223 7 [.int .i64 0, .slice none 0 0, .int .i64 0, .nilFunc, .slice none 0 0, .string ⟨#[]⟩, .bool false] := by
    have := (Own.new (w.alloc (.cells #[.int .i64 t.pl, .int .i64 t.kd, .string t.tx] 168)) 223 7 #[.int .i64 0, .slice none 0 0, .int .i64 0, .nilFunc, .slice none 0 0, .string ⟨#[]⟩, .bool false] rfl).later hb1
    simpa using this
  have hB1 : Below w.heap.size w w1 := ((xbel1 w _).alloc (by simp) _).trans (hb1.mono (by simp; omega))
  have s0 : w1.cell? ⟨w.heap.size, 0, none⟩ = some (.int .i64 t.pl) := xcell hb1 (by go_simp)
  have s2 : w1.cell? ⟨w.heap.size, 2, none⟩ = some (.string t.tx) := xcell hb1 (by go_simp)
  have hlt := hO0.lt
  have hlt0 : w.heap.size < w1.heap.size := by omega
  have HO0 : Hid (Own w1 (w.heap.size + 1) 223 7 [.int .i64 0, .slice none 0 0, .int .i64 0, .nilFunc, .slice none 0 0, .string ⟨#[]⟩, .bool false]) := hO0
  have HB1 : Hid (Below w.heap.size w w1) := hB1
  clear hO hO0 hB1 hb1 HO
  obtain ⟨B, hB⟩ : ∃ B, B = (opApp t.tx).isSome := ⟨_, rfl⟩
  rw [← hB]
  have HBB : Hid (B = (opApp t.tx).isSome) := hB
  clear hB
  rcases hf with rfl | ⟨fn, fc, rfl⟩
  · have hrow : (w1.alloc (.cells #[.slice ta tn tc, .int .i64 gv, .nilFunc] 179)).heap[w.heap.size + 1]? = some (.cells #[.int .i64 0, .slice none 0 0, .int .i64 0, .nilFunc, .slice none 0 0, .string ⟨#[]⟩, .bool false] 223 (0, 0)) := (HO0.out.later (xbel1 _ _)).row
    have hi7 : (Tryz.prog.info? 223).map (·.size) = some 7 := info7
    have HROW : Hid ((w1.alloc (.cells #[.slice ta tn tc, .int .i64 gv, .nilFunc] 179)).heap[w.heap.size + 1]? = some (.cells #[.int .i64 0, .slice none 0 0, .int .i64 0, .nilFunc, .slice none 0 0, .string ⟨#[]⟩, .bool false] 223 (0, 0))) := hrow
    clear hrow
    have ho1 : Hid ((#[.int .i64 t.pl, .slice ta tn tc, .int .i64 gv, .nilFunc, .slice pa pn pc, .string t.tx, .bool B] : Array Value).all (·.oneCell') = true) := by unfold Hid; simp [Value.oneCell']
    go_wp2_with (refine wpList_store_row rfl 223 _ _ rfl (w.heap.size + 1) #[.int .i64 t.pl, .slice ta tn tc, .int .i64 gv, .nilFunc, .slice pa pn pc, .string t.tx, .bool B] rfl rfl 223 #[.int .i64 0, .slice none 0 0, .int .i64 0, .nilFunc, .slice none 0 0, .string ⟨#[]⟩, .bool false] HROW.out hi7 rfl ho1.out ?_)
    have hG := xgRow (w1.alloc (.cells #[.slice ta tn tc, .int .i64 gv, .nilFunc] 179)) (w.heap.size + 1) #[.int .i64 t.pl, .slice ta tn tc, .int .i64 gv, .nilFunc, .slice pa pn pc, .string t.tx, .bool B]
    have hc : ∀ j, ((w1.alloc (.cells #[.slice ta tn tc, .int .i64 gv, .nilFunc] 179)).setRow (w.heap.size + 1) #[.int .i64 t.pl, .slice ta tn tc, .int .i64 gv, .nilFunc, .slice pa pn pc, .string t.tx, .bool B]).cell? ⟨w.heap.size + 1, j, none⟩ = (#[.int .i64 t.pl, .slice ta tn tc, .int .i64 gv, .nilFunc, .slice pa pn pc, .string t.tx, .bool B] : Array Value)[j]? := fun j => cell_setRow_same _ _ _ _ _ _ _ HROW.out
    have hb2 := xbel1 w1 (.cells #[.slice ta tn tc, .int .i64 gv, .nilFunc] 179)
    have hz : ((w1.alloc (.cells #[.slice ta tn tc, .int .i64 gv, .nilFunc] 179)).setRow (w.heap.size + 1) #[.int .i64 t.pl, .slice ta tn tc, .int .i64 gv, .nilFunc, .slice pa pn pc, .string t.tx, .bool B]).heap.size = (w1.alloc (.cells #[.slice ta tn tc, .int .i64 gv, .nilFunc] 179)).heap.size := setRow_size _ _ _
    generalize ((w1.alloc (.cells #[.slice ta tn tc, .int .i64 gv, .nilFunc] 179)).setRow (w.heap.size + 1) #[.int .i64 t.pl, .slice ta tn tc, .int .i64 gv, .nilFunc, .slice pa pn pc, .string t.tx, .bool B]) = W7 at *
    have hB7 : Below w.heap.size w W7 := xbNew (HB1.out.trans (hb2.mono HB1.out.size)) hG (fun k hk => by cases hk; omega)
    clear hz
    go_wp2_with fail
    have c0 := hc 0
    have c1 := hc 1
    have c2 := hc 2
    have c3 := hc 3
    have c4 := hc 4
    have c5 := hc 5
    have c6 := hc 6
    simp only [List.getElem?_toArray, List.getElem?_cons_zero, List.getElem?_cons_succ] at c0 c1 c2 c3 c4 c5 c6
    have hN : Nd W7 g (.app t.pl t.tx l) (.iface 223 (.agg #[.int .i64 t.pl, .slice ta tn tc, .int .i64 gv, .nilFunc, .slice pa pn pc, .string t.tx, .bool B])) := by
      rw [Nd, HBB.out]
      refine ⟨_, _, _, _, us, rfl, fun o ho => ?_, HP.out.later hB7, HL.out.later hB7, ⟨_, _, _, rfl⟩, by first | exact .inl rfl | exact .inr ⟨_, _, rfl⟩⟩
      obtain ⟨e1, e2, e3⟩ := HF.out o ho
      exact ⟨e1, ((e2.later hb2).grown hG).up (by omega), CloIs.up (by omega) ((e3.later hb2).grown hG)⟩
    exact bodyPost_ret (v := .agg #[.int .i64 t.pl, .slice ta tn tc, .int .i64 gv, .nilFunc, .slice pa pn pc, .string t.tx, .bool B]) (by simp [results, Tryz.results164, go_sem, c0, c1, c2, c3, c4, c5, c6]) rfl ⟨hB7, _, rfl, hN⟩
  · have hrow : (w1.alloc (.cells #[.slice ta tn tc, .int .i64 gv, .func (.func fn) #[] fc] 179)).heap[w.heap.size + 1]? = some (.cells #[.int .i64 0, .slice none 0 0, .int .i64 0, .nilFunc, .slice none 0 0, .string ⟨#[]⟩, .bool false] 223 (0, 0)) := (HO0.out.later (xbel1 _ _)).row
    have hi7 : (Tryz.prog.info? 223).map (·.size) = some 7 := info7
    have HROW : Hid ((w1.alloc (.cells #[.slice ta tn tc, .int .i64 gv, .func (.func fn) #[] fc] 179)).heap[w.heap.size + 1]? = some (.cells #[.int .i64 0, .slice none 0 0, .int .i64 0, .nilFunc, .slice none 0 0, .string ⟨#[]⟩, .bool false] 223 (0, 0))) := hrow
    clear hrow
    have ho1 : Hid ((#[.int .i64 t.pl, .slice ta tn tc, .int .i64 gv, .func (.func fn) #[] fc, .slice pa pn pc, .string t.tx, .bool B] : Array Value).all (·.oneCell') = true) := by unfold Hid; simp [Value.oneCell']
    go_wp2_with (refine wpList_store_row rfl 223 _ _ rfl (w.heap.size + 1) #[.int .i64 t.pl, .slice ta tn tc, .int .i64 gv, .func (.func fn) #[] fc, .slice pa pn pc, .string t.tx, .bool B] rfl rfl 223 #[.int .i64 0, .slice none 0 0, .int .i64 0, .nilFunc, .slice none 0 0, .string ⟨#[]⟩, .bool false] HROW.out hi7 rfl ho1.out ?_)
    have hG := xgRow (w1.alloc (.cells #[.slice ta tn tc, .int .i64 gv, .func (.func fn) #[] fc] 179)) (w.heap.size + 1) #[.int .i64 t.pl, .slice ta tn tc, .int .i64 gv, .func (.func fn) #[] fc, .slice pa pn pc, .string t.tx, .bool B]
    have hc : ∀ j, ((w1.alloc (.cells #[.slice ta tn tc, .int .i64 gv, .func (.func fn) #[] fc] 179)).setRow (w.heap.size + 1) #[.int .i64 t.pl, .slice ta tn tc, .int .i64 gv, .func (.func fn) #[] fc, .slice pa pn pc, .string t.tx, .bool B]).cell? ⟨w.heap.size + 1, j, none⟩ = (#[.int .i64 t.pl, .slice ta tn tc, .int .i64 gv, .func (.func fn) #[] fc, .slice pa pn pc, .string t.tx, .bool B] : Array Value)[j]? := fun j => cell_setRow_same _ _ _ _ _ _ _ HROW.out
    have hb2 := xbel1 w1 (.cells #[.slice ta tn tc, .int .i64 gv, .func (.func fn) #[] fc] 179)
    have hz : ((w1.alloc (.cells #[.slice ta tn tc, .int .i64 gv, .func (.func fn) #[] fc] 179)).setRow (w.heap.size + 1) #[.int .i64 t.pl, .slice ta tn tc, .int .i64 gv, .func (.func fn) #[] fc, .slice pa pn pc, .string t.tx, .bool B]).heap.size = (w1.alloc (.cells #[.slice ta tn tc, .int .i64 gv, .func (.func fn) #[] fc] 179)).heap.size := setRow_size _ _ _
    generalize ((w1.alloc (.cells #[.slice ta tn tc, .int .i64 gv, .func (.func fn) #[] fc] 179)).setRow (w.heap.size + 1) #[.int .i64 t.pl, .slice ta tn tc, .int .i64 gv, .func (.func fn) #[] fc, .slice pa pn pc, .string t.tx, .bool B]) = W7 at *
    have hB7 : Below w.heap.size w W7 := xbNew (HB1.out.trans (hb2.mono HB1.out.size)) hG (fun k hk => by cases hk; omega)
    clear hz
    go_wp2_with fail
    have c0 := hc 0
    have c1 := hc 1
    have c2 := hc 2
    have c3 := hc 3
    have c4 := hc 4
    have c5 := hc 5
    have c6 := hc 6
    simp only [List.getElem?_toArray, List.getElem?_cons_zero, List.getElem?_cons_succ] at c0 c1 c2 c3 c4 c5 c6
    have hN : Nd W7 g (.app t.pl t.tx l) (.iface 223 (.agg #[.int .i64 t.pl, .slice ta tn tc, .int .i64 gv, .func (.func fn) #[] fc, .slice pa pn pc, .string t.tx, .bool B])) := by
      rw [Nd, HBB.out]
      refine ⟨_, _, _, _, us, rfl, fun o ho => ?_, HP.out.later hB7, HL.out.later hB7, ⟨_, _, _, rfl⟩, by first | exact .inl rfl | exact .inr ⟨_, _, rfl⟩⟩
      obtain ⟨e1, e2, e3⟩ := HF.out o ho
      exact ⟨e1, ((e2.later hb2).grown hG).up (by omega), CloIs.up (by omega) ((e3.later hb2).grown hG)⟩
    exact bodyPost_ret (v := .agg #[.int .i64 t.pl, .slice ta tn tc, .int .i64 gv, .func (.func fn) #[] fc, .slice pa pn pc, .string t.tx, .bool B]) (by simp [results, Tryz.results164, go_sem, c0, c1, c2, c3, c4, c5, c6]) rfl ⟨hB7, _, rfl, hN⟩
end Go.Proofs.YtplaplhmjpfbjaaGreatDoor
