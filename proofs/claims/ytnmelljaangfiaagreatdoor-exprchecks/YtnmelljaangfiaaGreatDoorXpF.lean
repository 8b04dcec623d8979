import Derived.Test.YtnmelljaangfiaaGreatDoorXpE
namespace Go.Proofs.YtnmelljaangfiaaGreatDoor
open Go.RowKit
set_option linter.unusedVariables false
set_option linter.unusedSimpArgs false
set_option maxRecDepth 100000

attribute [local go_sem] bodyPost_pan

theorem PPost.after {L : ByteArray → Int → Int → ByteArray → Prop} {w w1 w' : World} {g E : Nat} {m : Mode} {lev : Nat} {ts : List Tk} {e : Ending} (h : PPost L w1 g E m lev ts e w') (hb : Below w.heap.size w w1) : PPost L w g E m lev ts e w' := by
  obtain ⟨hg, o, hp, ho⟩ := h
  refine ⟨xgTrans (xgBelow hb) hg, o, hp, ?_⟩
  cases o with
  | error f => exact ho
  | ok q =>
    obtain ⟨x, ts'⟩ := q
    obtain ⟨v, h1, h2, h3⟩ := ho
    exact ⟨v, h1, Nd.up (by have := hb.size; omega) _ _ h2, h3⟩
theorem PPost.map {L : ByteArray → Int → Int → ByteArray → Prop} {w w' : World} {g E : Nat} {m m' : Mode} {lev : Nat} {ts ts0 : List Tk} {e : Ending} (h : PPost L w g E m lev ts e w') (hm : ∀ o, Ps L E m lev ts o → Ps L E m' lev ts0 o) : PPost L w g E m' lev ts0 e w' := by
  obtain ⟨hg, o, hp, ho⟩ := h
  exact ⟨hg, o, hm o hp, ho⟩
set_option maxHeartbeats 2000000 in
theorem not_any {L : ByteArray → Int → Int → ByteArray → Prop} {G : World → Prop} {g E n : Nat} (hL : OneL L) (hG : ∀ W W', G W → W.grownBy W' (some g) → G W') (hN : ∀ m, m < n → Rdr L G g E 93 2 m) (hP : Rdr L G g E 105 3 n) : Rdr L G g E 93 2 n := by
  intro ts lev w hn hf h hw
  have hpr : pr 2 bNot := by unfold pr; simp
  have hmf := xmf
  have hf2 := fld2
  have H : Hid (PS w g E ts lev) := h
  have HG : Hid (∀ W W', G W → W.grownBy W' (some g) → G W') := hG
  have HW : Hid (G w) := hw
  by_cases ht : (hd E ts).tx = bNot
  · cases ts with
    | nil => exact absurd ht (by show ¬ (⟨#[]⟩ : ByteArray) = bNot; decide +kernel)
    | cons t ts =>
      have HB : Hid (∀ W, Below w.heap.size w W → Calls Tryz.prog 104 #[.pointer (some ⟨g, 0, none⟩), .int .i64 2, .func (.func 93) #[.pointer (some ⟨g, 0, none⟩)] #[]] W (PPost L W g E (.D 2) lev (t :: ts))) :=
        fun W hW => behind_any hL hG E _ 2 bNot hpr t ts lev W ht ent_not (hN ts.length (by simp at hn; omega)) hf (h.later hW) (hG _ _ hw (xgBelow hW))
      have ht2 : (t.tx.toList == [110, 111, 116]) = true := by rw [xl]; exact decide_eq_true ht
      clear hL hG hN hP hf h hw hpr ht
      go_enter Tryz.func93, Tryz.ntmps93
      go_wp2_with fail
      refine (next_any g E lev (t :: ts) _ H.out).mono ?_
      rintro e w1 ⟨rfl, hb1⟩
      rw [show hd E (t :: ts) = t from rfl]
      unfold tkV
      have HB1 : Hid (Below w.heap.size w w1) := hb1
      clear hb1
      go_wp2_with fail
      refine (HB.out w1 HB1.out).mono ?_
      intro e w2 hpp
      have HPP : Hid (PPost L w g E (.D 2) lev (t :: ts) e w2) := hpp.after HB1.out
      rcases hpp.iface with ⟨_, x, ts1, t', p, _, rfl, _, _⟩ | ⟨_, f, _, rfl⟩
      · clear hpp
        go_wp2_with fail
        go_ret
        exact HPP.out
      · exact ⟨rfl, HPP.out⟩
  · have HB : Hid (∀ W, Below w.heap.size w W → Calls Tryz.prog 105 #[.pointer (some ⟨g, 0, none⟩)] W (PPost L W g E (.D 3) lev ts)) :=
      fun W hW => hP ts lev W hn hf (h.later hW) (hG _ _ hw (xgBelow hW))
    have ht2 : ((hd E ts).tx.toList == [110, 111, 116]) = false := xnl ht
    have HT : Hid (¬ (hd E ts).tx = bNot) := ht
    have HPR : Hid (pr 2 bNot) := hpr
    clear hL hG hN hP hf h hw hpr ht
    go_enter Tryz.func93, Tryz.ntmps93
    go_wp2_with fail
    refine (next_any g E lev ts _ H.out).mono ?_
    rintro e w1 ⟨rfl, hb1⟩
    unfold tkV
    have HB1 : Hid (Below w.heap.size w w1) := hb1
    clear hb1
    go_wp2_with fail
    refine (HB.out w1 HB1.out).mono ?_
    intro e w2 hpp
    have HPP : Hid (PPost L w g E (.D 2) lev ts e w2) := (hpp.after HB1.out).map (fun o ho => .pnone HPR.out HT.out ho)
    rcases hpp.iface with ⟨_, x, ts1, t', p, _, rfl, _, _⟩ | ⟨_, f, _, rfl⟩
    · clear hpp
      go_wp2_with fail
      go_ret
      exact HPP.out
    · exact ⟨rfl, HPP.out⟩

set_option maxHeartbeats 2000000 in
theorem minus_any {L : ByteArray → Int → Int → ByteArray → Prop} {G : World → Prop} {g E n : Nat} (hL : OneL L) (hG : ∀ W W', G W → W.grownBy W' (some g) → G W') (hN : ∀ m, m < n → Rdr L G g E 157 6 m) (hP : Rdr L G g E 161 7 n) : Rdr L G g E 157 6 n := by
  intro ts lev w hn hf h hw
  have hpr : pr 6 bMinus := by unfold pr; simp
  have hmf := xmf
  have hf2 := fld2
  have H : Hid (PS w g E ts lev) := h
  have HG : Hid (∀ W W', G W → W.grownBy W' (some g) → G W') := hG
  have HW : Hid (G w) := hw
  by_cases ht : (hd E ts).tx = bMinus
  · cases ts with
    | nil => exact absurd ht (by show ¬ (⟨#[]⟩ : ByteArray) = bMinus; decide +kernel)
    | cons t ts =>
      have HB : Hid (∀ W, Below w.heap.size w W → Calls Tryz.prog 104 #[.pointer (some ⟨g, 0, none⟩), .int .i64 6, .func (.func 157) #[.pointer (some ⟨g, 0, none⟩)] #[]] W (PPost L W g E (.D 6) lev (t :: ts))) :=
        fun W hW => behind_any hL hG E _ 6 bMinus hpr t ts lev W ht ent_minus (hN ts.length (by simp at hn; omega)) hf (h.later hW) (hG _ _ hw (xgBelow hW))
      have ht2 : (t.tx.toList == [45]) = true := by rw [xl]; exact decide_eq_true ht
      clear hL hG hN hP hf h hw hpr ht
      go_enter Tryz.func157, Tryz.ntmps157
      go_wp2_with fail
      refine (next_any g E lev (t :: ts) _ H.out).mono ?_
      rintro e w1 ⟨rfl, hb1⟩
      rw [show hd E (t :: ts) = t from rfl]
      unfold tkV
      have HB1 : Hid (Below w.heap.size w w1) := hb1
      clear hb1
      go_wp2_with fail
      refine (HB.out w1 HB1.out).mono ?_
      intro e w2 hpp
      have HPP : Hid (PPost L w g E (.D 6) lev (t :: ts) e w2) := hpp.after HB1.out
      rcases hpp.iface with ⟨_, x, ts1, t', p, _, rfl, _, _⟩ | ⟨_, f, _, rfl⟩
      · clear hpp
        go_wp2_with fail
        go_ret
        exact HPP.out
      · exact ⟨rfl, HPP.out⟩
  · have HB : Hid (∀ W, Below w.heap.size w W → Calls Tryz.prog 161 #[.pointer (some ⟨g, 0, none⟩)] W (PPost L W g E (.D 7) lev ts)) :=
      fun W hW => hP ts lev W hn hf (h.later hW) (hG _ _ hw (xgBelow hW))
    have ht2 : ((hd E ts).tx.toList == [45]) = false := xnl ht
    have HT : Hid (¬ (hd E ts).tx = bMinus) := ht
    have HPR : Hid (pr 6 bMinus) := hpr
    clear hL hG hN hP hf h hw hpr ht
    go_enter Tryz.func157, Tryz.ntmps157
    go_wp2_with fail
    refine (next_any g E lev ts _ H.out).mono ?_
    rintro e w1 ⟨rfl, hb1⟩
    unfold tkV
    have HB1 : Hid (Below w.heap.size w w1) := hb1
    clear hb1
    go_wp2_with fail
    refine (HB.out w1 HB1.out).mono ?_
    intro e w2 hpp
    have HPP : Hid (PPost L w g E (.D 6) lev ts e w2) := (hpp.after HB1.out).map (fun o ho => .pnone HPR.out HT.out ho)
    rcases hpp.iface with ⟨_, x, ts1, t', p, _, rfl, _, _⟩ | ⟨_, f, _, rfl⟩
    · clear hpp
      go_wp2_with fail
      go_ret
      exact HPP.out
    · exact ⟨rfl, HPP.out⟩
end Go.Proofs.YtnmelljaangfiaaGreatDoor
