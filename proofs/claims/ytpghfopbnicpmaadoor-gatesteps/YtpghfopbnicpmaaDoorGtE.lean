import Derived.Test.YtpghfopbnicpmaaDoorGtD
namespace Go.Proofs.YtpghfopbnicpmaaDoor
open Go.RowKit
set_option linter.unusedVariables false
set_option linter.unusedSimpArgs false
set_option maxRecDepth 100000

/-- The least of a beginning and of some times. -/
def leastF : Int → List En → Int
  | m, [] => m
  | m, e :: l => leastF (min m e.t) l
/-- The least of all channels' times. -/
def leastE (es : List En) : Int := leastF (es.getD 0 ⟨0, false⟩).t es
theorem leastF_snoc (m : Int) (l : List En) (e : En) : leastF m (l ++ [e]) = min (leastF m l) e.t := by
  induction l generalizing m with
  | nil => rfl
  | cons a l ih => simp only [List.cons_append, leastF]; rw [ih]
theorem least_any (w : World) (g b c : Nat) (tm mk : Int) (es : List En) (h : GT w g b c tm mk es) (h0 : 0 < es.length) (hl : es.length ≤ 64) :
    Calls Tryd.prog 25 #[.pointer (some ⟨g, 0, none⟩)] w fun e w' => e = .returned (.int .i64 (leastE es)) ∧ Below w.heap.size w w' := by
  obtain ⟨c0, c1, c2⟩ := h.cells
  obtain ⟨e0, e1⟩ := h.at 0 h0
  have H := hidMk h
  have hd : (es.getD 0 ⟨0, false⟩).t = es[0].t := by simp [List.getD, h0]
  unfold leastE
  rw [hd]
  generalize es[0] = q0 at *
  have h0' : (0 : Int) < (es.length : Int) := by omega
  clear h hd
  go_enter Tryd.func25, Tryd.ntmps25
  go_wp2
  go_loopg [3, 18] es.length (fun gk m i wr => ∃ (k : Nat), gk + k = es.length ∧ i = .int .i64 k ∧ m = .int .i64 (leastF q0.t (es.take k)) ∧ Below w.heap.size w wr)
  case atStart => exact ⟨0, by omega, rfl, rfl, Below.refl _ _⟩
  case round =>
    obtain ⟨k, hgk, rfl, rfl, hb⟩ := hrel
    have HB := hidMk hb
    by_cases hk : k < es.length
    · have hk' : (k : Int) < (es.length : Int) := by omega
      obtain ⟨f0, f1⟩ := (H.out.later hb).at k hk
      have HT : Hid (leastF q0.t (es.take (k + 1)) = min (leastF q0.t (es.take k)) es[k].t) := by rw [Hid, List.take_succ_eq_append_getElem hk, leastF_snoc]
      generalize leastF q0.t (es.take k) = m at *
      generalize es[k] = q at *
      clear hb
      go_wp2_with fail
      · go_roundg (gk - 1)
        case measure => omega
        case rel => exact ⟨k + 1, by omega, by go_num, by rw [HT.out, Int.min_eq_right (by omega)], HB.out.trans ((bel1 _ _).mono HB.out.size)⟩
      · go_roundg (gk - 1)
        case measure => omega
        case rel => exact ⟨k + 1, by omega, by go_num, by rw [HT.out, Int.min_eq_left (by omega)], HB.out.trans ((bel1 _ _).mono HB.out.size)⟩
    · have hk' : ¬ (k : Int) < (es.length : Int) := by omega
      obtain rfl : k = es.length := by omega
      clear hb
      go_wp2
      go_ret
      exact ⟨rfl, HB.out⟩
/-- One element in a block of its own. -/
def OneE (w : World) (p : Nat) (k rt : Int) (rv : Value) (t m : Int) : Prop :=
  w.cell? ⟨p, 0, none⟩ = some (.int .i64 k) ∧ w.cell? ⟨p, 1, none⟩ = some (.int .i64 rt) ∧ w.cell? ⟨p, 2, none⟩ = some rv ∧ w.cell? ⟨p, 3, none⟩ = some (.int .i64 t) ∧ w.cell? ⟨p, 4, none⟩ = some (.int .i64 m)
def Nothing (e : Ending) : Prop := e = .returned (.tuple #[.slice none 0 0, .nilIface])
def Bad (n : Int) (e : Ending) : Prop := e = .returned (.tuple #[.slice none 0 0, .iface 28 (.int .i64 n)])
def Goes (w w' : World) (k rt : Int) (rv : Value) (t m : Int) (e : Ending) : Prop := ∃ p, w.heap.size ≤ p ∧ e = .returned (.tuple #[.slice (some ⟨p, 0, none⟩) 1 1, .nilIface]) ∧ OneE w' p k rt rv t m
/-- What becomes of a time: 'q' the channel, 'es' the channels behind it. -/
def TimePost (w : World) (g b c : Nat) (tm mk : Int) (es es' : List En) (q : En) (t : Int) (e : Ending) (w' : World) : Prop :=
  Ch w w' g b ∧ ((¬ (q.t < t ∧ t ≤ 1099511627777) ∧ Bad 4 e ∧ GT w' g b c tm mk es) ∨
    (q.t < t ∧ t ≤ 1099511627777 ∧ ((leastE es' ≤ tm ∧ Nothing e ∧ GT w' g b c tm mk es') ∨
      (tm < leastE es' ∧ Goes w w' 2 0 (.slice none 0 0) (leastE es') 0 e ∧ GT w' g b c (leastE es') mk es'))))
theorem takeTime_any (w : World) (g b c : Nat) (tm mk : Int) (es : List En) (h : GT w g b c tm mk es) (hl : es.length ≤ 64) (i : Nat) (hi : i < es.length) (t : Int) :
    Calls Tryd.prog 17 #[.pointer (some ⟨g, 0, none⟩), .int .i64 i, .int .i64 t] w (TimePost w g b c tm mk es (es.set i ⟨t, es[i].b⟩) es[i] t) := by
  obtain ⟨c0, c1, c2⟩ := h.cells
  obtain ⟨e0, e1⟩ := h.at i hi
  have H := hidMk h
  have hi' : (i : Int) < (es.length : Int) := by omega
  have HP := h.putT i hi t
  have hlen : (es.set i ⟨t, es[i].b⟩).length = es.length := List.length_set
  generalize es.set i ⟨t, es[i].b⟩ = es' at *
  obtain ⟨P1, P2⟩ := HP
  have HP1 := hidMk P1
  have HP2 := hidMk P2
  have HL := hidMk hlen
  have sb := h.soft.2 (i * 2)
  generalize es[i] = q at *
  clear h P1 P2 hlen
  by_cases h1 : t ≤ q.t
  · go_enter Tryd.func17, Tryd.ntmps17
    go_wp2
    go_ret2
    exact ⟨.refl _ _ _, .inl ⟨by omega, rfl, H.out⟩⟩
  have h1d : decide (t ≤ q.t) = false := by simpa using h1
  by_cases h2 : t > 1099511627777
  · go_enter Tryd.func17, Tryd.ntmps17
    go_wp2
    go_ret2
    exact ⟨.refl _ _ _, .inl ⟨by omega, rfl, H.out⟩⟩
  go_enter Tryd.func17, Tryd.ntmps17
  go_wp2_with fail
  refine (least_any _ g b c tm mk es' HP1.out (by rw [HL.out]; omega) (by rw [HL.out]; omega)).mono ?_
  rintro e w1 ⟨rfl, hb⟩
  have HG1 := hidMk (HP1.out.later hb)
  have HC1 : Hid (Ch w w1 g b) := HP2.out.trans (.of_below hb)
  clear hb HP1 HP2 c0 c1 c2 e0 e1 sb
  obtain ⟨c0, c1, c2⟩ := HG1.out.cells
  have s0 := HG1.out.soft.1 0
  obtain ⟨l, HLE⟩ : ∃ l, Hid (leastE es' = l) := ⟨_, rfl⟩
  rw [HLE.out]
  by_cases h3 : l ≤ tm
  · go_wp2_with fail
    go_ret2
    exact ⟨HC1.out, .inr ⟨by omega, by omega, .inl ⟨by rw [HLE.out]; exact h3, rfl, HG1.out⟩⟩⟩
  · have HG2 := hidMk (HG1.out.putTime l).1
    have HC2 : Hid (Ch w (w1.setCell ⟨g, 0, none⟩ (.int .i64 l)) g b) := HC1.out.trans (HG1.out.putTime l).2
    go_wp2_with fail
    go_ret2
    refine ⟨HC2.out.trans (.of_below (bel1 _ _)), .inr ⟨by omega, by omega, .inr ⟨by rw [HLE.out]; omega, by rw [HLE.out]; exact ⟨(w1.setCell ⟨g, 0, none⟩ (.int .i64 l)).heap.size, HC2.out.size, by simp, by unfold OneE; go_simp⟩, by rw [HLE.out]; exact HG2.out.later (bel1 _ _)⟩⟩⟩
end Go.Proofs.YtpghfopbnicpmaaDoor
