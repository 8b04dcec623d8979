import Derived.Test.YtpghfopbnicpmaaDoorGtE
namespace Go.Proofs.YtpghfopbnicpmaaDoor
open Go.RowKit
set_option linter.unusedVariables false
set_option linter.unusedSimpArgs false
set_option maxRecDepth 100000

theorem not_waits (t : Int) (b : Bool) (w : World) :
    Calls Tryd.prog 27 #[.agg #[.int .i64 t, .bool b]] w fun e w' => e = .returned (.bool (!b)) ∧ Below w.heap.size w w' := by
  go_enter Tryd.func27, Tryd.ntmps27
  go_wp2
  go_ret
  exact ⟨rfl, bel1 _ _⟩
/-- Where the first is that does not wait. -/
def idxE : List En → Nat → Int
  | [], _ => -1
  | e :: l, k => if e.b = true then idxE l (k + 1) else (k : Int)
theorem index_any (w : World) (b c : Nat) (es : List En) (h : w.ownsRow b 57 2 (.slice (some ⟨b, 0, none⟩) es.length c) es.length (es.flatMap cellsE)) (hl : es.length ≤ 64) (f : Value) (hf : f = .func (.func 27) #[] #[]) :
    Calls Tryd.prog 33 #[.slice (some ⟨b, 0, none⟩) es.length c, f] w fun e w' => e = .returned (.int .i64 (idxE es 0)) ∧ Below w.heap.size w w' := by
  subst hf
  have H := hidMk h
  clear h
  go_enter Tryd.func33, Tryd.ntmps33
  go_wp2
  go_loopg [8] es.length (fun gk i wr => ∃ (k : Nat), gk + k = es.length ∧ i = .int .i64 k ∧ idxE es 0 = idxE (es.drop k) k ∧ Below w.heap.size w wr)
  case atStart => exact ⟨0, by omega, rfl, rfl, Below.refl _ _⟩
  case round =>
    obtain ⟨k, hgk, rfl, hx, hb⟩ := hrel
    have HB := hidMk hb
    have HX := hidMk hx
    by_cases hk : k < es.length
    · have hk' : (k : Int) < (es.length : Int) := by omega
      have hO := own_later H.out hb
      have key : ∀ j, j < 2 → wr.cell? ⟨b, k * 2 + j, none⟩ = (cellsE es[k])[j]? := fun j hj => by
        rw [World.ownsRow.cellAt hO (k * 2 + j) (by omega), flat_at cellsE 2 (fun _ => rfl) es k j hk hj]
      have f0 : wr.cell? ⟨b, k * 2, none⟩ = some (.int .i64 es[k].t) := key 0 (by decide)
      have f1 : wr.cell? ⟨b, k * 2 + 1, none⟩ = some (.bool es[k].b) := key 1 (by decide)
      have HD : Hid (es.drop k = es[k] :: es.drop (k + 1)) := List.drop_eq_getElem_cons hk
      generalize es[k] = q at *
      clear hb hx hO key
      go_wp2_with fail
      refine (not_waits q.t q.b _).mono ?_
      rintro e w1 ⟨rfl, hb1⟩
      have HB1 : Hid (Below w.heap.size w w1) := HB.out.trans (hb1.mono HB.out.size)
      clear hb1 f0 f1
      have HX2 : Hid (idxE es 0 = if q.b = true then idxE (es.drop (k + 1)) (k + 1) else (k : Int)) := by rw [Hid, HX.out, HD.out]; rfl
      cases hq : q.b with
      | true =>
        rw [hq] at HX2
        have HX3 : Hid (idxE es 0 = idxE (es.drop (k + 1)) (k + 1)) := HX2.out
        clear HX2
        go_wp2
        go_roundg (gk - 1)
        case measure => omega
        case rel => exact ⟨k + 1, by omega, by go_num, HX3.out, HB1.out⟩
      | false =>
        rw [hq] at HX2
        have HX3 : Hid (idxE es 0 = (k : Int)) := HX2.out
        clear HX2
        go_wp2
        go_ret
        exact ⟨by rw [HX3.out]; rfl, HB1.out⟩
    · have hk' : ¬ (k : Int) < (es.length : Int) := by omega
      obtain rfl : k = es.length := by omega
      have HX3 : Hid (idxE es 0 = -1) := by rw [Hid, hx, List.drop_length]; rfl
      clear hb hx HX
      go_wp2
      go_ret
      exact ⟨by rw [HX3.out]; rfl, HB.out⟩
theorem idxE_any (es : List En) (k : Nat) : decide (0 ≤ idxE es k) = es.any (fun e => !e.b) := by
  induction es generalizing k with
  | nil => simp [idxE]
  | cons e l ih =>
    rw [idxE, List.any_cons]
    cases he : e.b with
    | true => simp [ih]
    | false => simp
theorem contains_any (w : World) (b c n : Nat) (es : List En) (hn : n = es.length) (h : w.ownsRow b 57 2 (.slice (some ⟨b, 0, none⟩) es.length c) es.length (es.flatMap cellsE)) (hl : es.length ≤ 64) :
    Calls Tryd.prog 26 #[.slice (some ⟨b, 0, none⟩) n c, .func (.func 27) #[] #[]] w fun e w' => e = .returned (.bool (es.any (fun e => !e.b))) ∧ Below w.heap.size w w' := by
  subst hn
  have H := hidMk h
  clear h
  rw [← idxE_any es 0]
  go_enter Tryd.func26, Tryd.ntmps26
  go_wp2_with fail
  refine (index_any w b c es H.out hl _ rfl).mono ?_
  rintro e w1 ⟨rfl, hb⟩
  have HB := hidMk hb
  clear hb
  obtain ⟨z, HZ⟩ : ∃ z, Hid (idxE es 0 = z) := ⟨_, rfl⟩
  rw [HZ.out]
  go_wp2
  go_ret
  exact ⟨by rw [HZ.out]; rfl, HB.out⟩
def clr (e : En) : En := ⟨e.t, false⟩
/-- What becomes of a mark. -/
def MarkPost (w : World) (g b c : Nat) (tm mk : Int) (es es' : List En) (m : Int) (e : Ending) (w' : World) : Prop :=
  Ch w w' g b ∧ ((¬ (1 ≤ m ∧ (mk = 0 ∨ m = mk)) ∧ Bad 6 e ∧ GT w' g b c tm mk es) ∨
    (1 ≤ m ∧ (mk = 0 ∨ m = mk) ∧ ((es'.any (fun e => !e.b) = true ∧ Nothing e ∧ GT w' g b c tm m es') ∨
      (es'.any (fun e => !e.b) = false ∧ Goes w w' 3 0 (.slice none 0 0) 0 m e ∧ GT w' g b c tm 0 (es'.map clr)))))
theorem clear_step (es : List En) (k : Nat) (hk : k < es.length) (hi : k < ((es.take k).map clr ++ es.drop k).length) : ((es.take k).map clr ++ es.drop k).set k ⟨((es.take k).map clr ++ es.drop k)[k].t, false⟩ = (es.take (k + 1)).map clr ++ es.drop (k + 1) := by
  have hl : ((es.take k).map clr).length = k := by simp; omega
  have hg : ((es.take k).map clr ++ es.drop k)[k] = es[k] := by
    rw [List.getElem_append_right (by omega)]
    simp [hl]
    congr 1; omega
  rw [hg, List.set_append_right _ _ (by omega), hl, Nat.sub_self, List.drop_eq_getElem_cons hk, List.set_cons_zero, List.take_succ_eq_append_getElem hk, List.map_append, List.append_assoc]
  rfl
theorem markIn (w : World) (g b c : Nat) (tm mk : Int) (es : List En) (h : GT w g b c tm mk es) (hl : es.length ≤ 64) (i : Nat) (hi : i < es.length) (m : Int) (h1 : 1 ≤ m) (h2 : mk = 0 ∨ m = mk) :
    Calls Tryd.prog 18 #[.pointer (some ⟨g, 0, none⟩), .int .i64 i, .int .i64 m] w (MarkPost w g b c tm mk es (es.set i ⟨es[i].t, true⟩) m) := by
  obtain ⟨c0, c1, c2⟩ := h.cells
  obtain ⟨P1, Q1⟩ := h.putMark m
  obtain ⟨P2, Q2⟩ := P1.putB i hi true
  have hi' : (i : Int) < (es.length : Int) := by omega
  have sg := h.soft.1 1
  have sb := P1.soft.2 (i * 2 + 1)
  obtain ⟨-, d1⟩ := P1.at i hi
  obtain ⟨-, -, d2⟩ := P1.cells
  obtain ⟨-, -, x2⟩ := P2.cells
  rw [List.length_set] at x2
  have hlen : (es.set i ⟨es[i].t, true⟩).length = es.length := List.length_set
  have HL := hidMk hlen
  have HP2 := hidMk P2
  have HQ2 := hidMk (Q1.trans Q2)
  generalize es.set i ⟨es[i].t, true⟩ = es' at *
  generalize es[i] = q at *
  generalize hw1 : w.setCell ⟨g, 1, none⟩ (.int .i64 m) = w1 at *
  have HM2 : Hid (1 ≤ m ∧ (mk = 0 ∨ m = mk)) := ⟨h1, h2⟩
  have hm : ¬ m < 1 := by omega
  have hg1 : ((mk != 0) && (m != mk)) = false := by rcases h2 with rfl | rfl <;> simp
  clear h P1 P2 Q1 Q2 hlen
  have key : ∀ w2, Hid (w2 = w1.setCell ⟨b, i * 2 + 1, none⟩ (.bool true)) → w2.cell? ⟨g, 2, none⟩ = some (.slice (some ⟨b, 0, none⟩) es.length c) → Hid (GT w2 g b c tm m es') → Hid (Ch w w2 g b) → Calls Tryd.prog 18 #[.pointer (some ⟨g, 0, none⟩), .int .i64 i, .int .i64 m] w (MarkPost w g b c tm mk es es' m) := by
    intro w2 hw2 x2 HG2 HC2
    rw [Hid] at hw2
    go_enter Tryd.func18, Tryd.ntmps18
    have tail : ∀ (Q : Ending → World → Prop), (∀ bb w3, Hid (bb = es'.any (fun e => !e.b)) → Hid (GT w3 g b c tm m es') → Hid (Ch w w3 g b) → Q (.returned (.bool bb)) w3) → Calls Tryd.prog 26 #[.slice (some ⟨b, 0, none⟩) es.length c, .func (.func 27) #[] #[]] w2 Q := by
      intro Q hQ
      refine (contains_any w2 b c es.length es' HL.out.symm HG2.out.ent (by rw [HL.out]; exact hl)).mono ?_
      rintro e w3 ⟨rfl, hb⟩
      exact hQ _ w3 rfl (HG2.out.later hb) (HC2.out.trans (.of_below hb))
    have TL := hidMk tail
    clear tail
    rcases h2 with rfl | rfl
    all_goals
      go_wp2_with fail
      rw [← hw2]
      refine TL.out _ ?_
      intro bb w3 HBB HG3 HC3
      have HL2 : Hid (es.length = es'.length) := HL.out.symm
      obtain ⟨k0, k1, k2⟩ := HG3.out.cells
      rw [HL.out] at k2
      have s1 := HG3.out.soft.1 1
      have HG4 := hidMk (HG3.out.putMark 0).1
      have HC4 : Hid (Ch w (w3.setCell ⟨g, 1, none⟩ (.int .i64 0)) g b) := HC3.out.trans (HG3.out.putMark 0).2
      have k4 := HG4.out.cells.2.2
      rw [HL.out] at k4
      clear c0 c1 c2 d1 d2 x2 hw2 hw1 sb sg TL HG2 HC2
      cases hbb : bb with
      | true =>
        subst hbb
        go_wp2_with fail
        go_ret2
        exact ⟨HC3.out, .inr ⟨HM2.out.1, (by first | exact .inl rfl | exact .inr rfl), .inl ⟨HBB.out.symm, rfl, HG3.out⟩⟩⟩
      | false =>
        subst hbb
        go_wp2_with fail
        generalize hw4 : w3.setCell ⟨g, 1, none⟩ (.int .i64 0) = w4 at *
        clear hw4 k0 k1 k2 s1 k4 HG3 HC3 x2 HQ2 HP2
        go_loopg [51] es.length (fun gk i wr => ∃ (k : Nat), gk + k = es.length ∧ i = .int .i64 k ∧ GT wr g b c tm 0 ((es'.take k).map clr ++ es'.drop k) ∧ Ch w wr g b)
        case atStart => exact ⟨0, by omega, rfl, by simpa using HG4.out, HC4.out⟩
        case round =>
          obtain ⟨k, hgk, rfl, hg, hc⟩ := hrel
          have HG := hidMk hg
          have HC := hidMk hc
          by_cases hk : k < es.length
          · have hk' : (k : Int) < (es.length : Int) := by omega
            have hlen : ((es'.take k).map clr ++ es'.drop k).length = es.length := by simp [HL.out]; omega
            have hkl : k < ((es'.take k).map clr ++ es'.drop k).length := by omega
            obtain ⟨-, k1⟩ := hg.at k hkl
            obtain ⟨-, -, k2⟩ := hg.cells
            rw [hlen] at k2
            have s1 := hg.soft.2 (k * 2 + 1)
            have hp := hg.putB k hkl false
            rw [clear_step es' k (by rw [HL.out]; exact hk)] at hp
            have HP := hidMk hp.1
            have HPC : Hid (Ch w (wr.setCell ⟨b, k * 2 + 1, none⟩ (.bool false)) g b) := hc.trans hp.2
            generalize ((es'.take k).map clr ++ es'.drop k)[k] = qq at *
            clear hg hc hp hlen hkl HG HC HG4 HC4
            go_wp2
            go_roundg (gk - 1)
            case measure => omega
            case rel => exact ⟨k + 1, by omega, by go_num, HP.out, HPC.out⟩
          · have hk' : ¬ (k : Int) < (es.length : Int) := by omega
            obtain rfl : k = es.length := by omega
            have HG5 : Hid (GT wr g b c tm 0 (es'.map clr)) := by
              have := HG.out
              rw [List.take_of_length_le (by rw [HL.out]; exact Nat.le_refl _), List.drop_of_length_le (by rw [HL.out]; exact Nat.le_refl _), List.append_nil] at this
              exact this
            clear hg hc HG HG4 HC4
            go_wp2
            go_ret2
            exact ⟨HC.out.trans (.of_below (bel1 _ _)), .inr ⟨HM2.out.1, (by first | exact .inl rfl | exact .inr rfl), .inr ⟨HBB.out.symm, ⟨wr.heap.size, HC.out.size, by simp, by unfold OneE; go_simp⟩, HG5.out.later (bel1 _ _)⟩⟩⟩
  exact key _ rfl x2 HP2 HQ2
theorem takeMark_any (w : World) (g b c : Nat) (tm mk : Int) (es : List En) (h : GT w g b c tm mk es) (hl : es.length ≤ 64) (i : Nat) (hi : i < es.length) (m : Int) :
    Calls Tryd.prog 18 #[.pointer (some ⟨g, 0, none⟩), .int .i64 i, .int .i64 m] w (MarkPost w g b c tm mk es (es.set i ⟨es[i].t, true⟩) m) := by
  by_cases h1 : 1 ≤ m
  · by_cases h2 : mk = 0 ∨ m = mk
    · exact markIn w g b c tm mk es h hl i hi m h1 h2
    · obtain ⟨c0, c1, c2⟩ := h.cells
      have H := hidMk h
      have h3 : ¬ mk = 0 := fun e => h2 (.inl e)
      have h4 : ¬ m = mk := fun e => h2 (.inr e)
      have h5 : ¬ m < 1 := by omega
      have h3' : (mk != 0) = true := by simpa using h3
      have h4' : (m != mk) = true := by simpa using h4
      clear h
      go_enter Tryd.func18, Tryd.ntmps18
      go_wp2
      go_ret2
      exact ⟨.refl _ _ _, .inl ⟨by omega, rfl, H.out⟩⟩
  · obtain ⟨c0, c1, c2⟩ := h.cells
    have H := hidMk h
    have h5 : m < 1 := by omega
    clear h
    go_enter Tryd.func18, Tryd.ntmps18
    go_wp2
    go_ret2
    exact ⟨.refl _ _ _, .inl ⟨by omega, rfl, H.out⟩⟩
end Go.Proofs.YtpghfopbnicpmaaDoor
