import Derived.Test.YtpghfopbnicpmaaDoorGtU
namespace Go.Proofs.YtpghfopbnicpmaaDoor
open Go.RowKit
set_option linter.unusedVariables false
set_option linter.unusedSimpArgs false
set_option maxRecDepth 100000
set_option maxHeartbeats 2000000

theorem GR.putMark {w : World} {g p q cp cq : Nat} {tm mk : Int} {es : List En} (h : GR w g p q cp cq tm mk es) (i : Nat) (hi : i < es.length) (m : Int) (hm : mk = m ∨ ∀ e ∈ es, e.b = false) : GR (w.setCell ⟨q, i, none⟩ (.int .i64 m)) g p q cp cq tm m (es.set i ⟨es[i].t, true⟩) ∧ Ch3 w (w.setCell ⟨q, i, none⟩ (.int .i64 m)) g p q := by
  obtain ⟨h1, h2⟩ := h.marks.put i (.int .i64 m)
  refine ⟨⟨?_, ?_, ?_, h.n1, h.n2, h.n3⟩, .grown h2 (.inr (.inr rfl))⟩
  · rw [List.length_set]; exact h.own.grown h2 (fun e => h.n2 (Option.some.inj e).symm)
  · rw [List.length_set, timesL_set]
    have : (timesL es).set i (.int .i64 es[i].t) = timesL es := set_same _ _ _ (by unfold timesL; simp [hi])
    rw [this]
    exact h.times.grown h2 h.n3
  · rw [List.length_set, marksL_set]
    have : marksL mk es = marksL m es := by
      rcases hm with rfl | hm
      · rfl
      · unfold marksL
        apply List.map_congr_left
        intro e he
        rw [hm e he]; rfl
    rw [← this]
    exact h1
theorem clrTimes (es : List En) : timesL (es.map clr) = timesL es := by unfold timesL; rw [List.map_map]; rfl
theorem clrMarks (mk mk' : Int) (es : List En) : marksL mk (es.map clr) = marksL mk' (es.map clr) := by
  unfold marksL; rw [List.map_map, List.map_map]
  apply List.map_congr_left
  intro e _
  rfl
def MarkD (w : World) (g p q cp cq : Nat) (tm mk : Int) (es es' : List En) (m : Int) (e : Ending) (w' : World) : Prop :=
  Ch3 w w' g p q ∧ ((¬ (1 ≤ m ∧ (mk = 0 ∨ m = mk)) ∧ NothingD 6 e ∧ GR w' g p q cp cq tm mk es) ∨
    (1 ≤ m ∧ (mk = 0 ∨ m = mk) ∧ ((es'.any (fun e => !e.b) = true ∧ NothingD 0 e ∧ GR w' g p q cp cq tm m es') ∨
      (es'.any (fun e => !e.b) = false ∧ GoesD w w' 3 0 (.slice none 0 0) 0 m e ∧ GR w' g p q cp cq tm 0 (es'.map clr)))))
/-- Whether the first 'k' of the channels, the one numbered 'i' aside, wait. -/
def aside (es : List En) (i k : Nat) : Bool := ((es.set i ⟨0, true⟩).take k).all (fun e => e.b)
theorem aside_succ (es : List En) (i k : Nat) (hk : k < es.length) : aside es i (k + 1) = (aside es i k && (decide (k = i) || es[k].b)) := by
  unfold aside
  rw [take_all _ _ k (by rw [List.length_set]; exact hk), List.getElem_set]
  by_cases h : i = k
  · subst h; simp
  · rw [if_neg h]; simp [Ne.symm h]
theorem aside_all (es : List En) (i : Nat) (t : Int) : aside es i es.length = !(es.set i ⟨t, true⟩).any (fun e => !e.b) := by
  unfold aside
  have h1 : (es.set i ⟨0, true⟩).take es.length = es.set i ⟨0, true⟩ := List.take_of_length_le (by rw [List.length_set]; exact Nat.le_refl _)
  rw [h1]
  have h2 : ∀ l : List En, l.all (fun e => e.b) = !l.any (fun e => !e.b) := fun l => by
    induction l with
    | nil => rfl
    | cons e l ih => rw [List.all_cons, List.any_cons, ih]; cases e.b <;> simp
  rw [h2]
  congr 1
  have h3 : ∀ l : List En, l.any (fun e => !e.b) = (l.map (fun e => e.b)).any (fun b => !b) := fun l => by rw [List.any_map]; rfl
  rw [h3, h3, List.map_set, List.map_set]
theorem clear_marks (es : List En) (k : Nat) (hk : k < es.length) (m : Int) : (marksL m ((es.take k).map clr ++ es.drop k)).set k (.int .i64 0) = marksL m ((es.take (k + 1)).map clr ++ es.drop (k + 1)) := by
  have hl : k < ((es.take k).map clr ++ es.drop k).length := by simp; omega
  have := marksL_set m ((es.take k).map clr ++ es.drop k) k ⟨((es.take k).map clr ++ es.drop k)[k].t, false⟩
  rw [clear_step es k hk hl] at this
  exact this.symm
theorem GR.wipe {w : World} {g p q cp cq : Nat} {tm m : Int} {es : List En} {k : Nat} (hk : k < es.length) (h : GR w g p q cp cq tm m ((es.take k).map clr ++ es.drop k)) : GR (w.setCell ⟨q, k, none⟩ (.int .i64 0)) g p q cp cq tm m ((es.take (k + 1)).map clr ++ es.drop (k + 1)) ∧ Ch3 w (w.setCell ⟨q, k, none⟩ (.int .i64 0)) g p q := by
  have hl : ((es.take k).map clr ++ es.drop k).length = es.length := by simp; omega
  have hl2 : ((es.take (k + 1)).map clr ++ es.drop (k + 1)).length = es.length := by simp; omega
  have ht : ∀ j, timesL ((es.take j).map clr ++ es.drop j) = timesL es := fun j => by
    unfold timesL
    rw [List.map_append, List.map_map]
    have : List.map ((fun e => Value.int .i64 e.t) ∘ clr) (es.take j) = List.map (fun e => Value.int .i64 e.t) (es.take j) := rfl
    rw [this, ← List.map_append, List.take_append_drop]
  obtain ⟨h1, h2⟩ := h.marks.put k (.int .i64 0)
  have a1 := h.own
  have a2 := h.times
  rw [hl] at a1 a2 h1
  refine ⟨⟨?_, ?_, ?_, h.n1, h.n2, h.n3⟩, .grown h2 (.inr (.inr rfl))⟩
  · rw [hl2]; exact a1.grown h2 (fun e => h.n2 (Option.some.inj e).symm)
  · rw [hl2, ht]; rw [ht] at a2; exact a2.grown h2 h.n3
  · rw [hl2, ← clear_marks es k hk m]; exact h1
theorem takeD_markIn (w : World) (g p q cp cq : Nat) (tm mk : Int) (es : List En) (h : GR w g p q cp cq tm mk es) (hw : Waits mk es) (hl : es.length ≤ 64) (i : Nat) (hi : i < es.length) (hs : openB es (i : Int) = true) (rt : Int) (av : Option Addr) (n cv : Nat) (t m : Int) (hm1 : 1 ≤ m) (hmk : mk = 0 ∨ m = mk) :
    Calls Tryd.prog 11 #[.pointer (some ⟨g, 0, none⟩), .int .i64 i, .agg #[.int .i64 3, .int .i64 rt, .slice av n cv, .int .i64 t, .int .i64 m]] w (MarkD w g p q cp cq tm mk es (es.set i ⟨es[i].t, true⟩) m) := by
  have HOP := hidMk (fun w' (h' : GR w' g p q cp cq tm mk es) => openD_any w' g p q cp cq tm mk es h' hw (i : Int))
  have HS := hidMk hs
  have HW := hidMk hw
  have HMK := hidMk hmk
  have HPUT : Hid (∀ w', GR w' g p q cp cq tm mk es → GR (w'.setCell ⟨q, i, none⟩ (.int .i64 m)) g p q cp cq tm m (es.set i ⟨es[i].t, true⟩) ∧ Ch3 w' (w'.setCell ⟨q, i, none⟩ (.int .i64 m)) g p q) := fun w' h' => h'.putMark i hi m (by
    rcases hmk with e | e
    · exact .inr (hw.2.1 e)
    · exact .inl e.symm)
  have HALL := hidMk (aside_all es i es[i].t)
  have hi' : (i : Int) < (es.length : Int) := by omega
  have hlen : (es.set i ⟨es[i].t, true⟩).length = es.length := List.length_set
  have HL := hidMk hlen
  obtain ⟨w1, hw1⟩ : ∃ w1, w1 = w.alloc (.cells #[.int .i64 3, .int .i64 rt, .slice av n cv, .int .i64 t, .int .i64 m] 36) := ⟨_, rfl⟩
  have HB1 : Hid (Below w.heap.size w w1) := by unfold Hid; rw [hw1]; exact bel1 _ _
  have h1 : GR w1 g p q cp cq tm mk es := h.later HB1.out
  have H1 := hidMk h1
  obtain ⟨c0, c1, c2⟩ := h1.cells
  have d0 : w1.cell? ⟨w.heap.size, 0, none⟩ = some (.int .i64 3) := by rw [hw1]; go_simp
  have d4 : w1.cell? ⟨w.heap.size, 4, none⟩ = some (.int .i64 m) := by rw [hw1]; go_simp
  have HLT : Hid (g < w.heap.size ∧ p < w.heap.size ∧ q < w.heap.size) := ⟨h.own.lt, h.times.lt, h.marks.lt⟩
  have hm0 : ¬ m < 1 := by omega
  clear h h1 hs hw hmk hlen
  generalize es.set i ⟨es[i].t, true⟩ = es' at *
  go_enter Tryd.func11, Tryd.ntmps11
  go_upto_region 1 with fail
  rw [← hw1]
  clear hw1
  go_wp2_with fail
  refine (HOP.out _ H1.out).mono ?_
  rintro e w2 ⟨rfl, rfl⟩
  rw [HS.out]
  go_wp2_with fail
  go_loopg [12, 13] es.length (fun gk al j wr => ∃ k : Nat, gk + k = es.length ∧ j = .int .i64 k ∧ al = .bool (aside es i k) ∧ GR wr g p q cp cq tm mk es ∧ Below w.heap.size w wr ∧ wr.cell? ⟨w.heap.size, 4, none⟩ = some (.int .i64 m))
  case atStart => exact ⟨0, by omega, rfl, rfl, H1.out, HB1.out, d4⟩
  case round =>
    clear H1 HB1 c0 c1 c2 d0 d4
    obtain ⟨k, hgk, rfl, rfl, hg, hb, d4⟩ := hrel
    have HG := hidMk hg
    have HB := hidMk hb
    obtain ⟨c0, c1, c2⟩ := hg.cells
    by_cases hk : k < es.length
    · have hk' : (k : Int) < (es.length : Int) := by omega
      have f0 := hg.markAt k hk
      have HAS : Hid (aside es i (k + 1) = (aside es i k && (decide (k = i) || es[k].b))) := aside_succ es i k hk
      have hz : ((if es[k].b = true then mk else 0) == m) = es[k].b ∧ (((if es[k].b = true then mk else 0) != 0) && ((if es[k].b = true then mk else 0) != m)) = false := by
        cases hb : es[k].b with
        | true =>
          have hne : mk ≠ 0 := fun e => by have := HW.out.2.1 e es[k] (List.getElem_mem hk); rw [hb] at this; cases this
          have : m = mk := by rcases HMK.out with e | e; exact absurd e hne; exact e
          subst this
          simp
        | false => simp; omega
      have d4' : wr.drew.drew.cell? ⟨w.heap.size, 4, none⟩ = some (.int .i64 m) := d4
      have HG2 : Hid (GR wr.drew.drew g p q cp cq tm mk es) := HG.out.drew.drew
      have HB2 : Hid (Below w.heap.size w wr.drew.drew) := HB.out.drew.drew
      have D4 := hidMk d4'
      clear d4' HG HB hg hb
      generalize (if es[k].b = true then mk else 0) = z at *
      generalize es[k].b = qb at *
      generalize aside es i k = ab at *
      obtain ⟨z1, z2⟩ := hz
      have z3 : z = 0 ∨ (¬ z = 0 ∧ z = m) := by
        by_cases h0 : z = 0
        · exact .inl h0
        · right; refine ⟨h0, ?_⟩
          simp [h0] at z2; exact z2
      clear z2
      cases ab with
      | false =>
        rcases z3 with rfl | ⟨z4, rfl⟩
        · go_wp2_with fail
          go_region
          go_wp2_with fail
          go_region
          go_wp2_with fail
          go_roundg (gk - 1)
          case measure => omega
          case rel => exact ⟨k + 1, by omega, by go_num, by rw [HAS.out]; rfl, HG2.out, HB2.out, D4.out⟩
        · have z5 : (z != 0) = true := by simpa using z4
          go_wp2_with fail
          go_region
          go_wp2_with fail
          go_region
          go_wp2_with fail
          go_roundg (gk - 1)
          case measure => omega
          case rel => exact ⟨k + 1, by omega, by go_num, by rw [HAS.out]; rfl, HG2.out, HB2.out, D4.out⟩
      | true =>
        by_cases hki : k = i
        · subst hki
          rcases z3 with rfl | ⟨z4, rfl⟩
          · go_wp2_with fail
            go_region
            go_wp2_with fail
            go_region
            go_wp2_with fail
            go_roundg (gk - 1)
            case measure => omega
            case rel => exact ⟨k + 1, by omega, by go_num, by rw [HAS.out]; simp, HG2.out, HB2.out, D4.out⟩
          · have z5 : (z != 0) = true := by simpa using z4
            go_wp2_with fail
            go_region
            go_wp2_with fail
            go_region
            go_wp2_with fail
            go_roundg (gk - 1)
            case measure => omega
            case rel => exact ⟨k + 1, by omega, by go_num, by rw [HAS.out]; simp, HG2.out, HB2.out, D4.out⟩
        · have hkid : ((k : Int) == (i : Int)) = false := by simp; omega
          rcases z3 with rfl | ⟨z4, rfl⟩
          · go_wp2_with fail
            go_region
            go_wp2_with fail
            go_region
            go_wp2_with fail
            go_roundg (gk - 1)
            case measure => omega
            case rel => exact ⟨k + 1, by omega, by go_num, by rw [HAS.out]; simp [hki, ← z1], HG2.out, HB2.out, D4.out⟩
          · have z5 : (z != 0) = true := by simpa using z4
            go_wp2_with fail
            go_region
            go_wp2_with fail
            go_region
            go_wp2_with fail
            go_roundg (gk - 1)
            case measure => omega
            case rel => exact ⟨k + 1, by omega, by go_num, by rw [HAS.out]; simp [hki, ← z1], HG2.out, HB2.out, D4.out⟩
    · have hk' : ¬ (k : Int) < (es.length : Int) := by omega
      obtain rfl : k = es.length := by omega
      rw [HALL.out]
      obtain ⟨an, HAN⟩ : ∃ an, Hid (es'.any (fun e => !e.b) = an) := ⟨_, rfl⟩
      rw [HAN.out]
      obtain ⟨P1, P2⟩ := HPUT.out wr hg
      have q0 := hg.markAt i hi
      have q1 := hg.marks.soft i
      generalize (if es[i].b = true then mk else 0) = z0 at *
      have HG5 : Hid (GR (wr.setCell ⟨q, i, none⟩ (.int .i64 m)).drew g p q cp cq tm m es') := P1.drew
      have HC5 : Hid (Ch3 w (wr.setCell ⟨q, i, none⟩ (.int .i64 m)).drew g p q) := ((Ch3.of_below hb).trans P2).drew
      have d5 : (wr.setCell ⟨q, i, none⟩ (.int .i64 m)).drew.cell? ⟨w.heap.size, 4, none⟩ = some (.int .i64 m) := (grown_set wr ⟨q, i, none⟩ (.int .i64 m)).cell d4 (fun e => by have := Option.some.inj e; have := HLT.out; simp at *; omega)
      have D5 := hidMk d5
      clear P1 P2 hg hb HPUT d5
      cases an with
      | true =>
        go_wp2_with fail
        go_region
        go_wp2_with fail
        go_ret2
        exact ⟨HC5.out, .inr ⟨hm1, HMK.out, .inl ⟨HAN.out, rfl, HG5.out⟩⟩⟩
      | false =>
        go_wp2_with fail
        go_region
        go_wp2_with fail
        generalize (wr.setCell ⟨q, i, none⟩ (.int .i64 m)).drew = w5 at *
        clear c0 c1 c2 d4 q0 q1 HG HB
        go_loopg [14] es.length (fun gk j wr => ∃ k : Nat, gk + k = es.length ∧ j = .int .i64 k ∧ GR wr g p q cp cq tm m ((es'.take k).map clr ++ es'.drop k) ∧ Ch3 w wr g p q ∧ wr.cell? ⟨w.heap.size, 4, none⟩ = some (.int .i64 m))
        case atStart => exact ⟨0, by omega, rfl, by simpa using HG5.out, HC5.out, D5.out⟩
        case round =>
          clear HG5 HC5 D5
          obtain ⟨k, hgk, rfl, hg, hc, d4⟩ := hrel
          have HG := hidMk hg
          have HC := hidMk hc
          have hll : ((es'.take k).map clr ++ es'.drop k).length = es'.length := by simp; omega
          obtain ⟨c0, c1, c2⟩ := hg.cells
          rw [hll, HL.out] at c0 c1
          by_cases hk : k < es.length
          · have hk' : (k : Int) < (es.length : Int) := by omega
            have hk2 : k < es'.length := by rw [HL.out]; exact hk
            have q0 := hg.markAt k (by rw [hll]; exact hk2)
            generalize (if ((es'.take k).map clr ++ es'.drop k)[k].b = true then m else 0) = z1 at *
            have q1 := hg.marks.soft k
            obtain ⟨P1, P2⟩ := GR.wipe hk2 hg
            have HP1 := hidMk P1
            have HP2 := hidMk (hc.trans P2)
            have d5 : (wr.setCell ⟨q, k, none⟩ (.int .i64 0)).cell? ⟨w.heap.size, 4, none⟩ = some (.int .i64 m) := (grown_set wr ⟨q, k, none⟩ (.int .i64 0)).cell d4 (fun e => by have := Option.some.inj e; have := HLT.out; simp at *; omega)
            have D5 := hidMk d5
            clear P1 P2 hg hc HG HC d5 hll
            go_wp2_with fail
            go_roundg (gk - 1)
            case measure => omega
            case rel => exact ⟨k + 1, by omega, by go_num, HP1.out, HP2.out, D5.out⟩
          · have hk' : ¬ (k : Int) < (es.length : Int) := by omega
            have HF : Hid (GR wr g p q cp cq tm 0 (es'.map clr)) := by
              have h9 := HG.out
              rw [List.take_of_length_le (by rw [HL.out]; omega), List.drop_of_length_le (by rw [HL.out]; omega), List.append_nil] at h9
              exact ⟨h9.own, h9.times, by rw [clrMarks 0 m]; exact h9.marks, h9.n1, h9.n2, h9.n3⟩
            clear hg hc HG hll
            go_wp2_with fail
            go_ret2
            exact ⟨HC.out.trans (.of_below (bel1 _ _)), .inr ⟨hm1, HMK.out, .inr ⟨HAN.out, ⟨wr.heap.size, HC.out.size, by simp, by unfold OneE; go_simp⟩, HF.out.later (bel1 _ _)⟩⟩⟩
theorem takeD_mark (w : World) (g p q cp cq : Nat) (tm mk : Int) (es : List En) (h : GR w g p q cp cq tm mk es) (hw : Waits mk es) (hl : es.length ≤ 64) (i : Nat) (hi : i < es.length) (hs : openB es (i : Int) = true) (rt : Int) (av : Option Addr) (n cv : Nat) (t m : Int) :
    Calls Tryd.prog 11 #[.pointer (some ⟨g, 0, none⟩), .int .i64 i, .agg #[.int .i64 3, .int .i64 rt, .slice av n cv, .int .i64 t, .int .i64 m]] w (MarkD w g p q cp cq tm mk es (es.set i ⟨es[i].t, true⟩) m) := by
  have HOP := hidMk (fun w' (h' : GR w' g p q cp cq tm mk es) => openD_any w' g p q cp cq tm mk es h' hw (i : Int))
  have HS := hidMk hs
  have HW := hidMk hw
  have hi' : (i : Int) < (es.length : Int) := by omega
  obtain ⟨w1, hw1⟩ : ∃ w1, w1 = w.alloc (.cells #[.int .i64 3, .int .i64 rt, .slice av n cv, .int .i64 t, .int .i64 m] 36) := ⟨_, rfl⟩
  have HB1 : Hid (Below w.heap.size w w1) := by unfold Hid; rw [hw1]; exact bel1 _ _
  have h1 : GR w1 g p q cp cq tm mk es := h.later HB1.out
  have H1 := hidMk h1
  obtain ⟨c0, c1, c2⟩ := h1.cells
  have d0 : w1.cell? ⟨w.heap.size, 0, none⟩ = some (.int .i64 3) := by rw [hw1]; go_simp
  have d4 : w1.cell? ⟨w.heap.size, 4, none⟩ = some (.int .i64 m) := by rw [hw1]; go_simp
  have HLT : Hid (g < w.heap.size ∧ p < w.heap.size ∧ q < w.heap.size) := ⟨h.own.lt, h.times.lt, h.marks.lt⟩
  have HGR := hidMk h
  clear h h1 hs hw
  by_cases hm1 : m < 1
  · go_enter Tryd.func11, Tryd.ntmps11
    go_upto_region 1 with fail
    rw [← hw1]
    clear hw1
    go_wp2_with fail
    refine (HOP.out _ H1.out).mono ?_
    rintro e w2 ⟨rfl, rfl⟩
    rw [HS.out]
    go_wp2_with fail
    go_ret2
    exact ⟨Ch3.of_below HB1.out, .inl ⟨by omega, rfl, H1.out⟩⟩
  by_cases hmk : mk = 0 ∨ m = mk
  · exact takeD_markIn w g p q cp cq tm mk es HGR.out HW.out hl i hi HS.out rt av n cv t m (by omega) hmk
  · have hmk0 : mk ≠ 0 := fun e => hmk (.inl e)
    have hmk1 : m ≠ mk := fun e => hmk (.inr e)
    go_enter Tryd.func11, Tryd.ntmps11
    go_upto_region 1 with fail
    rw [← hw1]
    clear hw1
    go_wp2_with fail
    refine (HOP.out _ H1.out).mono ?_
    rintro e w2 ⟨rfl, rfl⟩
    rw [HS.out]
    go_wp2_with fail
    go_loopg [12, 13] es.length (fun gk al j wr => ∃ (k : Nat) (ab : Bool), gk + k = es.length ∧ j = .int .i64 k ∧ al = .bool ab ∧ (∀ e ∈ es.take k, e.b = false) ∧ GR wr g p q cp cq tm mk es ∧ Below w.heap.size w wr ∧ wr.cell? ⟨w.heap.size, 4, none⟩ = some (.int .i64 m))
    case atStart => exact ⟨0, true, by omega, rfl, rfl, fun e he => by simp at he, H1.out, HB1.out, d4⟩
    case round =>
      clear H1 HB1 c0 c1 c2 d0 d4
      obtain ⟨k, ab, hgk, rfl, rfl, hno, hg, hb, d4⟩ := hrel
      have HG := hidMk hg
      have HB := hidMk hb
      obtain ⟨c0, c1, c2⟩ := hg.cells
      by_cases hk : k < es.length
      · have hk' : (k : Int) < (es.length : Int) := by omega
        have f0 := hg.markAt k hk
        have HTK : Hid (es.take (k + 1) = es.take k ++ [es[k]]) := List.take_succ_eq_append_getElem hk
        have HNO := hidMk hno
        clear hg hb hno
        cases hb : es[k].b with
        | true =>
          rw [hb, if_pos rfl] at f0
          have g0 : (mk != 0) = true := by simpa using hmk0
          have g1 : (mk != m) = true := by simpa using fun e => hmk1 e.symm
          go_wp2_with fail
          go_region
          go_wp2_with fail
          go_ret2
          exact ⟨Ch3.of_below HB.out.drew, .inl ⟨fun hh => hmk hh.2, rfl, HG.out.drew⟩⟩
        | false =>
          rw [hb, if_neg (by decide)] at f0
          have hmm : ((0 : Int) == m) = false := by simp; omega
          have HNK : Hid (∀ e ∈ es.take (k + 1), e.b = false) := by
            rw [Hid, HTK.out]
            intro e he
            rcases List.mem_append.1 he with he | he
            · exact HNO.out e he
            · rw [List.mem_singleton.1 he]; exact hb
          have d4' : wr.drew.drew.cell? ⟨w.heap.size, 4, none⟩ = some (.int .i64 m) := d4
          have HG2 : Hid (GR wr.drew.drew g p q cp cq tm mk es) := HG.out.drew.drew
          have HB2 : Hid (Below w.heap.size w wr.drew.drew) := HB.out.drew.drew
          have D4 := hidMk d4'
          clear d4' HG HB HNO HTK
          cases ab with
          | false =>
            go_wp2_with fail
            go_region
            go_wp2_with fail
            go_region
            go_wp2_with fail
            go_roundg (gk - 1)
            case measure => omega
            case rel => exact ⟨k + 1, false, by omega, by go_num, rfl, HNK.out, HG2.out, HB2.out, D4.out⟩
          | true =>
            by_cases hki : k = i
            · subst hki
              go_wp2_with fail
              go_region
              go_wp2_with fail
              go_region
              go_wp2_with fail
              go_roundg (gk - 1)
              case measure => omega
              case rel => exact ⟨k + 1, true, by omega, by go_num, rfl, HNK.out, HG2.out, HB2.out, D4.out⟩
            · have hkid : ((k : Int) == (i : Int)) = false := by simp; omega
              go_wp2_with fail
              go_region
              go_wp2_with fail
              go_region
              go_wp2_with fail
              go_roundg (gk - 1)
              case measure => omega
              case rel => exact ⟨k + 1, false, by omega, by go_num, rfl, HNK.out, HG2.out, HB2.out, D4.out⟩
      · exfalso
        rw [List.take_of_length_le (by omega)] at hno
        exact hmk0 (HW.out.2.2 hno)
end Go.Proofs.YtpghfopbnicpmaaDoor
