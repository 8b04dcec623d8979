import Derived.Test.YtodkekmfadfjkaaGreatDoorSrF
namespace Go.Proofs.YtodkekmfadfjkaaGreatDoor
open Go.RowKit
set_option linter.unusedVariables false
set_option linter.unusedSimpArgs false
set_option maxRecDepth 100000

/-- What Row answers. -/
def RowPost (w : World) (l : List UInt8) (e : Ending) (w' : World) : Prop := Below w.heap.size w w' ∧
  ((∃ (t : Int) (vs : List V) (a : Option Addr) (c : Nat), e = .returned (.tuple #[.agg #[.int .i64 t, .slice a vs.length c], .nilIface]) ∧ VLies w' a vs ∧ Is l t vs ∧ ∀ t' vs', Is l t' vs' → t' = t ∧ vs' = vs) ∨
   ((∀ t' vs', ¬ Is l t' vs') ∧ e = .returned (.tuple #[.agg #[.int .i64 0, .slice none 0 0], .iface 31 (.int .i64 1)])))
set_option maxHeartbeats 4000000 in
theorem row_any (l : List UInt8) (w : World) (hl : l.length ≤ 268435456) (hS : ∀ W, Below w.heap.size w W → Vl.Sen W ∧ Vl.Sen3 W ∧ Vl.Tab W) :
    Calls Tryz.prog 4 #[.string ⟨l.toArray⟩] w (RowPost w l) := by
  have HS := hidMk hS
  have HG0 := hidMk (Own.new w 24 2 #[.int .i64 0, .slice none 0 0] rfl)
  have HB0 := hidMk (bel1 w (.cells #[.int .i64 0, .slice none 0 0] 24))
  have hsz0 : (w.alloc (.cells #[.int .i64 0, .slice none 0 0] 24)).heap.size = w.heap.size + 1 := by simp
  have FERR : Hid ((∀ t' vs', ¬ Is l t' vs') → ∀ w6, Below w.heap.size w w6 → RowPost w l (.returned (.tuple #[.agg #[.int .i64 0, .slice none 0 0], .iface 31 (.int .i64 1)])) w6) := fun hno w6 h6 => ⟨h6, .inr ⟨hno, rfl⟩⟩
  clear hS
  go_enter Tryz.func4, Tryz.ntmps4
  go_wp2_with fail
  generalize w.alloc (.cells #[.int .i64 0, .slice none 0 0] 24) = W0 at *
  refine (loose_any l W0 hl (fun W hW => HS.out W (HB0.out.trans (hW.mono HB0.out.size)))).mono ?_
  rintro e w1 ⟨b1, hr⟩
  have HW1 := hidMk (HB0.out.trans (b1.mono HB0.out.size))
  have HG1 := hidMk (HG0.out.later b1)
  have hlt := HG1.out.lt
  clear b1 HG0 HB0
  rcases hr with ⟨t, vs, a, c, rfl, hvl, hab, hfit, hlen, htr, huni⟩ | ⟨hno, rfl⟩
  · have HVL := hidMk hvl
    have HAB : Hid (∀ x, a = some x → some x.block ≠ some w.heap.size) := fun x hx e => by have := hab x hx; have := Option.some.inj e; omega
    have HFT := hidMk hfit
    have HTR := hidMk htr
    have HUN := hidMk huni
    have HBX := hidMk (bel1 w1 (.cells #[.int .i64 t, .slice a vs.length c] 24))
    have HX := hidMk (Own.new w1 24 2 #[.int .i64 t, .slice a vs.length c] rfl)
    have HGX := hidMk (HG1.out.later HBX.out)
    have HWX := hidMk (HW1.out.trans (HBX.out.mono HW1.out.size))
    have HVX := hidMk (HVL.out.later HBX.out)
    clear hvl hab hfit htr huni HG1 HW1 HVL
    go_wp2_with fail
    generalize w1.alloc (.cells #[.int .i64 t, .slice a vs.length c] 24) = WX at *
    refine (validRow_any ⟨t, vs⟩ a c WX HVX.out ⟨by show vs.length ≤ maxLen; unfold maxLen; omega, fun v hv => (HFT.out v hv).1⟩).mono ?_
    rintro e w2 ⟨rfl, b2⟩
    have HX2 := hidMk (HX.out.later b2)
    have HG2 := hidMk (HGX.out.later b2)
    have HW2 := hidMk (HWX.out.trans (b2.mono HWX.out.size))
    have HV2 := hidMk (HVX.out.later b2)
    have hlt2 := HG2.out.lt
    clear b2 HX HGX HWX HVX HBX
    have x0 := HX2.out.cell 0 (by decide)
    have x1 := HX2.out.cell 1 (by decide)
    have c0 := HG2.out.cell 0 (by decide)
    have c1 := HG2.out.cell 1 (by decide)
    have f0 := HG2.out.soft 0
    have f1 := HG2.out.soft 1
    cases hv : validR ⟨t, vs⟩ with
    | false =>
      have HNO : Hid (∀ t' vs', ¬ Is l t' vs') := fun t' vs' h => by
        obtain ⟨e1, e2⟩ := HUN.out t' vs' h
        have := h.1
        rw [e1, e2, hv] at this
        cases this
      clear hv
      go_wp2_with fail
      exact bodyPost_ret (v := .tuple #[.agg #[.int .i64 0, .slice none 0 0], .iface 31 (.int .i64 1)]) (by simp [results, Tryz.results4, go_sem, c0, c1]) rfl (FERR.out HNO.out _ ((HW2.out.setCell (p := ⟨w.heap.size, 0, none⟩) (Nat.le_refl _) _).setCell (p := ⟨w.heap.size, 1, none⟩) (Nat.le_refl _) _))
    | true =>
      have HV := hidMk hv
      clear hv
      have HSH := hidMk (show_run t vs a c w2 HV2.out HFT.out (by omega) HTR.out.1 HTR.out.2 (HS.out _ HW2.out).2.2)
      clear c0 c1 f0 f1
      go_wp2_with fail
      refine HSH.out.mono ?_
      rintro e w3 ⟨rfl, b3⟩
      have HX3 := hidMk (HX2.out.later b3)
      have HG3 := hidMk (HG2.out.later b3)
      have HW3 := hidMk (HW2.out.trans (b3.mono HW2.out.size))
      have HV3 := hidMk (HV2.out.later b3)
      have hlt3 := HG3.out.lt
      clear b3 HX2 HG2 HW2 HV2 HSH x0 x1 hlt2
      have x0 := HX3.out.cell 0 (by decide)
      have x1 := HX3.out.cell 1 (by decide)
      have c0 := HG3.out.cell 0 (by decide)
      have c1 := HG3.out.cell 1 (by decide)
      have f0 := HG3.out.soft 0
      have f1 := HG3.out.soft 1
      by_cases he : showR t vs = l
      · have FIN : Hid (∀ w6, Below w.heap.size w w6 → VLies w6 a vs → RowPost w l (.returned (.tuple #[.agg #[.int .i64 t, .slice a vs.length c], .nilIface])) w6) := fun w6 h6 hv6 => ⟨h6, .inl ⟨t, vs, a, c, rfl, hv6, ⟨HV.out, HFT.out, he⟩, HUN.out⟩⟩
        rw [he]
        clear he
        go_wp2_with fail
        refine bodyPost_ret (v := .tuple #[.agg #[.int .i64 t, .slice a vs.length c], .nilIface]) (by simp [results, Tryz.results4, go_sem, c0, c1]) rfl (FIN.out _ ((HW3.out.setCell (p := ⟨w.heap.size, 0, none⟩) (Nat.le_refl _) _).setCell (p := ⟨w.heap.size, 1, none⟩) (Nat.le_refl _) _) ?_)
        exact (HV3.out.grown (grown_set _ ⟨w.heap.size, 0, none⟩ _) HAB.out).grown (grown_set _ ⟨w.heap.size, 1, none⟩ _) HAB.out
      · have HNO : Hid (∀ t' vs', ¬ Is l t' vs') := fun t' vs' h => by
          obtain ⟨e1, e2⟩ := HUN.out t' vs' h
          exact he (by rw [← e1, ← e2]; exact h.2.2)
        generalize showR t vs = L at *
        have hn1 : (L == l) = false := by simpa using he
        have hn2 : ((⟨L.toArray⟩ : ByteArray).toList == (⟨l.toArray⟩ : ByteArray).toList) = false := by simpa using he
        clear he
        go_wp2_with fail
        exact bodyPost_ret (v := .tuple #[.agg #[.int .i64 0, .slice none 0 0], .iface 31 (.int .i64 1)]) (by simp [results, Tryz.results4, go_sem, c0, c1]) rfl (FERR.out HNO.out _ ((HW3.out.setCell (p := ⟨w.heap.size, 0, none⟩) (Nat.le_refl _) _).setCell (p := ⟨w.heap.size, 1, none⟩) (Nat.le_refl _) _))
  · have HNO := hidMk hno
    clear hno
    have c0 := HG1.out.cell 0 (by decide)
    have c1 := HG1.out.cell 1 (by decide)
    have f0 := HG1.out.soft 0
    have f1 := HG1.out.soft 1
    go_wp2_with fail
    exact bodyPost_ret (v := .tuple #[.agg #[.int .i64 0, .slice none 0 0], .iface 31 (.int .i64 1)]) (by simp [results, Tryz.results4, go_sem, c0, c1, hlt, Nat.ne_of_lt hlt]) rfl (FERR.out HNO.out _ (((HW1.out.setCell (p := ⟨w.heap.size, 0, none⟩) (Nat.le_refl _) _).setCell (p := ⟨w.heap.size, 1, none⟩) (Nat.le_refl _) _).alloc (by simp; omega) _))
end Go.Proofs.YtodkekmfadfjkaaGreatDoor
