import Derived.Test.YtodkekmfadfjkaaGreatDoorSrP
import Derived.Test.YtodkekmfadfjkaaGreatDoorSrB
namespace Go.Proofs.YtodkekmfadfjkaaGreatDoor
open Go.RowKit
set_option linter.unusedVariables false
set_option linter.unusedSimpArgs false
set_option maxRecDepth 100000

/-- The document's Show of a row. -/
theorem str_app (l m : List UInt8) : ((⟨l.toArray⟩ : ByteArray) ++ ⟨m.toArray⟩) = ⟨(l ++ m).toArray⟩ := by
  apply ByteArray.ext
  simp
theorem shB_eq (v : V) : shB v = ⟨(sh v).toArray⟩ := by unfold sh; simp
set_option maxHeartbeats 4000000 in
theorem showD_run (t : Int) (vs : List V) (a : Option Addr) (c : Nat) (w : World) (hl : VLies w a vs) (hf : ∀ v ∈ vs, FitV v) (hn : vs.length ≤ 1073741824) (ht0 : -9223372036854775808 ≤ t) (ht1 : t ≤ 9223372036854775807) :
    Calls Tryz.prog 10 #[.agg #[.int .i64 t, .slice a vs.length c]] w fun e w' => e = .returned (.string ⟨(showR t vs).toArray⟩) ∧ Below w.heap.size w w' := by
  have HL := hidMk hl
  have HF := hidMk hf
  have HIL := hidMk (Lib.itoa_length_le t ht0 ht1)
  have HST : Hid (∀ W, Calls Tryz.prog 21 #[.agg #[.int .i64 1, .int .i64 t, .string ⟨#[]⟩]] W fun e w' => e = .returned (.string ⟨(Lib.itoa t).toArray⟩) ∧ Below W.heap.size W w') := fun W => by
    have h1 : Vl.showB 1 t ⟨#[]⟩ = ⟨(Lib.itoa t).toArray⟩ := by
      unfold Vl.showB
      have hv : Vl.validB 1 t ⟨#[]⟩ = true := by unfold Vl.validB; simp
      rw [if_pos hv]; rfl
    have q := Vl.refShow_any 1 t ⟨#[]⟩ W (Nat.zero_le _) ht0 ht1
    rw [h1] at q
    exact q
  have HB0 := hidMk (bel1 w (.cells #[.int .i64 t, .slice a vs.length c] 24))
  have x1 : (w.alloc (.cells #[.int .i64 t, .slice a vs.length c] 24)).cell? ⟨w.heap.size, 1, none⟩ = some (.slice a vs.length c) := by rw [Lib.cell_of_heap (heap_new _ _)]; rfl
  clear hl hf
  go_enter Tryz.func10, Tryz.ntmps10
  go_wp2_with fail
  generalize w.alloc (.cells #[.int .i64 t, .slice a vs.length c] 24) = W0 at *
  refine (HST.out W0).mono ?_
  rintro e w1 ⟨rfl, b1⟩
  have HB1 := hidMk b1
  have HX1 := hidMk x1
  clear b1 HST x1
  have y1 := cell_later HB1.out HX1.out
  have HA1 : Hid (((⟨(Lib.itoa t).toArray⟩ : ByteArray) ++ ⟨#[58]⟩) = ⟨(Lib.itoa t ++ 58 :: tl (vs.take 0)).toArray⟩) := str_app _ [58]
  have hb1 : (9223372036854775807 < (⟨(Lib.itoa t).toArray⟩ : ByteArray).size + 1) = False := by
    have : (⟨(Lib.itoa t).toArray⟩ : ByteArray).size = (Lib.itoa t).length := rfl
    have := HIL.out
    simp only [eq_iff_iff, iff_false]; omega
  generalize (⟨(Lib.itoa t).toArray⟩ : ByteArray) = S0 at *
  obtain ⟨S1, ha1⟩ : ∃ S1, S0 ++ ⟨#[58]⟩ = S1 := ⟨_, rfl⟩
  rw [ha1] at HA1
  go_wp2_with fail
  go_loopw [3, 4] (fun s i wr => ∃ k : Nat, k ≤ vs.length ∧ i = .int .i64 k ∧ (∃ S : ByteArray, s = .string S ∧ S = ⟨(Lib.itoa t ++ 58 :: tl (vs.take k)).toArray⟩) ∧ Below W0.heap.size W0 wr) (fun s i _ => vs.length - (intOf i).toNat)
  case atStart => exact ⟨0, Nat.zero_le _, rfl, ⟨S1, rfl, HA1.out⟩, HB1.out⟩
  case round =>
    obtain ⟨k, hk, rfl, ⟨S, rfl, hS⟩, hb⟩ := hrel
    have HS := hidMk hS
    have HB := hidMk hb
    have y2 := cell_later HB.out HX1.out
    have HBW := hidMk (HB0.out.trans (hb.mono HB0.out.size))
    clear hb y1 hS hb1 ha1 HA1
    by_cases hlt : k < vs.length
    · obtain ⟨b, off, rfl, e1, e2, e3⟩ := (HL.out.later HBW.out) k hlt
      have hki : (k : Int) < (vs.length : Int) := by omega
      have HFK := hidMk (HF.out _ (List.getElem_mem hlt))
      obtain ⟨X, hX⟩ : ∃ X, shB vs[k] = X := ⟨_, rfl⟩
      have HX : Hid (X = ⟨(sh vs[k]).toArray⟩) := by rw [Hid, ← hX]; exact shB_eq _
      have hXs : X.size ≤ 200 := by rw [← hX]; exact sh_len _ HFK.out
      have hSs : S.size ≤ 216895848470 := by
        rw [HS.out]
        show (Lib.itoa t ++ 58 :: tl (vs.take k)).length ≤ _
        rw [List.length_append, List.length_cons]
        have q1 := tl_len (vs.take k) (fun v hv => HF.out v (List.mem_of_mem_take hv))
        have q2 := HIL.out
        rw [List.length_take] at q1
        omega
      have HSH : Hid (Calls Tryz.prog 21 #[.agg #[.int .i64 vs[k].k, .int .i64 vs[k].n, .string vs[k].s]] wr fun e w' => e = .returned (.string X) ∧ Below wr.heap.size wr w') := by
        rw [Hid, ← hX]
        exact Vl.refShow_any vs[k].k vs[k].n vs[k].s wr HFK.out.1 HFK.out.2.1 HFK.out.2.2
      have HTK : Hid (tl (vs.take (k + 1)) = tl (vs.take k) ++ (sep (vs.take k) ++ 32 :: sh vs[k])) := by rw [Hid, List.take_succ_eq_append_getElem hlt, tl_snoc]
      by_cases hk0 : k = 0
      · have hk0' : ¬ (0 : Int) < (k : Int) := by omega
        have HSP : Hid (sep (vs.take k) = []) := by rw [hk0]; rfl
        clear hk0
        obtain ⟨S2, ha2⟩ : ∃ S2, S ++ ⟨#[32]⟩ = S2 := ⟨_, rfl⟩
        have z2 : S2.size = S.size + 1 := by rw [← ha2]; simp; rfl
        obtain ⟨S3, ha3⟩ : ∃ S3, S2 ++ X = S3 := ⟨_, rfl⟩
        have HE : Hid (S3 = ⟨(Lib.itoa t ++ 58 :: tl (vs.take (k + 1))).toArray⟩) := by
          rw [Hid, ← ha3, ← ha2, HS.out, HX.out, HTK.out, HSP.out, show (⟨#[32]⟩ : ByteArray) = ⟨[32].toArray⟩ from rfl, str_app, str_app]; simp
        have q1 : (9223372036854775807 < S.size + 1) = False := by simp only [eq_iff_iff, iff_false]; omega
        have q2 : (9223372036854775807 < S2.size + X.size) = False := by simp only [eq_iff_iff, iff_false]; omega
        clear hX z2
        go_wp2_with fail
        refine HSH.out.mono ?_
        rintro e w2 ⟨rfl, b2⟩
        have HB2 := hidMk (HB.out.trans (b2.mono HB.out.size))
        clear b2 HSH e1 e2 e3 y2
        go_wp2_with fail
        go_roundw
        case rel => exact ⟨k + 1, by omega, by go_num, ⟨S3, rfl, HE.out⟩, HB2.out⟩
        case measure => simp [intOf]; omega
      · have hk0' : (0 : Int) < (k : Int) := by omega
        have HSP : Hid (sep (vs.take k) = [44]) := by
          rw [Hid, sep, if_neg]
          simp [List.isEmpty_iff]
          exact ⟨hk0, fun h => by rw [h] at hlt; simp at hlt⟩
        clear hk0
        obtain ⟨S1', ha1'⟩ : ∃ S1', S ++ ⟨#[44]⟩ = S1' := ⟨_, rfl⟩
        have z1 : S1'.size = S.size + 1 := by rw [← ha1']; simp; rfl
        obtain ⟨S2, ha2⟩ : ∃ S2, S1' ++ ⟨#[32]⟩ = S2 := ⟨_, rfl⟩
        have z2 : S2.size = S1'.size + 1 := by rw [← ha2]; simp; rfl
        obtain ⟨S3, ha3⟩ : ∃ S3, S2 ++ X = S3 := ⟨_, rfl⟩
        have HE : Hid (S3 = ⟨(Lib.itoa t ++ 58 :: tl (vs.take (k + 1))).toArray⟩) := by
          rw [Hid, ← ha3, ← ha2, ← ha1', HS.out, HX.out, HTK.out, HSP.out, show (⟨#[32]⟩ : ByteArray) = ⟨[32].toArray⟩ from rfl, show (⟨#[44]⟩ : ByteArray) = ⟨[44].toArray⟩ from rfl, str_app, str_app, str_app]; simp
        have q1 : (9223372036854775807 < S.size + 1) = False := by simp only [eq_iff_iff, iff_false]; omega
        have q3 : (9223372036854775807 < S1'.size + 1) = False := by simp only [eq_iff_iff, iff_false]; omega
        have q2 : (9223372036854775807 < S2.size + X.size) = False := by simp only [eq_iff_iff, iff_false]; omega
        clear hX z1 z2
        go_wp2_with fail
        refine HSH.out.mono ?_
        rintro e w2 ⟨rfl, b2⟩
        have HB2 := hidMk (HB.out.trans (b2.mono HB.out.size))
        clear b2 HSH e1 e2 e3 y2
        go_wp2_with fail
        go_roundw
        case rel => exact ⟨k + 1, by omega, by go_num, ⟨S3, rfl, HE.out⟩, HB2.out⟩
        case measure => simp [intOf]; omega
    · obtain rfl : k = vs.length := by omega
      have hki : ¬ ((vs.length : Nat) : Int) < (vs.length : Int) := by omega
      go_wp2_with fail
      go_ret
      exact ⟨by rw [HS.out, List.take_of_length_le (Nat.le_refl _)]; rfl, HBW.out⟩
end Go.Proofs.YtodkekmfadfjkaaGreatDoor
