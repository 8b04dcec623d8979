import Derived.Test.YtplaplhmjpfbjaaGreatDoorXf1
import Derived.Test.YtplaplhmjpfbjaaGreatDoorDa1
import Derived.Deep.LoopGhost
namespace Go.Proofs.YtplaplhmjpfbjaaGreatDoor.Dc
open Go.RowKit
set_option linter.unusedVariables false
set_option linter.unusedSimpArgs false
set_option maxRecDepth 100000

theorem hidMk' {p : Prop} (h : p) : Hid p := h
theorem colIx_some {l : List Co} {nm : ByteArray} {j : Nat} (hj : j < l.length) (h : l[j].nm = nm) (hno : ∀ m (hm : m < l.length), m < j → l[m].nm ≠ nm) : colIx l nm = some j := by
  unfold colIx
  rw [List.findIdx?_eq_some_iff_getElem]
  exact ⟨hj, by simpa using h, fun m hm => by simpa using hno m (by omega) hm⟩
theorem colIx_none {l : List Co} {nm : ByteArray} (hno : ∀ m (hm : m < l.length), l[m].nm ≠ nm) : colIx l nm = none := by
  unfold colIx
  rw [List.findIdx?_eq_none_iff]
  intro x hx
  obtain ⟨i, hi, rfl⟩ := List.getElem_of_mem hx
  simpa using hno i hi
theorem nameEq (a b : ByteArray) : (a.toList == b.toList) = decide (a = b) := by
  by_cases e : a = b
  · rw [xeq e, decide_eq_true e]
  · rw [xne e, decide_eq_false e]
set_option maxHeartbeats 2000000 in
/-- Where the document finds a column. -/
theorem atD_any (nm : ByteArray) (a : Option Addr) (cc : Nat) (l : List Co) (w : World) (hc : ColsAt w a l) (hm : l.length ≤ maxLen) :
    Calls Tryz.prog 57 #[.slice a l.length cc, .string nm] w fun e w' => e = .returned (.int .i64 (ixI (colIx l nm))) ∧ Below w.heap.size w w' := by
  have HC := hidMk' hc
  have hmx : (l.length : Int) ≤ 9223372036854775807 := by unfold maxLen at hm; omega
  clear hc hm
  go_enter Tryz.func57, Tryz.ntmps57
  go_wp2
  go_loopw [5] (fun i w' => ∃ j : Nat, j ≤ l.length ∧ i = .int .i64 j ∧ Below w.heap.size w w' ∧ ∀ m (hm : m < l.length), m < j → l[m].nm ≠ nm) (fun i _ => l.length - (intOf i).toNat)
  case atStart => exact ⟨0, Nat.zero_le _, rfl, Below.refl _ _, fun m _ h => absurd h (by omega)⟩
  case round =>
    obtain ⟨j, hj, rfl, hb, hno⟩ := hrel
    have HB := hidMk' hb
    have HNO := hidMk' hno
    clear hb hno
    by_cases hlt : j < l.length
    · have hji : (j : Int) < (l.length : Int) := by omega
      obtain ⟨bb, off, rfl, e0, e1⟩ := (HC.out.later HB.out) j hlt
      have hbbl : bb < wr.heap.size := World.block_lt_of_cell? _ _ e0
      by_cases hn : l[j].nm = nm
      · have hq : (l[j].nm.toList == nm.toList) = true := xeq hn
        have F : Hid (ixI (colIx l nm) = (j : Int)) := by rw [Hid, colIx_some hlt hn HNO.out]; rfl
        generalize l[j].nm = NM at *
        generalize l[j].k = KK at *
        clear HC HNO hn
        go_wp2_with fail
        go_ret
        exact ⟨ret_i F.out.symm, HB.out⟩
      · have hq : (l[j].nm.toList == nm.toList) = false := xne hn
        have F : Hid (∀ m (hm : m < l.length), m < j + 1 → l[m].nm ≠ nm) := fun m hm hmj => by
          rcases Nat.lt_or_ge m j with h' | h'
          · exact HNO.out m hm h'
          · have : m = j := by omega
            subst this; exact hn
        generalize l[j].nm = NM at *
        generalize l[j].k = KK at *
        clear HC HNO hn
        go_wp2_with fail
        exact ⟨⟨j + 1, by omega, by go_num, HB.out, F.out⟩, by simp [intOf]; omega⟩
    · obtain rfl : j = l.length := by omega
      have F : Hid (ixI (colIx l nm) = (-1 : Int)) := by rw [Hid, colIx_none (fun m hm => HNO.out m hm hm)]; rfl
      clear HC HNO
      go_wp2_with fail
      go_ret
      exact ⟨ret_i F.out.symm, HB.out⟩
theorem nmX_bad {s : ByteArray} {j : Nat} (hj : j < s.size) (hs : wLen s.data.toList = j + wLen (s.data.toList.drop j)) (h0 : 0 < j → isLt (s[0]'(by omega)) = true) (hl : isLt s[j] = false) (hd : j = 0 ∨ isDg s[j] = false) : nmX s = false := by
  have hlen : s.data.toList.length = s.size := by simp
  have hk : j < s.data.toList.length := by omega
  have he : s.data.toList[j] = s[j] := by simp [ByteArray.getElem_eq_getElem_data]
  have hcons : s.data.toList = s[0]'(by omega) :: s.data.toList.drop 1 := by
    have e0 : s.data.toList[0]'(by omega) = s[0]'(by omega) := by simp [ByteArray.getElem_eq_getElem_data]
    rw [← e0]
    have := List.drop_eq_getElem_cons (l := s.data.toList) (i := 0) (by omega)
    simpa using this
  unfold nmX
  rw [wordX_of hcons]
  by_cases hdj : isDg s[j] = true
  · have hj0 : j = 0 := by
      rcases hd with h | h
      · exact h
      · rw [h] at hdj; cases hdj
    subst hj0
    rw [hdj]; rfl
  · have hw : isWb s.data.toList[j] = false := by rw [he, isWb_lt, hl]; simpa using hdj
    have := wLen_off hk hw hs
    rw [this, decide_eq_false (by omega)]
    simp
theorem nmX_good {s : ByteArray} (hs : wLen s.data.toList = s.size) (h0 : ∀ h : 0 < s.size, isLt (s[0]'h) = true) : nmX s = (decide (0 < s.size) && decide (s.size ≤ 12) && !decide (res s)) := by
  unfold nmX
  by_cases hz : 0 < s.size
  · have hlen : s.data.toList.length = s.size := by simp
    have hcons : s.data.toList = s[0] :: s.data.toList.drop 1 := by
      have e0 : s.data.toList[0]'(by omega) = s[0] := by simp [ByteArray.getElem_eq_getElem_data]
      rw [← e0]
      have := List.drop_eq_getElem_cons (l := s.data.toList) (i := 0) (by omega)
      simpa using this
    have hnd : isDg s[0] = false := by
      cases h : isDg s[0] with
      | false => rfl
      | true => have := isLt_dg _ h; rw [h0 hz] at this; cases this
    rw [wordX_of hcons, hs, hnd]
    simp [hz, Bool.and_comm]
  · have he : s = ⟨#[]⟩ := by
      apply ByteArray.ext
      apply Array.toList_inj.1
      exact List.eq_nil_of_length_eq_zero (by have : s.data.toList.length = s.size := by simp
                                              omega)
    subst he
    rfl
set_option maxHeartbeats 4000000 in
theorem namedD_any (s : ByteArray) (w : World) (hs : s.size ≤ 140737488355328) :
    Calls Tryz.prog 29 #[.string s] w fun e w' => e = .returned (.bool (nmX s)) ∧ w' = w := by
  have hlen : s.data.toList.length = s.size := by simp
  have HD : Hid (∀ (c : UInt8) (w : World), Calls Tryz.prog 52 #[.int .u8 c.toNat] w fun e w' => e = .returned (.bool (isDg c)) ∧ w' = w) := digitD_any
  have HL : Hid (∀ (c : UInt8) (w : World), Calls Tryz.prog 51 #[.int .u8 c.toNat] w fun e w' => e = .returned (.bool (isLt c)) ∧ w' = w) := letterD_any
  have HW : Hid (∀ W, Calls Tryz.prog 53 #[.string s] W fun e w' => e = .returned (.bool (decide (res s))) ∧ w' = W) := fun W => word_any s W
  go_enter Tryz.func29, Tryz.ntmps29
  go_wp2
  go_loopw [3] (fun i w' => ∃ j : Nat, j ≤ s.size ∧ i = .int .i64 j ∧ wLen s.data.toList = j + wLen (s.data.toList.drop j) ∧ (∀ h : 0 < s.size, 0 < j → isLt (s[0]'h) = true) ∧ w' = w) (fun i _ => s.size - (intOf i).toNat)
  case atStart => exact ⟨0, Nat.zero_le _, rfl, by simp, fun _ h => absurd h (by omega), rfl⟩
  case round =>
    obtain ⟨j, hj, rfl, hsum, h0, rfl⟩ := hrel
    have HS := hidMk' hsum
    have H0 := hidMk' h0
    clear hsum h0
    by_cases hlt : j < s.size
    · have hki : (j : Int) < (s.size : Int) := by omega
      have hk2 : j < s.data.toList.length := by omega
      have he : s.data.toList[j] = s[j] := by simp [ByteArray.getElem_eq_getElem_data]
      cases hlj : isLt s[j] with
      | true =>
        have F : Hid (wLen s.data.toList = (j + 1) + wLen (s.data.toList.drop (j + 1)) ∧ (∀ h : 0 < s.size, 0 < j + 1 → isLt (s[0]'h) = true)) := by
          refine ⟨wLen_on hk2 (by rw [he, isWb_lt, hlj]; rfl) HS.out, fun h _ => ?_⟩
          by_cases hj0 : j = 0
          · subst hj0; exact hlj
          · exact H0.out h (by omega)
        clear HS H0 he
        cases hdj : isDg s[j] <;>
        · go_wp2_with (first
            | (go_at_call 51; refine (HL.out _ _).mono ?_; rintro e w1 ⟨rfl, h⟩; (have := h.symm); subst this; rw [hlj])
            | (go_at_call 52; refine (HD.out _ _).mono ?_; rintro e w1 ⟨rfl, h⟩; (have := h.symm); subst this; rw [hdj]))
          exact ⟨⟨j + 1, by omega, by go_num, F.out.1, F.out.2, by first | rfl | trivial⟩, by simp [intOf]; omega⟩
      | false =>
        cases hdj : isDg s[j] with
        | false =>
          have F : Hid (nmX s = false) := nmX_bad hlt HS.out (fun h => H0.out (by omega) h) hlj (.inr hdj)
          clear HS H0 he
          by_cases hj0 : (j : Int) = 0
          · have hj0b : ((j : Int) == 0) = true := by rw [hj0]; rfl
            clear hj0
            go_wp2_with (first
              | (go_at_call 51; refine (HL.out _ _).mono ?_; rintro e w1 ⟨rfl, h⟩; (have := h.symm); subst this; rw [hlj])
              | (go_at_call 52; refine (HD.out _ _).mono ?_; rintro e w1 ⟨rfl, h⟩; (have := h.symm); subst this; rw [hdj]))
            go_ret
            exact ⟨ret_b F.out.symm, rfl⟩
          · have hj0b : ((j : Int) == 0) = false := by rw [beq_eq_false_iff_ne]; exact hj0
            clear hj0
            go_wp2_with (first
              | (go_at_call 51; refine (HL.out _ _).mono ?_; rintro e w1 ⟨rfl, h⟩; (have := h.symm); subst this; rw [hlj])
              | (go_at_call 52; refine (HD.out _ _).mono ?_; rintro e w1 ⟨rfl, h⟩; (have := h.symm); subst this; rw [hdj]))
            go_ret
            exact ⟨ret_b F.out.symm, rfl⟩
        | true =>
          by_cases hj0 : (j : Int) = 0
          · have F : Hid (nmX s = false) := nmX_bad hlt HS.out (fun h => H0.out (by omega) h) hlj (.inl (by omega))
            have hj0b : ((j : Int) == 0) = true := by rw [hj0]; rfl
            clear HS H0 he hj0
            go_wp2_with (first
              | (go_at_call 51; refine (HL.out _ _).mono ?_; rintro e w1 ⟨rfl, h⟩; (have := h.symm); subst this; rw [hlj])
              | (go_at_call 52; refine (HD.out _ _).mono ?_; rintro e w1 ⟨rfl, h⟩; (have := h.symm); subst this; rw [hdj]))
            go_ret
            exact ⟨ret_b F.out.symm, rfl⟩
          · have F : Hid (wLen s.data.toList = (j + 1) + wLen (s.data.toList.drop (j + 1)) ∧ (∀ h : 0 < s.size, 0 < j + 1 → isLt (s[0]'h) = true)) := ⟨wLen_on hk2 (by rw [he, isWb_lt, hdj]; simp) HS.out, fun h _ => H0.out h (by omega)⟩
            have hj0b : ((j : Int) == 0) = false := by rw [beq_eq_false_iff_ne]; exact hj0
            clear HS H0 he hj0
            go_wp2_with (first
              | (go_at_call 51; refine (HL.out _ _).mono ?_; rintro e w1 ⟨rfl, h⟩; (have := h.symm); subst this; rw [hlj])
              | (go_at_call 52; refine (HD.out _ _).mono ?_; rintro e w1 ⟨rfl, h⟩; (have := h.symm); subst this; rw [hdj]))
            exact ⟨⟨j + 1, by omega, by go_num, F.out.1, F.out.2, by first | rfl | trivial⟩, by simp [intOf]; omega⟩
    · obtain rfl : j = s.size := by omega
      have F : Hid (nmX s = (decide (0 < s.size) && decide (s.size ≤ 12) && !decide (res s))) := nmX_good (by
        have := HS.out
        rw [List.drop_eq_nil_of_le (by omega)] at this
        simpa [wLen] using this) (fun h => H0.out h h)
      have i1 : decide ((0 : Int) < (s.size : Int)) = decide (0 < s.size) := by rw [Bool.eq_iff_iff]; simp
      have i2 : decide ((s.size : Int) ≤ 12) = decide (s.size ≤ 12) := by rw [Bool.eq_iff_iff]; simp; omega
      generalize hA : decide (res s) = RB at *
      clear HS H0 HD HL hA
      have F2 : Hid (nmX s = (decide ((0 : Int) < (s.size : Int)) && decide ((s.size : Int) ≤ 12) && !RB)) := by rw [Hid, i1, i2]; exact F.out
      clear F i1 i2
      have k1 : decide ((0 : Int) < (s.size : Int)) = true ∧ (0 : Int) < (s.size : Int) ∨ decide ((0 : Int) < (s.size : Int)) = false ∧ ¬ (0 : Int) < (s.size : Int) := by
        by_cases z : (0 : Int) < (s.size : Int)
        · exact .inl ⟨decide_eq_true z, z⟩
        · exact .inr ⟨decide_eq_false z, z⟩
      have k2 : decide ((s.size : Int) ≤ 12) = true ∧ (s.size : Int) ≤ 12 ∨ decide ((s.size : Int) ≤ 12) = false ∧ ¬ (s.size : Int) ≤ 12 := by
        by_cases z : (s.size : Int) ≤ 12
        · exact .inl ⟨decide_eq_true z, z⟩
        · exact .inr ⟨decide_eq_false z, z⟩
      rcases k1 with ⟨e1, z1⟩ | ⟨e1, z1⟩ <;> rcases k2 with ⟨e2, z2⟩ | ⟨e2, z2⟩ <;> (try (exfalso; omega)) <;> rw [e1, e2] at F2 <;> cases RB <;> clear e1 e2 <;>
      · go_wp2_with fail
        refine (HW.out _).mono ?_
        rintro e w1 ⟨rfl, h⟩
        have := h.symm; subst this
        go_wp2_with fail
        go_ret
        exact ⟨ret_b F2.out.symm, rfl⟩
end Go.Proofs.YtplaplhmjpfbjaaGreatDoor.Dc
namespace Go.Proofs.YtplaplhmjpfbjaaGreatDoor.Dc
open Go.RowKit
set_option linter.unusedVariables false
set_option linter.unusedSimpArgs false
set_option maxRecDepth 100000
set_option maxHeartbeats 8000000 in
theorem columnsD_any (a : Option Addr) (c : Nat) (l : List Co) (w : World) (hc : ColsAt w a l) (hm : l.length ≤ maxLen) (hz : ∀ x ∈ l, x.nm.size ≤ 140737488355328) :
    Calls Tryz.prog 11 #[.slice a l.length c] w (ColPost w l) := by
  have HC := hidMk' hc
  have hmx : (l.length : Int) ≤ 9223372036854775807 := by unfold maxLen at hm; omega
  have HN : Hid (∀ x ∈ l, ∀ W, Calls Tryz.prog 29 #[.string x.nm] W fun e w' => e = .returned (.bool (nmX x.nm)) ∧ w' = W) := fun x hx W => namedD_any x.nm W (hz x hx)
  clear hc hm hz
  go_enter Tryz.func11, Tryz.ntmps11
  go_wp2
  go_loopw [3] (fun i w' => ∃ j : Nat, j ≤ l.length ∧ i = .int .i64 j ∧ Below w.heap.size w w' ∧ ∀ m (hm : m < l.length), m < j → colX l m l[m]) (fun i _ => l.length - (intOf i).toNat)
  case atStart => exact ⟨0, Nat.zero_le _, rfl, Below.refl _ _, fun m _ h => absurd h (by omega)⟩
  case round =>
    obtain ⟨j, hj, rfl, hb, hno⟩ := hrel
    have HB := hidMk' hb
    have HNO := hidMk' hno
    clear hb hno
    by_cases hlt : j < l.length
    · have hji : (j : Int) < (l.length : Int) := by omega
      obtain ⟨bb, off, rfl, e0, e1⟩ := (HC.out.later HB.out) j hlt
      have hbbl : bb < wr.heap.size := World.block_lt_of_cell? _ _ e0
      have HN1 : Hid (∀ W, Calls Tryz.prog 29 #[.string l[j].nm] W fun e w' => e = .returned (.bool (nmX l[j].nm)) ∧ w' = W) := HN.out l[j] (List.getElem_mem hlt)
      have BAD : Hid (¬ colX l j l[j] → (false = true ↔ colsX l)) := fun h => ⟨fun h => (by cases h), fun h' => absurd (h'.2 j hlt) h⟩
      have HX : Hid (colX l j l[j] ↔ nmX l[j].nm = true ∧ colIx l l[j].nm = some j ∧ (l[j].k = 1 ∨ l[j].k = 2 ∨ l[j].k = 3)) := Iff.rfl
      have HSAME : Hid (∀ (k : Nat) (hk : k < l.length), k < j → l[k].nm = l[j].nm → ¬ colX l j l[j]) := fun k hk hkj he h => by
        have h2 : colIx l l[j].nm = some j := h.2.1
        unfold colIx at h2
        rw [List.findIdx?_eq_some_iff_getElem] at h2
        exact h2.2.2 k hkj (by simpa using he)
      have HDIFF : Hid ((∀ (k : Nat) (hk : k < l.length), k < j → l[k].nm ≠ l[j].nm) → colIx l l[j].nm = some j) := fun h => colIx_some hlt rfl h
      have HNO2 : Hid (colX l j l[j] → ∀ m (hm : m < l.length), m < j + 1 → colX l m l[m]) := fun h m hm hmj => by
        rcases Nat.lt_or_ge m j with h' | h'
        · exact HNO.out m hm h'
        · have : m = j := by omega
          subst this; exact h
      obtain ⟨NM, hNM⟩ : ∃ NM, NM = l[j].nm := ⟨_, rfl⟩
      obtain ⟨KK, hKK⟩ : ∃ KK, KK = l[j].k := ⟨_, rfl⟩
      rw [← hNM] at e0 HN1 HX HSAME HDIFF
      rw [← hKK] at e1 HX
      generalize colX l j l[j] = CX at *
      clear hNM hKK HN HNO
      cases hnm : nmX NM
      · have FB : Hid (false = true ↔ colsX l) := BAD.out (fun h => by have := (HX.out.1 h).1; rw [hnm] at this; cases this)
        rw [hnm] at HN1
        clear hnm BAD HX HSAME HDIFF HNO2
        go_wp2_with fail
        refine (HN1.out _).mono ?_
        rintro e w2 ⟨rfl, h⟩
        have := h.symm; subst this
        go_wp2_with fail
        go_ret
        exact ⟨⟨_, rfl, FB.out⟩, HB.out⟩
      · rw [hnm] at HN1
        have HNM := hidMk' hnm
        clear hnm
        by_cases q1 : KK < 1
        · have FB : Hid (false = true ↔ colsX l) := BAD.out (fun h => by rcases (HX.out.1 h).2.2 with h | h | h <;> omega)
          clear BAD HX HSAME HDIFF HNO2
          go_wp2_with fail
          refine (HN1.out _).mono ?_
          rintro e w2 ⟨rfl, h⟩
          have := h.symm; subst this
          go_wp2_with fail
          go_ret
          exact ⟨⟨_, rfl, FB.out⟩, HB.out⟩
        by_cases q2 : 3 < KK
        · have FB : Hid (false = true ↔ colsX l) := BAD.out (fun h => by rcases (HX.out.1 h).2.2 with h | h | h <;> omega)
          clear BAD HX HSAME HDIFF HNO2
          go_wp2_with fail
          refine (HN1.out _).mono ?_
          rintro e w2 ⟨rfl, h⟩
          have := h.symm; subst this
          go_wp2_with fail
          go_ret
          exact ⟨⟨_, rfl, FB.out⟩, HB.out⟩
        have HKD : Hid (KK = 1 ∨ KK = 2 ∨ KK = 3) := by unfold Hid; omega
        go_wp2_with fail
        refine (HN1.out _).mono ?_
        rintro e w2 ⟨rfl, h⟩
        have := h.symm; subst this
        go_wp2_with fail
        go_loopw [5] (fun i w' => ∃ k : Nat, k ≤ j ∧ i = .int .i64 k ∧ (∀ m (hm : m < l.length), m < k → l[m].nm ≠ NM) ∧ Below w.heap.size w w' ∧ Below wr.heap.size wr w') (fun i _ => j - (intOf i).toNat)
        case atStart => exact ⟨0, Nat.zero_le _, rfl, fun m _ h => absurd h (by omega), HB.out, Below.refl _ _⟩
        case round =>
          obtain ⟨k, hkj, rfl, hdk, hbk, hbk2⟩ := hrel
          have HBK := hidMk' hbk
          have HDK := hidMk' hdk
          have e0' := xcell hbk2 e0
          have HBK2 := hidMk' hbk2
          clear hbk hbk2 hdk e0 e1
          by_cases hklt : k < j
          · have hkji : (k : Int) < (j : Int) := by omega
            have hkl : k < l.length := by omega
            have hkli : (k : Int) < (l.length : Int) := by omega
            obtain ⟨bb2, off2, ha2, e2, _⟩ := (HC.out.later HBK.out) k hkl
            obtain ⟨rfl, rfl⟩ : bb = bb2 ∧ off = off2 := by simpa using ha2
            have hbl2 : bb < wr.heap.size := World.block_lt_of_cell? _ _ e2
            by_cases hsame : l[k].nm = NM
            · have hq : (l[k].nm.toList == NM.toList) = true := xeq hsame
              have FB : Hid (false = true ↔ colsX l) := BAD.out (HSAME.out k hkl hklt hsame)
              generalize l[k].nm = NK at *
              clear BAD HX HSAME HDIFF HNO2 HC hsame HDK
              go_wp2_with fail
              go_quiet (fail)
              go_wp2_with fail
              go_ret
              exact ⟨⟨_, rfl, FB.out⟩, by first | exact HBK.out | exact Below.drewN' HBK.out⟩
            · have hq : (l[k].nm.toList == NM.toList) = false := xne hsame
              have F : Hid (∀ m (hm : m < l.length), m < k + 1 → l[m].nm ≠ NM) := fun m hm hmj => by
                rcases Nat.lt_or_ge m k with h' | h'
                · exact HDK.out m hm h'
                · have : m = k := by omega
                  subst this; exact hsame
              generalize l[k].nm = NK at *
              clear BAD HX HSAME HDIFF HNO2 HC hsame HDK
              go_wp2_with fail
              go_quiet (fail)
              go_wp2_with fail
              exact ⟨⟨k + 1, by omega, by go_num, F.out, Below.drewN' HBK.out, Below.drewN' HBK2.out⟩, by simp [intOf]; omega⟩
          · obtain rfl : k = j := by omega
            have F : Hid (∀ m (hm : m < l.length), m < k + 1 → colX l m l[m]) := HNO2.out (HX.out.2 ⟨HNM.out, HDIFF.out HDK.out, HKD.out⟩)
            clear BAD HX HSAME HDIFF HNO2 HC HDK
            go_wp2_with fail
            exact ⟨⟨k + 1, by omega, by go_num, HBK.out, F.out⟩, by simp [intOf]; omega⟩
    · obtain rfl : j = l.length := by omega
      have FG : Hid (decide ((l.length : Int) ≤ 8) = true ↔ colsX l) := by
        rw [Hid, decide_eq_true_iff]
        exact ⟨fun h => ⟨by omega, fun m hm => HNO.out m hm hm⟩, fun h => by have := h.1; omega⟩
      clear HNO HN HC
      go_wp2_with fail
      go_ret
      exact ⟨⟨_, rfl, FG.out⟩, HB.out⟩
end Go.Proofs.YtplaplhmjpfbjaaGreatDoor.Dc
