import Derived.Test.YtplaplhmjpfbjaaGreatDoorXe1
import Derived.Test.YtplaplhmjpfbjaaGreatDoorXg1
import Derived.Defers
import Derived.Recover
import Derived.Stop.Asserts
namespace Go.Proofs.YtplaplhmjpfbjaaGreatDoor
open Go.RowKit
set_option linter.unusedVariables false
set_option linter.unusedSimpArgs false
set_option maxRecDepth 100000

/-- A text of one word. -/
def wordX (s : ByteArray) : Bool := match s.data.toList with
  | [] => false
  | c :: r => !isDg c && decide (wLen (c :: r) = (c :: r).length)
/-- A name. -/
def nmX (s : ByteArray) : Bool := wordX s && !decide (res s) && decide (s.size ≤ 12)

theorem wordX_of {s : ByteArray} {c : UInt8} {r : List UInt8} (h : s.data.toList = c :: r) : wordX s = (!isDg c && decide (wLen s.data.toList = s.size)) := by
  have hl : s.data.toList.length = s.size := by simp
  unfold wordX
  rw [h] at hl ⊢
  simp only [hl]
set_option maxHeartbeats 1000000 in
theorem isWord_any (s : ByteArray) (w : World) (hs : s.size ≤ 140737488355328) :
    Calls Tryz.prog 42 #[.string s] w fun e w' => e = .returned (.bool (wordX s)) ∧ w' = w := by
  have HW : Hid (∀ W, Calls Tryz.prog 64 #[.string s] W fun e w' => e = .returned (.int .i64 (wLen s.data.toList)) ∧ w' = W) := fun W => wordLen_any s W hs
  have hlen : s.data.toList.length = s.size := by simp
  by_cases h0 : s.size = 0
  · have he : s = ⟨#[]⟩ := by
      apply ByteArray.ext
      apply Array.toList_inj.1
      exact List.eq_nil_of_length_eq_zero (by omega)
    subst he
    have HX : Hid (wordX ⟨#[]⟩ = false) := rfl
    clear hs HW hlen h0
    go_enter Tryz.func42, Tryz.ntmps42
    go_wp2
    go_ret
    exact ⟨ret_b HX.out.symm, rfl⟩
  · have h1 : 0 < s.size := by omega
    have h1i : (0 : Int) < (s.size : Int) := by omega
    have hcons : s.data.toList = s[0] :: s.data.toList.drop 1 := by
      have e0 : s.data.toList[0]'(by omega) = s[0] := by simp [ByteArray.getElem_eq_getElem_data]
      rw [← e0]
      have := List.drop_eq_getElem_cons (l := s.data.toList) (i := 0) (by omega)
      simpa using this
    have HX : Hid (wordX s = (!isDg s[0] && decide (wLen s.data.toList = s.size))) := wordX_of hcons
    have HD : Hid (∀ W, Calls Tryz.prog 63 #[.int .u8 s[0].toNat] W fun e w' => e = .returned (.bool (isDg s[0])) ∧ w' = W) := fun W => isDigit_any s[0] W
    have hem : s.toList.isEmpty = false := by
      rw [ByteArray.toList_eq]
      cases hq : s.data.toList with
      | nil => rw [hq] at hlen; simp at hlen; omega
      | cons => rfl
    have hne : ¬ s = ⟨#[]⟩ := fun e => by rw [e] at h1; exact absurd h1 (by decide)
    have hnl : (s.toList == []) = false := xnl hne
    have hd2 : (((wLen s.data.toList : Nat) : Int) == (s.size : Int)) = decide (wLen s.data.toList = s.size) := by rw [Bool.eq_iff_iff]; simp; omega
    generalize decide (wLen s.data.toList = s.size) = D at *
    generalize ((wLen s.data.toList : Nat) : Int) = N at *
    clear hs hlen h0 hcons hne
    cases hdg : isDg s[0]
    · rw [hdg] at HX HD
      go_enter Tryz.func42, Tryz.ntmps42
      go_wp2_with fail
      refine (HD.out _).mono ?_
      rintro e w1 ⟨rfl, h⟩
      have := h.symm; subst this
      go_wp2_with fail
      refine (HW.out _).mono ?_
      rintro e w1 ⟨rfl, h⟩
      have := h.symm; subst this
      go_wp2_with fail
      go_ret
      exact ⟨ret_b (by rw [HX.out]; rfl), rfl⟩
    · rw [hdg] at HX HD
      go_enter Tryz.func42, Tryz.ntmps42
      go_wp2_with fail
      refine (HD.out _).mono ?_
      rintro e w1 ⟨rfl, h⟩
      have := h.symm; subst this
      go_wp2_with fail
      go_ret
      exact ⟨ret_b (by rw [HX.out]; rfl), rfl⟩

set_option maxHeartbeats 1000000 in
theorem named_ok (s : ByteArray) (w : World) (hs : s.size ≤ 140737488355328) :
    Calls Tryz.prog 22 #[.string s] w fun e w' => e = .returned (.bool (nmX s)) ∧ w' = w := by
  have HW : Hid (∀ W, Calls Tryz.prog 42 #[.string s] W fun e w' => e = .returned (.bool (wordX s)) ∧ w' = W) := fun W => isWord_any s W hs
  have HR : Hid (∀ W, Calls Tryz.prog 43 #[.string s] W fun e w' => e = .returned (.bool (decide (res s))) ∧ w' = W) := fun W => reserved_any s W
  have HX : Hid (nmX s = (wordX s && !decide (res s) && decide (s.size ≤ 12))) := rfl
  have hd2 : decide ((s.size : Int) ≤ 12) = decide (s.size ≤ 12) := by rw [Bool.eq_iff_iff]; simp; omega
  generalize hA : wordX s = A at *
  generalize hB : decide (res s) = B at *
  generalize hC : decide (s.size ≤ 12) = C at *
  clear hs hA hB hC
  cases A
  · go_enter Tryz.func22, Tryz.ntmps22
    go_wp2_with fail
    refine (HW.out _).mono ?_
    rintro e w1 ⟨rfl, h⟩
    have := h.symm; subst this
    go_wp2_with fail
    go_ret
    exact ⟨ret_b (by rw [HX.out]; rfl), rfl⟩
  · cases B
    all_goals
      go_enter Tryz.func22, Tryz.ntmps22
      go_wp2_with fail
      refine (HW.out _).mono ?_
      rintro e w1 ⟨rfl, h⟩
      have := h.symm; subst this
      go_wp2_with fail
      refine (HR.out _).mono ?_
      rintro e w1 ⟨rfl, h⟩
      have := h.symm; subst this
      go_wp2_with fail
      go_ret
      exact ⟨ret_b (by rw [HX.out]; rfl), rfl⟩

/-- Columns that are some. -/
def colX (l : List Co) (i : Nat) (c : Co) : Prop := nmX c.nm = true ∧ colIx l c.nm = some i ∧ (c.k = 1 ∨ c.k = 2 ∨ c.k = 3)
instance (l : List Co) (i : Nat) (c : Co) : Decidable (colX l i c) := by unfold colX; infer_instance
def colsX (l : List Co) : Prop := l.length ≤ 8 ∧ ∀ i (h : i < l.length), colX l i l[i]
theorem ixI_eq (o : Option Nat) (i : Nat) : (ixI o == (i : Int)) = decide (o = some i) := by
  cases o with
  | none => rw [Bool.eq_iff_iff]; simp [ixI]; try omega
  | some j => rw [Bool.eq_iff_iff]; simp [ixI]; try omega

def ColPost (w : World) (l : List Co) (e : Ending) (w' : World) : Prop := (∃ r, e = .returned (.bool r) ∧ (r = true ↔ colsX l)) ∧ Below w.heap.size w w'
set_option maxHeartbeats 4000000 in
theorem columns_any (a : Option Addr) (c : Nat) (l : List Co) (w : World) (hc : ColsAt w a l) (hm : l.length ≤ maxLen) (hz : ∀ x ∈ l, x.nm.size ≤ 140737488355328) :
    Calls Tryz.prog 8 #[.slice a l.length c] w (ColPost w l) := by
  by_cases h8 : 8 < l.length
  · have h8i : (8 : Int) < (l.length : Int) := by omega
    have FIN : Hid (false = true ↔ colsX l) := ⟨fun h => (by cases h), fun h => by have := h.1; omega⟩
    clear hc hm hz h8
    go_enter Tryz.func8, Tryz.ntmps8
    go_wp2
    go_ret
    exact ⟨⟨_, rfl, FIN.out⟩, Below.refl _ _⟩
  · have h8i : ¬ (8 : Int) < (l.length : Int) := by omega
    have h8' : l.length ≤ 8 := by omega
    have HC : Hid (ColsAt w a l) := hc
    have HP : Hid (∀ nm W, Below w.heap.size w W → Calls Tryz.prog 23 #[.slice a l.length c, .string nm] W fun e w' => e = .returned (.int .i64 (ixI (colIx l nm))) ∧ Below W.heap.size W w') := fun nm W hW => place_any nm a c l W (hc.later hW) hm
    have HN : Hid (∀ x ∈ l, ∀ W, Calls Tryz.prog 22 #[.string x.nm] W fun e w' => e = .returned (.bool (nmX x.nm)) ∧ w' = W) := fun x hx W => named_ok x.nm W (hz x hx)
    clear hc hm hz h8
    go_enter Tryz.func8, Tryz.ntmps8
    go_wp2
    go_loopw [10] (fun i w' => ∃ j : Nat, j ≤ l.length ∧ i = .int .i64 j ∧ Below w.heap.size w w' ∧ ∀ m (hm : m < l.length), m < j → colX l m l[m]) (fun i _ => l.length - (intOf i).toNat)
    case atStart => exact ⟨0, Nat.zero_le _, rfl, Below.refl _ _, fun m _ h => absurd h (by omega)⟩
    case round =>
      obtain ⟨j, hj, rfl, hb, hno⟩ := hrel
      have HB : Hid (Below w.heap.size w wr) := hb
      have HNO : Hid (∀ m (hm : m < l.length), m < j → colX l m l[m]) := hno
      clear hb hno
      by_cases hlt : j < l.length
      · have hji : (j : Int) < (l.length : Int) := by omega
        obtain ⟨bb, off, ha, e0, e1⟩ := (HC.out.later HB.out) j hlt
        subst ha
        have hbbl : bb < wr.heap.size := World.block_lt_of_cell? _ _ e0
        have HN1 : Hid (∀ W, Calls Tryz.prog 22 #[.string l[j].nm] W fun e w' => e = .returned (.bool (nmX l[j].nm)) ∧ w' = W) := HN.out l[j] (List.getElem_mem hlt)
        have BAD : Hid (¬ colX l j l[j] → (false = true ↔ colsX l)) := fun h => ⟨fun h => (by cases h), fun h' => absurd (h'.2 j hlt) h⟩
        have GOOD : Hid (colX l j l[j] → ∀ m (hm : m < l.length), m < j + 1 → colX l m l[m]) := fun h m hm hmj => by
          rcases Nat.lt_or_ge m j with h' | h'
          · exact HNO.out m hm h'
          · have : m = j := by omega
            subst this
            exact h
        have HX : Hid (colX l j l[j] ↔ nmX l[j].nm = true ∧ colIx l l[j].nm = some j ∧ (l[j].k = 1 ∨ l[j].k = 2 ∨ l[j].k = 3)) := Iff.rfl
        generalize l[j].nm = NM at *
        generalize l[j].k = KK at *
        generalize colX l j l[j] = CX at *
        cases hnm : nmX NM
        · have hbad : ¬ CX := fun h => by have := (HX.out.1 h).1; rw [hnm] at this; cases this
          have FB : Hid (false = true ↔ colsX l) := BAD.out hbad
          rw [hnm] at HN1
          clear hbad hnm BAD GOOD HX
          go_wp2_with fail
          refine (HN1.out _).mono ?_
          rintro e w2 ⟨rfl, h⟩
          have := h.symm; subst this
          go_wp2_with fail
          go_ret
          exact ⟨⟨_, rfl, FB.out⟩, HB.out.trans ((xbel1 _ _).mono HB.out.size)⟩
        · rw [hnm] at HN1
          go_wp2_with fail
          refine (HN1.out _).mono ?_
          rintro e w2 ⟨rfl, h⟩
          have := h.symm; subst this
          go_wp2_with fail
          refine (HP.out NM _ (HB.out.trans ((xbel1 _ _).mono HB.out.size))).mono ?_
          rintro e w3 ⟨rfl, hb3⟩
          have k0 : w3.cell? ⟨wr.heap.size, 0, none⟩ = some (.string NM) := xcell hb3 (by go_simp)
          have k1 : w3.cell? ⟨wr.heap.size, 1, none⟩ = some (.int .i64 KK) := xcell hb3 (by go_simp)
          have HB3 : Hid (Below w.heap.size w w3) := (HB.out.trans ((xbel1 _ _).mono HB.out.size)).trans (hb3.mono (by have := HB.out.size; simp; omega))
          have hix := ixI_eq (colIx l NM) j
          generalize ixI (colIx l NM) = NI at *
          clear hb3
          by_cases hcx : colIx l NM = some j
          · have hix2 : (NI == (j : Int)) = true := by rw [hix, decide_eq_true hcx]
            have hix3 : (NI != (j : Int)) = false := by rw [bne, hix2]; rfl
            by_cases q1 : KK = 1
            · have g1 : (KK != 1) = false := by rw [q1]; rfl
              have g1' : (KK == 1) = true := by rw [q1]; rfl
              have FG : Hid (∀ m (hm : m < l.length), m < j + 1 → colX l m l[m]) := GOOD.out (HX.out.2 ⟨hnm, hcx, .inl q1⟩)
              clear q1 hcx hix BAD GOOD HX
              go_wp2_with fail
              exact ⟨⟨j + 1, by omega, by go_num, HB3.out, FG.out⟩, by simp [intOf]; omega⟩
            have g1 : (KK != 1) = true := by rw [bne_iff_ne]; exact q1
            have g1' : (KK == 1) = false := by rw [beq_eq_false_iff_ne]; exact q1
            by_cases q2 : KK = 2
            · have g2 : (KK != 2) = false := by rw [q2]; rfl
              have g2' : (KK == 2) = true := by rw [q2]; rfl
              have FG : Hid (∀ m (hm : m < l.length), m < j + 1 → colX l m l[m]) := GOOD.out (HX.out.2 ⟨hnm, hcx, .inr (.inl q2)⟩)
              clear q1 q2 hcx hix BAD GOOD HX
              go_wp2_with fail
              exact ⟨⟨j + 1, by omega, by go_num, HB3.out, FG.out⟩, by simp [intOf]; omega⟩
            have g2 : (KK != 2) = true := by rw [bne_iff_ne]; exact q2
            have g2' : (KK == 2) = false := by rw [beq_eq_false_iff_ne]; exact q2
            by_cases q3 : KK = 3
            · have g3 : (KK != 3) = false := by rw [q3]; rfl
              have g3' : (KK == 3) = true := by rw [q3]; rfl
              have FG : Hid (∀ m (hm : m < l.length), m < j + 1 → colX l m l[m]) := GOOD.out (HX.out.2 ⟨hnm, hcx, .inr (.inr q3)⟩)
              clear q1 q2 q3 hcx hix BAD GOOD HX
              go_wp2_with fail
              exact ⟨⟨j + 1, by omega, by go_num, HB3.out, FG.out⟩, by simp [intOf]; omega⟩
            have g3 : (KK != 3) = true := by rw [bne_iff_ne]; exact q3
            have g3' : (KK == 3) = false := by rw [beq_eq_false_iff_ne]; exact q3
            have FB : Hid (false = true ↔ colsX l) := BAD.out (fun h => by rcases (HX.out.1 h).2.2 with h | h | h <;> contradiction)
            clear q1 q2 q3 hcx hix BAD GOOD HX
            go_wp2_with fail
            go_ret
            exact ⟨⟨_, rfl, FB.out⟩, HB3.out⟩
          · have hix2 : (NI == (j : Int)) = false := by rw [hix, decide_eq_false hcx]
            have hix3 : (NI != (j : Int)) = true := by rw [bne, hix2]; rfl
            have FB : Hid (false = true ↔ colsX l) := BAD.out (fun h => hcx (HX.out.1 h).2.1)
            clear hcx hix BAD GOOD HX
            go_wp2_with fail
            go_ret
            exact ⟨⟨_, rfl, FB.out⟩, HB3.out⟩
      · obtain rfl : j = l.length := by omega
        have FG : Hid (true = true ↔ colsX l) := ⟨fun _ => ⟨h8', fun m hm => HNO.out m hm hm⟩, fun _ => rfl⟩
        go_wp2_with fail
        go_ret
        exact ⟨⟨_, rfl, ⟨fun _ => FG.out.1 (by trivial), fun _ => rfl⟩⟩, HB.out⟩
end Go.Proofs.YtplaplhmjpfbjaaGreatDoor
namespace Go.Proofs.YtplaplhmjpfbjaaGreatDoor
open Go.RowKit
set_option linter.unusedVariables false
set_option linter.unusedSimpArgs false
set_option maxRecDepth 100000

theorem PX.size {L : ByteArray → Int → Int → ByteArray → Prop} {s : ByteArray} {x : X} (h : PX L s (.ok x)) : szX x ≤ 200 := by
  cases h with
  | ok a b c =>
    have h1 := c.size _ _ rfl
    obtain ⟨h2, _⟩ := tok_few _ _ _ _ b
    have h3 : s.data.toList.length = s.size := by simp
    rw [h3] at h2
    simp only [szM, List.length_nil] at h1
    omega
open Classical in
/-- What a text is over columns: its tree and its kind, or the first fault. -/
noncomputable def ckO (c : List Co) : Except Flt X → Except Flt (X × Int)
  | .error f => .error f
  | .ok x => if colsX c then (kindX c x).bind fun k => .ok (x, k) else .error ⟨0, 4⟩
def CkPost (L : ByteArray → Int → Int → ByteArray → Prop) (w : World) (s : ByteArray) (c : List Co) (e : Ending) (w' : World) : Prop := Below w.heap.size w w' ∧ ∃ o, PX L s o ∧
  match ckO c o with
  | .ok (x, k) => ∃ t p, e = .returned (.tuple #[.iface t p, .int .i64 k]) ∧ Nd w' (w.heap.size - 1) x (.iface t p)
  | .error f => e = .panicked [{ v := fltV f.pl f.why, recovered := false }]
set_option maxHeartbeats 4000000 in
theorem checked_any {L : ByteArray → Int → Int → ByteArray → Prop} {G : World → Prop} (hL : OneL L) (hR : RdOk L G) (s : ByteArray) (a : Option Addr) (cc : Nat) (c : List Co) (w : World) (hG : ∀ W W' r, (∀ k, r = some k → w.heap.size ≤ k) → G W → W.grownBy W' r → G W') (hw : G w) (hc : ColsAt w a c) (hm : c.length ≤ maxLen) (hz : ∀ x ∈ c, x.nm.size ≤ 140737488355328) :
    Calls Tryz.prog 67 #[.string s, .slice a c.length cc] w (CkPost L w s c) := by
  have HP : Hid (Calls Tryz.prog 79 #[.string s] w (TPost L w s)) := parse_any hL hR s w hG hw
  have HC : Hid (ColsAt w a c) := hc
  have HM : Hid (c.length ≤ maxLen) := hm
  have HZ : Hid (∀ x ∈ c, x.nm.size ≤ 140737488355328) := hz
  clear hL hR hG hw hc hm hz
  go_enter Tryz.func67, Tryz.ntmps67
  go_wp2_with fail
  refine HP.out.mono ?_
  rintro e w1 ⟨hb1, o, hpx, ho⟩
  have HPX : Hid (PX L s o) := hpx
  have HB1 : Hid (Below w.heap.size w w1) := hb1
  clear hpx hb1
  cases o with
  | error f =>
    subst ho
    have FIN : Hid (CkPost L w s c (.panicked [{ v := fltV f.pl f.why, recovered := false }]) w1) := ⟨HB1.out, .error f, HPX.out, rfl⟩
    first | exact FIN.out | exact ⟨rfl, FIN.out⟩
  | ok x =>
    obtain ⟨t, p, rfl, hnd⟩ := ho
    have HN : Hid (Nd w1 (w.heap.size - 1) x (.iface t p)) := hnd
    clear hnd
    go_wp2_with fail
    refine (columns_any a cc c w1 (HC.out.later HB1.out) HM.out HZ.out).mono ?_
    rintro e w2 ⟨⟨r, rfl, hr⟩, hb2⟩
    have HB2 : Hid (Below w.heap.size w w2) := HB1.out.trans (hb2.mono HB1.out.size)
    have HN2 : Hid (Nd w2 (w.heap.size - 1) x (.iface t p)) := HN.out.later hb2
    clear hb2 HN
    by_cases hcol : colsX c
    · obtain rfl : r = true := hr.2 hcol
      obtain ⟨t', p', fn, rc, hv, hme, hna, hent, hca⟩ := kind_nd c a cc HM.out w2 _ (HC.out.later HB2.out) x _ HN2.out HPX.out.size
      cases hv
      have HCA : Hid (∀ W, Below w2.heap.size w2 W → Calls Tryz.prog fn #[rc, .slice a c.length cc] W (KdPost W (kindX c x))) := hca
      have HCO : Hid (colsX c) := hcol
      clear hca hcol hr
      cases hk : kindX c x with
      | error f =>
        have FIN : Hid (∀ w', Below w2.heap.size w2 w' → CkPost L w s c (.panicked [{ v := fltV f.pl f.why, recovered := false }]) w') := fun w' h => ⟨HB2.out.trans (h.mono HB2.out.size), .ok x, HPX.out, by rw [ckO, if_pos HCO.out, hk]; rfl⟩
        have HC2 : Hid (∀ W, Below w2.heap.size w2 W → Calls Tryz.prog fn #[rc, .slice a c.length cc] W fun e w' => Below w2.heap.size w2 w' ∧ e = .panicked [{ v := fltV f.pl f.why, recovered := false }]) := fun W hW => by
          refine (HCA.out W hW).mono ?_
          rintro e w' h
          rw [hk] at h
          exact ⟨hW.trans (h.1.mono hW.size), h.2⟩
        clear hk HCA
        go_wp2_with fail
        refine (HC2.out _ (Below.refl _ _)).mono ?_
        rintro e w3 ⟨hb3, rfl⟩
        first | exact FIN.out w3 hb3 | exact ⟨rfl, FIN.out w3 hb3⟩
      | ok k =>
        have FIN : Hid (∀ w', Below w2.heap.size w2 w' → CkPost L w s c (.returned (.tuple #[.iface t p, .int .i64 k])) w') := fun w' h => ⟨HB2.out.trans (h.mono HB2.out.size), .ok x, HPX.out, by rw [ckO, if_pos HCO.out, hk]; exact ⟨_, _, rfl, HN2.out.later h⟩⟩
        have HC2 : Hid (∀ W, Below w2.heap.size w2 W → Calls Tryz.prog fn #[rc, .slice a c.length cc] W fun e w' => Below w2.heap.size w2 w' ∧ e = .returned (.int .i64 k)) := fun W hW => by
          refine (HCA.out W hW).mono ?_
          rintro e w' h
          rw [hk] at h
          exact ⟨hW.trans (h.1.mono hW.size), h.2⟩
        clear hk HCA
        go_wp2_with fail
        refine (HC2.out _ (Below.refl _ _)).mono ?_
        rintro e w3 ⟨hb3, rfl⟩
        have F3 : Hid (CkPost L w s c (.returned (.tuple #[.iface t p, .int .i64 k])) w3) := FIN.out w3 hb3
        clear FIN hb3
        go_wp2_with fail
        go_ret2
        exact F3.out
    · obtain rfl : r = false := by cases r with | false => rfl | true => exact absurd (hr.1 rfl) hcol
      have FIN : Hid (CkPost L w s c (.panicked [{ v := fltV 0 4, recovered := false }]) w2) := ⟨HB2.out, .ok x, HPX.out, by rw [ckO, if_neg hcol]⟩
      clear hr hcol
      go_wp2_with fail
      first | exact FIN.out | exact ⟨rfl, FIN.out⟩
end Go.Proofs.YtplaplhmjpfbjaaGreatDoor
namespace Go.Proofs.YtplaplhmjpfbjaaGreatDoor
open Go.RowKit
set_option linter.unusedVariables false
set_option linter.unusedSimpArgs false
set_option maxRecDepth 100000

theorem catch_idle (b1 b2 : Nat) (w : World) :
    CallsD Tryz.prog 78 #[.pointer (some ⟨b1, 0, none⟩), .pointer (some ⟨b2, 0, none⟩)] .returning w fun e u' w' => e = .returned (.tuple #[]) ∧ u' = .returning ∧ w' = w := by
  refine callsD_of_wpS Tryz.func78 rfl fun c₀ cs hu => ?_
  apply wpS_seq
  apply wpS_region
  simp [wpOpsS, go_sem, recoverD, hu, Tryz.ntmps78, Exit.thenS, Array.replicate]
  refine wpS_of_wp ?_
  go_wp2
  cases c₀
  simp_all [bodyPostS, results, Tryz.results78, go_sem]
/-- All but two blocks are as they were. -/
structure Ex2 (w w' : World) (b1 b2 : Nat) : Prop where
  os : w'.os = w.os
  tape : w'.tape = w.tape
  output : w'.output = w.output
  size : w.heap.size ≤ w'.heap.size
  block : ∀ i, i < w.heap.size → i ≠ b1 → i ≠ b2 → w'.heap[i]? = w.heap[i]?
theorem Ex2.of {w w1 w2 w3 : World} {b1 b2 : Nat} (h1 : w.grownBy w1 (some b1)) (h2 : w1.grownBy w2 (some b2)) (h3 : Below w2.heap.size w2 w3) : Ex2 w w3 b1 b2 :=
  ⟨h3.os.trans (h2.os.trans h1.os), h3.tape.trans (h2.tape.trans h1.tape), h3.output.trans (h2.output.trans h1.output), Nat.le_trans h1.size (Nat.le_trans h2.size h3.size), fun i hi n1 n2 => (h3.block i (Nat.lt_of_lt_of_le hi (Nat.le_trans h1.size h2.size))).trans ((h2.block i (Nat.lt_of_lt_of_le hi h1.size) (fun e => n2 (Option.some.inj e))).trans (h1.block i hi (fun e => n1 (Option.some.inj e))))⟩
theorem tassert (a b : Int) (w : World) : (Instr.typeAssert (.iface 147 (.agg #[.int .i64 a, .int .i64 b])) 20 147 false).run Tryz.prog w = .ok (.agg #[.int .i64 a, .int .i64 b]) w := by
  simp [Instr.typeAssert, go_sem]
  try rfl
theorem catch_pan (b1 b2 : Nat) (z : Int) (pl why : Nat) (w : World) (h1 : w.cell? ⟨b1, 0, none⟩ = some (.int .i64 z)) (h2 : w.cell? ⟨b2, 0, none⟩ = some .nilIface) (f1 : w.frozen? ⟨b1, 0, none⟩ = false) (f2 : w.frozen? ⟨b2, 0, none⟩ = false) (hne : ¬ b1 = b2) (hl1 : b1 < w.heap.size) (hl2 : b2 < w.heap.size) :
    CallsD Tryz.prog 78 #[.pointer (some ⟨b1, 0, none⟩), .pointer (some ⟨b2, 0, none⟩)] (.panicking [{ v := fltV pl why, recovered := false }]) w fun e u' w' => e = .returned (.tuple #[]) ∧ u' = .panicking [{ v := fltV pl why, recovered := true }] ∧ w'.cell? ⟨b1, 0, none⟩ = some (.int .i64 pl) ∧ w'.cell? ⟨b2, 0, none⟩ = some (.iface 36 (.int .i64 why)) ∧ Ex2 w w' b1 b2 := by
  have hta := tassert
  refine callsD_of_wpS Tryz.func78 rfl fun c₀ cs hu => ?_
  apply wpS_seq
  apply wpS_region
  simp [wpOpsS, go_sem, recoverD, hu, Tryz.ntmps78, Exit.thenS, Array.replicate]
  refine wpS_of_wp ?_
  unfold fltV
  go_wp2
  go_region
  have g1 := xgSet w ⟨b1, 0, none⟩ (.int .i64 pl)
  have g2 := xgSet (w.setCell ⟨b1, 0, none⟩ (.int .i64 pl)) ⟨b2, 0, none⟩ (.iface 36 (.int .i64 why))
  have g3 := (xbel1 ((w.setCell ⟨b1, 0, none⟩ (.int .i64 pl)).setCell ⟨b2, 0, none⟩ (.iface 36 (.int .i64 why))) (.cells #[.int .i64 pl, .int .i64 why] 147)).drew
  have hex := Ex2.of g1 g2 g3
  have c1 : (((w.setCell ⟨b1, 0, none⟩ (.int .i64 pl)).setCell ⟨b2, 0, none⟩ (.iface 36 (.int .i64 why))).alloc (.cells #[.int .i64 pl, .int .i64 why] 147)).drew.cell? ⟨b1, 0, none⟩ = some (.int .i64 pl) := by go_simp
  have c2 : (((w.setCell ⟨b1, 0, none⟩ (.int .i64 pl)).setCell ⟨b2, 0, none⟩ (.iface 36 (.int .i64 why))).alloc (.cells #[.int .i64 pl, .int .i64 why] 147)).drew.cell? ⟨b2, 0, none⟩ = some (.iface 36 (.int .i64 why)) := by go_simp
  clear g1 g2 g3
  generalize (((w.setCell ⟨b1, 0, none⟩ (.int .i64 pl)).setCell ⟨b2, 0, none⟩ (.iface 36 (.int .i64 why))).alloc (.cells #[.int .i64 pl, .int .i64 why] 147)).drew = W at *
  show bodyPostS _ _ _ _ _ _ _ _ _
  cases c₀
  simp_all [bodyPostS, results, Tryz.results78, go_sem]

/-- What 'caught' finds when what it does has ended. -/
structure Kept2 (w w1 : World) : Prop where
  size : w.heap.size + 2 ≤ w1.heap.size
  one : w1.heap[w.heap.size]? = some (.cells #[.int .i64 0] 3 (0, 0))
  two : w1.heap[w.heap.size + 1]? = some (.cells #[.nilIface] 31 (0, 0))

theorem Own.ofRow {w : World} {g t : Nat} {v : Value} (h : w.heap[g]? = some (.cells #[v] t (0, 0))) : Own w g t 1 [v] :=
  ⟨rfl, .inr ⟨g, 1, #[v], rfl, Nat.le_refl _, h, Nat.le_refl _, by decide, rfl, rfl⟩⟩
theorem Kept2.own1 {w w1 : World} (h : Kept2 w w1) : Own w1 w.heap.size 3 1 [.int .i64 0] := Own.ofRow h.one
theorem Kept2.own2 {w w1 : World} (h : Kept2 w w1) : Own w1 (w.heap.size + 1) 31 1 [.nilIface] := Own.ofRow h.two
set_option maxHeartbeats 2000000 in
theorem caught_ok (fn : Nat) (cap : Array Value) (w : World) (Q : World → Prop) (hent : ∀ (a : Array Value) (W : World), (callFunc fn a).run Tryz.prog W = .ok (.enter fn a) W)
    (hD : Calls Tryz.prog fn cap ((w.alloc (.cells #[.int .i64 0] 3)).alloc (.cells #[.nilIface] 31)) fun e w' => e = .returned (.tuple #[]) ∧ Kept2 w w' ∧ Q w') :
    Calls Tryz.prog 65 #[.func (.func fn) #[] cap] w fun e w' => e = .returned (.tuple #[.int .i64 0, .nilIface]) ∧ ∃ w1, Q w1 ∧ Ex2 w1 w' w.heap.size (w.heap.size + 1) := by
  have hmf := xmf
  have HD : Hid (Calls Tryz.prog fn cap ((w.alloc (.cells #[.int .i64 0] 3)).alloc (.cells #[.nilIface] 31)) fun e w' => e = .returned (.tuple #[]) ∧ Kept2 w w' ∧ Q w') := hD
  clear hD
  go_enter_defers Tryz.func65, Tryz.ntmps65
  go_wp2_with fail
  refine HD.out.mono ?_
  rintro e w1 ⟨rfl, hk, hq⟩
  have hO1 : Own w1 w.heap.size 3 1 [.int .i64 0] := hk.own1
  have hO2 : Own w1 (w.heap.size + 1) 31 1 [.nilIface] := hk.own2
  have c1 : w1.cell? ⟨w.heap.size, 0, none⟩ = some (.int .i64 0) := by rw [hO1.cell 0 (by decide)]; rfl
  have c2 : w1.cell? ⟨w.heap.size + 1, 0, none⟩ = some .nilIface := by rw [hO2.cell 0 (by decide)]; rfl
  have f1 := hO1.soft 0
  have f2 := hO2.soft 0
  have hl1 : w.heap.size < w1.heap.size := by have := hk.size; omega
  have HQ : Hid (Q w1) := hq
  clear hk hq hO1 hO2 HD
  go_wp2_with fail
  have hex : Ex2 w1 ((w1.setCell ⟨w.heap.size, 0, none⟩ (.int .i64 0)).setCell ⟨w.heap.size + 1, 0, none⟩ .nilIface) w.heap.size (w.heap.size + 1) := Ex2.of (xgSet _ _ _) (xgSet _ _ _) (Below.refl _ _)
  have d1 : ((w1.setCell ⟨w.heap.size, 0, none⟩ (.int .i64 0)).setCell ⟨w.heap.size + 1, 0, none⟩ .nilIface).cell? ⟨w.heap.size, 0, none⟩ = some (.int .i64 0) := by go_simp
  have d2 : ((w1.setCell ⟨w.heap.size, 0, none⟩ (.int .i64 0)).setCell ⟨w.heap.size + 1, 0, none⟩ .nilIface).cell? ⟨w.heap.size + 1, 0, none⟩ = some .nilIface := by go_simp
  generalize ((w1.setCell ⟨w.heap.size, 0, none⟩ (.int .i64 0)).setCell ⟨w.heap.size + 1, 0, none⟩ .nilIface) = W at *
  refine leaves_cons (f := 78) (args := #[.pointer (some ⟨w.heap.size, 0, none⟩), .pointer (some ⟨w.heap.size + 1, 0, none⟩)]) (by simp) (by simp [go_sem]) ?_
  refine (catch_idle w.heap.size (w.heap.size + 1) W).mono ?_
  rintro e u' w'' ⟨rfl, rfl, rfl⟩
  simp [Leaves, settle, results, Tryz.results65, go_sem, d1, d2]
  exact ⟨w1, HQ.out, hex⟩

set_option maxHeartbeats 2000000 in
theorem caught_bad (fn : Nat) (cap : Array Value) (w : World) (Q : World → Prop) (pl why : Nat) (hent : ∀ (a : Array Value) (W : World), (callFunc fn a).run Tryz.prog W = .ok (.enter fn a) W)
    (hD : Calls Tryz.prog fn cap ((w.alloc (.cells #[.int .i64 0] 3)).alloc (.cells #[.nilIface] 31)) fun e w' => e = .panicked [{ v := fltV pl why, recovered := false }] ∧ Kept2 w w' ∧ Q w') :
    Calls Tryz.prog 65 #[.func (.func fn) #[] cap] w fun e w' => e = .returned (.tuple #[.int .i64 pl, .iface 36 (.int .i64 why)]) ∧ ∃ w1, Q w1 ∧ Ex2 w1 w' w.heap.size (w.heap.size + 1) := by
  have hmf := xmf
  have HD : Hid (Calls Tryz.prog fn cap ((w.alloc (.cells #[.int .i64 0] 3)).alloc (.cells #[.nilIface] 31)) fun e w' => e = .panicked [{ v := fltV pl why, recovered := false }] ∧ Kept2 w w' ∧ Q w') := hD
  clear hD
  go_enter_defers Tryz.func65, Tryz.ntmps65
  go_wp2_with fail
  refine HD.out.mono ?_
  rintro e w1 ⟨rfl, hk, hq⟩
  have hO1 : Own w1 w.heap.size 3 1 [.int .i64 0] := hk.own1
  have hO2 : Own w1 (w.heap.size + 1) 31 1 [.nilIface] := hk.own2
  have c1 : w1.cell? ⟨w.heap.size, 0, none⟩ = some (.int .i64 0) := by rw [hO1.cell 0 (by decide)]; rfl
  have c2 : w1.cell? ⟨w.heap.size + 1, 0, none⟩ = some .nilIface := by rw [hO2.cell 0 (by decide)]; rfl
  refine leaves_cons (f := 78) (args := #[.pointer (some ⟨w.heap.size, 0, none⟩), .pointer (some ⟨w.heap.size + 1, 0, none⟩)]) (by simp) (by simp [go_sem]) ?_
  refine (catch_pan w.heap.size (w.heap.size + 1) 0 pl why w1 c1 c2 (hO1.soft 0) (hO2.soft 0) (by omega) hO1.lt hO2.lt).mono ?_
  rintro e u' w'' ⟨rfl, rfl, d1, d2, hex⟩
  simp [Leaves, settle, results, Tryz.results65, go_sem, d1, d2]
  exact ⟨w1, hq, hex⟩
end Go.Proofs.YtplaplhmjpfbjaaGreatDoor
namespace Go.Proofs.YtplaplhmjpfbjaaGreatDoor
open Go.RowKit
set_option linter.unusedVariables false
set_option linter.unusedSimpArgs false
set_option maxRecDepth 100000

theorem px_exi {L : ByteArray → Int → Int → ByteArray → Prop} {G : World → Prop} (hL : OneL L) (hR : RdOk L G) (s : ByteArray) (w : World) (hG : ∀ W W' r, (∀ k, r = some k → w.heap.size ≤ k) → G W → W.grownBy W' r → G W') (hw : G w) : ∃ o, PX L s o := by
  obtain ⟨e, w', fr, ⟨_, o, ho, _⟩, _⟩ := parse_any hL hR s w hG hw []
  exact ⟨o, ho⟩
/-- A checked text whose outcome is known. -/
theorem checked_is {L : ByteArray → Int → Int → ByteArray → Prop} {G : World → Prop} (hL : OneL L) (hR : RdOk L G) (s : ByteArray) (a : Option Addr) (cc : Nat) (c : List Co) (w : World) (hG : ∀ W W' r, (∀ k, r = some k → w.heap.size ≤ k) → G W → W.grownBy W' r → G W') (hw : G w) (hc : ColsAt w a c) (hm : c.length ≤ maxLen) (hz : ∀ x ∈ c, x.nm.size ≤ 140737488355328) {o : Except Flt X} (ho : PX L s o) :
    Calls Tryz.prog 67 #[.string s, .slice a c.length cc] w fun e w' => Below w.heap.size w w' ∧
      match ckO c o with
      | .ok (x, k) => ∃ t p, e = .returned (.tuple #[.iface t p, .int .i64 k]) ∧ Nd w' (w.heap.size - 1) x (.iface t p)
      | .error f => e = .panicked [{ v := fltV f.pl f.why, recovered := false }] := by
  refine (checked_any hL hR s a cc c w hG hw hc hm hz).mono ?_
  rintro e w' ⟨h1, o', h2, h3⟩
  cases h2.one hL ho
  exact ⟨h1, h3⟩

set_option maxHeartbeats 2000000 in
theorem check1_ok (s : ByteArray) (a : Option Addr) (n cc : Nat) (b b1 b2 : Nat) (k k0 : Int) (W : World) (h0 : W.cell? ⟨b, 0, none⟩ = some (.string s)) (h1 : W.cell? ⟨b1, 0, none⟩ = some (.slice a n cc)) (h2 : Own W b2 41 1 [.int .i64 k0])
    (hc : Calls Tryz.prog 67 #[.string s, .slice a n cc] W fun e w' => Below W.heap.size W w' ∧ ∃ t p, e = .returned (.tuple #[.iface t p, .int .i64 k])) :
    Calls Tryz.prog 66 #[.pointer (some ⟨b, 0, none⟩), .pointer (some ⟨b1, 0, none⟩), .pointer (some ⟨b2, 0, none⟩)] W fun e w' => e = .returned (.tuple #[]) ∧ W.grownBy w' (some b2) ∧ w'.cell? ⟨b2, 0, none⟩ = some (.int .i64 k) := by
  have HC : Hid (Calls Tryz.prog 67 #[.string s, .slice a n cc] W fun e w' => Below W.heap.size W w' ∧ ∃ t p, e = .returned (.tuple #[.iface t p, .int .i64 k])) := hc
  have HO : Hid (Own W b2 41 1 [.int .i64 k0]) := h2
  clear hc h2
  go_enter Tryz.func66, Tryz.ntmps66
  go_wp2_with fail
  refine HC.out.mono ?_
  rintro e w2 ⟨hb2, t, p, rfl⟩
  have HO2 : Hid (Own w2 b2 41 1 [.int .i64 k0]) := HO.out.later hb2
  have HB2 : Hid (Below W.heap.size W w2) := hb2
  have q0 : w2.cell? ⟨b2, 0, none⟩ = some (.int .i64 k0) := by rw [HO2.out.cell 0 (by decide)]; rfl
  have q1 : w2.frozen? ⟨b2, 0, none⟩ = false := HO2.out.soft 0
  clear hb2 HC HO
  go_wp2_with fail
  obtain ⟨hp1, hp2⟩ := HO2.out.put 0 (.int .i64 k)
  have F1 : W.grownBy (w2.setCell ⟨b2, 0, none⟩ (.int .i64 k)) (some b2) := xgTrans (xgBelow HB2.out) hp2
  have F2 : (w2.setCell ⟨b2, 0, none⟩ (.int .i64 k)).cell? ⟨b2, 0, none⟩ = some (.int .i64 k) := by rw [hp1.cell 0 (by decide)]; rfl
  simp [bodyPost, results, Tryz.results66, go_sem]
  exact ⟨F1, F2⟩
set_option maxHeartbeats 2000000 in
theorem check1_bad (s : ByteArray) (a : Option Addr) (n cc : Nat) (b b1 b2 : Nat) (f : Flt) (W : World) (h0 : W.cell? ⟨b, 0, none⟩ = some (.string s)) (h1 : W.cell? ⟨b1, 0, none⟩ = some (.slice a n cc))
    (hc : Calls Tryz.prog 67 #[.string s, .slice a n cc] W fun e w' => Below W.heap.size W w' ∧ e = .panicked [{ v := fltV f.pl f.why, recovered := false }]) :
    Calls Tryz.prog 66 #[.pointer (some ⟨b, 0, none⟩), .pointer (some ⟨b1, 0, none⟩), .pointer (some ⟨b2, 0, none⟩)] W fun e w' => e = .panicked [{ v := fltV f.pl f.why, recovered := false }] ∧ Below W.heap.size W w' := by
  have HC : Hid (Calls Tryz.prog 67 #[.string s, .slice a n cc] W fun e w' => Below W.heap.size W w' ∧ e = .panicked [{ v := fltV f.pl f.why, recovered := false }]) := hc
  clear hc
  go_enter Tryz.func66, Tryz.ntmps66
  go_wp2_with fail
  refine HC.out.mono ?_
  rintro e w2 ⟨hb2, rfl⟩
  first | exact ⟨rfl, hb2⟩ | exact ⟨rfl, rfl, hb2⟩
theorem ent_check1 (a : Array Value) (W : World) : (callFunc 66 a).run Tryz.prog W = .ok (.enter 66 a) W := xent Tryz.func66 (by kernel_rfl) (by rfl) a W
/-- What 'Check' answers. -/
noncomputable def chV (c : List Co) (o : Except Flt X) : Value := match ckO c o with
  | .ok (x, k) => .tuple #[.int .i64 k, .int .i64 0, .nilIface]
  | .error f => .tuple #[.int .i64 0, .int .i64 f.pl, .iface 36 (.int .i64 f.why)]
def ChPost (L : ByteArray → Int → Int → ByteArray → Prop) (w : World) (s : ByteArray) (c : List Co) (e : Ending) (w' : World) : Prop := Below w.heap.size w w' ∧ ∃ o, PX L s o ∧ e = .returned (chV c o)
theorem Ex2.cell {w w' : World} {b1 b2 : Nat} (h : Ex2 w w' b1 b2) {a : Addr} {v : Value} (hc : w.cell? a = some v) (n1 : a.block ≠ b1) (n2 : a.block ≠ b2) : w'.cell? a = some v := by
  have hl := World.block_lt_of_cell? _ _ hc
  have := h.block _ hl n1 n2
  rw [← hc]
  simp only [World.cell?, this]
theorem Ex2.below {w0 w w' : World} {b1 b2 : Nat} (h : Ex2 w w' b1 b2) (hb : Below w0.heap.size w0 w) (n1 : w0.heap.size ≤ b1) (n2 : w0.heap.size ≤ b2) : Below w0.heap.size w0 w' :=
  ⟨h.os.trans hb.os, h.tape.trans hb.tape, h.output.trans hb.output, Nat.le_trans hb.size h.size, fun i hi => (h.block i (Nat.lt_of_lt_of_le hi hb.size) (by omega) (by omega)).trans (hb.block i hi)⟩
theorem kept2_of {W w' : World} (h : Below ((W.alloc (.cells #[.int .i64 0] 3)).alloc (.cells #[.nilIface] 31)).heap.size ((W.alloc (.cells #[.int .i64 0] 3)).alloc (.cells #[.nilIface] 31)) w') : Kept2 W w' := by
  have hs : ((W.alloc (.cells #[.int .i64 0] 3)).alloc (.cells #[.nilIface] 31)).heap.size = W.heap.size + 1 + 1 := by simp
  refine ⟨by have := h.size; omega, ?_, ?_⟩
  · rw [h.block _ (by omega), (xbel1 (W.alloc (.cells #[.int .i64 0] 3)) _).block W.heap.size (by simp)]
    exact heap_alloc_new W _
  · rw [h.block _ (by omega)]
    have := heap_alloc_new (W.alloc (.cells #[.int .i64 0] 3)) (.cells #[.nilIface] 31)
    rw [show (W.alloc (.cells #[.int .i64 0] 3)).heap.size = W.heap.size + 1 from by simp] at this
    exact this
theorem kept2_by {W w' : World} {r : Option Nat} (h : ((W.alloc (.cells #[.int .i64 0] 3)).alloc (.cells #[.nilIface] 31)).grownBy w' r) (hr : ∀ n, r = some n → n < W.heap.size) : Kept2 W w' := by
  have hs : ((W.alloc (.cells #[.int .i64 0] 3)).alloc (.cells #[.nilIface] 31)).heap.size = W.heap.size + 1 + 1 := by simp
  refine ⟨by have := h.size; omega, ?_, ?_⟩
  · rw [h.block _ (by omega) (fun e => by have := hr _ e.symm; omega), (xbel1 (W.alloc (.cells #[.int .i64 0] 3)) _).block W.heap.size (by simp)]
    exact heap_alloc_new W _
  · rw [h.block _ (by omega) (fun e => by have := hr _ e.symm; omega)]
    have := heap_alloc_new (W.alloc (.cells #[.int .i64 0] 3)) (.cells #[.nilIface] 31)
    rw [show (W.alloc (.cells #[.int .i64 0] 3)).heap.size = W.heap.size + 1 from by simp] at this
    exact this
set_option maxHeartbeats 4000000 in
theorem check_any {L : ByteArray → Int → Int → ByteArray → Prop} {G : World → Prop} (hL : OneL L) (hR : RdOk L G) (s : ByteArray) (a : Option Addr) (cc : Nat) (c : List Co) (w : World) (hG : ∀ W W' r, (∀ k, r = some k → w.heap.size ≤ k) → G W → W.grownBy W' r → G W') (hw : G w) (hc : ColsAt w a c) (hm : c.length ≤ maxLen) (hz : ∀ x ∈ c, x.nm.size ≤ 140737488355328) :
    Calls Tryz.prog 46 #[.string s, .slice a c.length cc] w (ChPost L w s c) := by
  obtain ⟨o, ho⟩ := px_exi hL hR s w hG hw
  have HCK : Hid (∀ W, Below w.heap.size w W → Calls Tryz.prog 67 #[.string s, .slice a c.length cc] W fun e w' => Below W.heap.size W w' ∧
      match ckO c o with
      | .ok (x, k) => ∃ t p, e = .returned (.tuple #[.iface t p, .int .i64 k]) ∧ Nd w' (W.heap.size - 1) x (.iface t p)
      | .error f => e = .panicked [{ v := fltV f.pl f.why, recovered := false }]) := fun W hW =>
    checked_is hL hR s a cc c W (fun V V' r h1 h2 h3 => hG V V' r (fun k hk => Nat.le_trans hW.size (h1 k hk)) h2 h3) (hG w W none (fun k hk => by cases hk) hw (xgBelow hW)) (hc.later hW) hm hz ho
  have HO : Hid (PX L s o) := ho
  have hmf := xmf
  clear hL hR hG hw hc hm hz ho
  cases hck : ckO c o with
  | error f =>
    have FIN : Hid (∀ w', Below w.heap.size w w' → ChPost L w s c (.returned (.tuple #[.int .i64 0, .int .i64 f.pl, .iface 36 (.int .i64 f.why)])) w') := fun w' h => ⟨h, o, HO.out, by rw [chV, hck]⟩
    have HC2 : Hid (∀ W, Below w.heap.size w W → Calls Tryz.prog 67 #[.string s, .slice a c.length cc] W fun e w' => Below W.heap.size W w' ∧ e = .panicked [{ v := fltV f.pl f.why, recovered := false }]) := fun W hW => by
      refine (HCK.out W hW).mono ?_
      rintro e w' ⟨h1, h2⟩
      rw [hck] at h2
      exact ⟨h1, h2⟩
    clear HCK hck HO
    go_enter Tryz.func46, Tryz.ntmps46
    go_wp2_with fail
    have HB0 : Hid (Below w.heap.size w (((w.alloc (.cells #[.string s] 9)).alloc (.cells #[.slice a c.length cc] 23)).alloc (.cells #[.int .i64 0] 41))) := ((xbel1 w _).alloc (by simp) _).alloc (by simp; omega) _
    have p0 : (((w.alloc (.cells #[.string s] 9)).alloc (.cells #[.slice a c.length cc] 23)).alloc (.cells #[.int .i64 0] 41)).cell? ⟨w.heap.size, 0, none⟩ = some (.string s) := by go_simp
    have p1 : (((w.alloc (.cells #[.string s] 9)).alloc (.cells #[.slice a c.length cc] 23)).alloc (.cells #[.int .i64 0] 41)).cell? ⟨w.heap.size + 1, 0, none⟩ = some (.slice a c.length cc) := by go_simp
    have hsz : (((w.alloc (.cells #[.string s] 9)).alloc (.cells #[.slice a c.length cc] 23)).alloc (.cells #[.int .i64 0] 41)).heap.size = w.heap.size + 1 + 1 + 1 := by simp
    have p2 : Own (((w.alloc (.cells #[.string s] 9)).alloc (.cells #[.slice a c.length cc] 23)).alloc (.cells #[.int .i64 0] 41)) (w.heap.size + 1 + 1) 41 1 [.int .i64 0] := by
      have := Own.new ((w.alloc (.cells #[.string s] 9)).alloc (.cells #[.slice a c.length cc] 23)) 41 1 #[.int .i64 0] rfl
      simpa using this
    generalize (((w.alloc (.cells #[.string s] 9)).alloc (.cells #[.slice a c.length cc] 23)).alloc (.cells #[.int .i64 0] 41)) = W0 at *
    have hb2 : Below W0.heap.size W0 ((W0.alloc (.cells #[.int .i64 0] 3)).alloc (.cells #[.nilIface] 31)) := (xbel1 W0 _).alloc (by simp) _
    have HD := check1_bad s a c.length cc w.heap.size (w.heap.size + 1) (w.heap.size + 1 + 1) f _ (xcell hb2 p0) (xcell hb2 p1) (HC2.out _ (HB0.out.trans (hb2.mono HB0.out.size)))
    have HE := caught_bad 66 _ W0 (fun w' => Below W0.heap.size W0 w') f.pl f.why ent_check1 (HD.mono (fun e w' ⟨h1, h2⟩ => ⟨h1, kept2_of h2, hb2.trans (h2.mono hb2.size)⟩))
    refine HE.mono ?_
    rintro e w2 ⟨rfl, w1, hb1, hex⟩
    have q2 : w2.cell? ⟨w.heap.size + 1 + 1, 0, none⟩ = some (.int .i64 0) := hex.cell (xcell hb1 (by rw [p2.cell 0 (by decide)]; rfl)) (by simp; omega) (by simp; omega)
    have F3 : Hid (ChPost L w s c (.returned (.tuple #[.int .i64 0, .int .i64 f.pl, .iface 36 (.int .i64 f.why)])) w2) := FIN.out w2 (hex.below (HB0.out.trans (hb1.mono HB0.out.size)) (by omega) (by omega))
    clear FIN HD HE hb1 hex hb2 p0 p1 p2 HB0 HC2
    go_wp2_with fail
    refine bodyPost_ret (v := .tuple #[.int .i64 0, .int .i64 f.pl, .iface 36 (.int .i64 f.why)]) (by simp [results, Tryz.results46, go_sem]) rfl ?_
    exact F3.out
  | ok q =>
    obtain ⟨x, k⟩ := q
    have FIN : Hid (∀ w', Below w.heap.size w w' → ChPost L w s c (.returned (.tuple #[.int .i64 k, .int .i64 0, .nilIface])) w') := fun w' h => ⟨h, o, HO.out, by rw [chV, hck]⟩
    have HC2 : Hid (∀ W, Below w.heap.size w W → Calls Tryz.prog 67 #[.string s, .slice a c.length cc] W fun e w' => Below W.heap.size W w' ∧ ∃ t p, e = .returned (.tuple #[.iface t p, .int .i64 k])) := fun W hW => by
      refine (HCK.out W hW).mono ?_
      rintro e w' ⟨h1, h2⟩
      rw [hck] at h2
      obtain ⟨t, p, h3, _⟩ := h2
      exact ⟨h1, t, p, h3⟩
    clear HCK hck HO
    go_enter Tryz.func46, Tryz.ntmps46
    go_wp2_with fail
    have HB0 : Hid (Below w.heap.size w (((w.alloc (.cells #[.string s] 9)).alloc (.cells #[.slice a c.length cc] 23)).alloc (.cells #[.int .i64 0] 41))) := ((xbel1 w _).alloc (by simp) _).alloc (by simp; omega) _
    have p0 : (((w.alloc (.cells #[.string s] 9)).alloc (.cells #[.slice a c.length cc] 23)).alloc (.cells #[.int .i64 0] 41)).cell? ⟨w.heap.size, 0, none⟩ = some (.string s) := by go_simp
    have p1 : (((w.alloc (.cells #[.string s] 9)).alloc (.cells #[.slice a c.length cc] 23)).alloc (.cells #[.int .i64 0] 41)).cell? ⟨w.heap.size + 1, 0, none⟩ = some (.slice a c.length cc) := by go_simp
    have hsz : (((w.alloc (.cells #[.string s] 9)).alloc (.cells #[.slice a c.length cc] 23)).alloc (.cells #[.int .i64 0] 41)).heap.size = w.heap.size + 1 + 1 + 1 := by simp
    have p2 : Own (((w.alloc (.cells #[.string s] 9)).alloc (.cells #[.slice a c.length cc] 23)).alloc (.cells #[.int .i64 0] 41)) (w.heap.size + 1 + 1) 41 1 [.int .i64 0] := by
      have := Own.new ((w.alloc (.cells #[.string s] 9)).alloc (.cells #[.slice a c.length cc] 23)) 41 1 #[.int .i64 0] rfl
      simpa using this
    generalize (((w.alloc (.cells #[.string s] 9)).alloc (.cells #[.slice a c.length cc] 23)).alloc (.cells #[.int .i64 0] 41)) = W0 at *
    have hb2 : Below W0.heap.size W0 ((W0.alloc (.cells #[.int .i64 0] 3)).alloc (.cells #[.nilIface] 31)) := (xbel1 W0 _).alloc (by simp) _
    have HD := check1_ok s a c.length cc w.heap.size (w.heap.size + 1) (w.heap.size + 1 + 1) k 0 _ (xcell hb2 p0) (xcell hb2 p1) (p2.later hb2) (HC2.out _ (HB0.out.trans (hb2.mono HB0.out.size)))
    have HE := caught_ok 66 _ W0 (fun w' => W0.grownBy w' (some (w.heap.size + 1 + 1)) ∧ w'.cell? ⟨w.heap.size + 1 + 1, 0, none⟩ = some (.int .i64 k)) ent_check1 (HD.mono (fun e w' ⟨h1, h2, h3⟩ => ⟨h1, kept2_by h2 (fun n hn => by cases hn; omega), xgTrans (xgBelow hb2) h2, h3⟩))
    refine HE.mono ?_
    rintro e w2 ⟨rfl, w1, ⟨hb1, hc1⟩, hex⟩
    have q2 : w2.cell? ⟨w.heap.size + 1 + 1, 0, none⟩ = some (.int .i64 k) := hex.cell hc1 (by simp; omega) (by simp; omega)
    have F3 : Hid (ChPost L w s c (.returned (.tuple #[.int .i64 k, .int .i64 0, .nilIface])) w2) := FIN.out w2 (hex.below (xbNew HB0.out hb1 (fun n hn => by cases hn; omega)) (by omega) (by omega))
    clear FIN HD HE hb1 hc1 hex hb2 p0 p1 p2 HB0 HC2
    go_wp2_with fail
    refine bodyPost_ret (v := .tuple #[.int .i64 k, .int .i64 0, .nilIface]) (by simp [results, Tryz.results46, go_sem]) rfl ?_
    exact F3.out
end Go.Proofs.YtplaplhmjpfbjaaGreatDoor
