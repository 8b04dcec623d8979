import Derived.Test.YtdnkfikgfcpobaaDoorWrtG
namespace Go.Proofs.YtdnkfikgfcpobaaDoor
open Go.RowKit
set_option linter.unusedVariables false
set_option maxRecDepth 100000

theorem encRows_pos (rs : List Rw) : 0 < (encRows rs).length := by
  unfold encRows; rw [List.length_append]; have := encInt_pos (rs.length : Int); omega

set_option maxHeartbeats 4000000 in
theorem writes_walk (a : Option Addr) (len cap : Nat) (f : Nat → UInt8) (ar : Option Addr) (capr : Nat) (rs : List Rw) (n : Int) (w : World) (hl : Bytes w a len f) (hr : RLies w ar rs) (hg : ∀ r ∈ rs, GoodR r) (hrl : rs.length ≤ 549755813888) (hE : len + (encRows rs).length ≤ 549755813888) (hn1 : -9223372036854775808 ≤ n) (hn2 : n ≤ 9223372036854775807) (hq : Quart w) :
    Calls Tryd.prog 3 #[.slice a len cap, .slice ar rs.length capr, .int .i64 n] w fun e w' => e = .returned (.bool true) ∧ Below w.heap.size w w' := by
  have HL : Hid (Bytes w a len f) := hl
  have HR : Hid (RLies w ar rs) := hr
  have HG : Hid (∀ r ∈ rs, GoodR r) := hg
  have HQ : Hid (Quart w) := hq
  have hrp := encRows_pos rs
  have hip := encInt_pos n
  have h10 := encInt_len n hn1 hn2
  clear hl hr hg hq
  go_enter Tryd.func3, Tryd.ntmps3
  go_wp2_with fail
  refine (copied_ol a len cap f w HL.out (by omega)).mono ?_
  rintro e w1 ⟨rfl, ho1, hb1, hlt1⟩
  have H1 : Hid (OL w1 w.heap.size (.slice (some ⟨w.heap.size, 0, none⟩) len len) (blist f len)) := ho1
  have HB1 : Hid (Below w.heap.size w w1) := hb1
  clear ho1 hb1
  go_wp2_with fail
  refine (putRows_any w w1 ar capr rs _ (blist f len) HR.out HG.out hrl HB1.out H1.out (by rw [blist_len]; exact hE)).mono ?_
  rintro e w2 ⟨vb, rfl, ho2, hb2⟩
  have H2 : Hid (OL w2 w.heap.size vb (blist f len ++ encRows rs)) := ho2
  have HB2 : Hid (Below w.heap.size w w2) := HB1.out.trans hb2
  have hs2 := HB2.out.size
  clear ho2 hb2 H1 HB1
  go_wp2_with fail
  refine (copied_ol a len cap f w2 (HL.out.later HB2.out) (by omega)).mono ?_
  rintro e w3 ⟨rfl, ho3, hb3, hlt3⟩
  have H3 : Hid (OL w3 w2.heap.size (.slice (some ⟨w2.heap.size, 0, none⟩) len len) (blist f len)) := ho3
  have HB3 : Hid (Below w2.heap.size w2 w3) := hb3
  clear ho3 hb3
  go_wp2_with fail
  refine (putInt_ol _ (blist f len) n w2.heap.size w3 H3.out (by omega) hn1 hn2 (by rw [blist_len]; omega)).mono ?_
  rintro e w4 ⟨vc, rfl, ho4, hon4⟩
  have H4 : Hid (OL w4 w2.heap.size vc (blist f len ++ encInt n)) := ho4
  have HB24 : Hid (Below w2.heap.size w2 w4) := HB3.out.trans (hon4.below H3.out (by omega))
  have H2' : Hid (OL w4 w.heap.size vb (blist f len ++ encRows rs)) := H2.out.later HB24.out
  have HB4 : Hid (Below w.heap.size w w4) := HB2.out.trans (HB24.out.mono hs2)
  clear ho4 hon4 H3 HB3 H2 HB24 HB2
  go_wp2_with fail
  refine (refRows_any w4 ar capr rs (HR.out.later HB4.out) HG.out hrl (by omega)).mono ?_
  rintro e w5 ⟨vx, rfl, ho5, hb5⟩
  have H5 : Hid (OL w5 w4.heap.size vx (encRows rs)) := ho5
  have HB5 : Hid (Below w.heap.size w w5) := HB4.out.trans (hb5.mono HB4.out.size)
  have K2 : Hid (OL w5 w.heap.size vb (blist f len ++ encRows rs)) := H2'.out.later hb5
  have K4 : Hid (OL w5 w2.heap.size vc (blist f len ++ encInt n)) := H4.out.later hb5
  clear ho5 hb5 H2' H4 HB4
  go_wp2_with fail
  refine (refInt_ol n w5 hn1 hn2).mono ?_
  rintro e w6 ⟨vy, rfl, ho6, hb6⟩
  have HB6 : Hid (Below w.heap.size w w6) := HB5.out.trans (hb6.mono HB5.out.size)
  have J2 : Hid (OL w6 w.heap.size vb (blist f len ++ encRows rs)) := K2.out.later hb6
  have J4 : Hid (OL w6 w2.heap.size vc (blist f len ++ encInt n)) := K4.out.later hb6
  have J5 : Hid (OL w6 w4.heap.size vx (encRows rs)) := H5.out.later hb6
  have J6 : Hid (OL w6 w5.heap.size vy (encInt n)) := ho6
  have JL : Hid (Bytes w6 a len f) := HL.out.later HB6.out
  have JQ : Hid (Quart w6) := HQ.out.later HB6.out
  clear ho6 hb6 K2 K4 H5 HL HQ HB5
  go_wp2_with fail
  refine (sum_any a len cap f w6 JL.out (by unfold maxLen; omega) JQ.out).mono ?_
  rintro e w7 ⟨rfl, rfl⟩
  go_wp2_with fail
  refine (refSum_any a len cap f w7 JL.out (by unfold maxLen; omega)).mono ?_
  rintro e w8 ⟨rfl, rfl⟩
  generalize sumN f len = sm at *
  obtain ⟨g, cb, rfl, hc1, hc2⟩ : ∃ g c, vb = .slice (some ⟨g, 0, none⟩) (len + (encRows rs).length) c ∧ len + (encRows rs).length ≤ c ∧ c ≤ maxLen := by
    rcases J2.out.form with ⟨-, h⟩ | ⟨g, c, h1, h2, h3⟩
    · have := congrArg List.length h; rw [List.length_append, List.length_nil] at this; omega
    · rw [List.length_append, blist_len] at h1 h2; exact ⟨g, c, h1, h2, h3⟩
  obtain ⟨ac, cc, rfl, hvc, -, -⟩ := J4.out.conv
  obtain ⟨ax, cx, rfl, hvx, -, -⟩ := J5.out.conv
  obtain ⟨ay, cy, rfl, hvy, -, -⟩ := J6.out.conv
  have hbb := J2.out.bytes.2
  rw [List.length_append, blist_len] at hbb
  have lc : (blist f len ++ encInt n).length = len + (encInt n).length := by rw [List.length_append, blist_len]
  rw [lc] at hvc ⊢
  have V1 : ∀ q, (convert 22 9 (.slice (some ⟨g, 0, none⟩) len cb)).run Tryd.prog (w8.drewN q) = .ok (.string (bstr f len)) (w8.drewN q) := fun q => by
    have h := conv_bytes (w8.drewN q) (some ⟨g, 0, none⟩) len cb (lat (blist f len ++ encRows rs)) ((show Bytes w8 (some ⟨g, 0, none⟩) len (lat (blist f len ++ encRows rs)) from fun i hi => hbb i (by omega)).later (below_drewN (Below.refl _ _) q))
    rw [bstr_left] at h
    exact h
  have V2 : ∀ q, (convert 22 9 (.slice a len cap)).run Tryd.prog (w8.drewN q) = .ok (.string (bstr f len)) (w8.drewN q) := fun q => conv_bytes _ _ _ _ _ (JL.out.later (below_drewN (Below.refl _ _) q))
  have V3 : ∀ q, (convert 22 9 (.slice ac (len + (encInt n).length) cc)).run Tryd.prog (w8.drewN q) = .ok (.string (bstr f len ++ lstr (encInt n))) (w8.drewN q) := fun q => by
    have h := conv_bytes (w8.drewN q) ac (len + (encInt n).length) cc _ (hvc.later (below_drewN (Below.refl _ _) q))
    rw [← lc, bstr_lat, ← lstr_append, ← bstr_blist, lc] at h
    exact h
  have V4 : ∀ q, (convert 22 9 (.slice ay (encInt n).length cy)).run Tryd.prog (w8.drewN q) = .ok (.string (lstr (encInt n))) (w8.drewN q) := fun q => by
    have h := conv_bytes (w8.drewN q) ay (encInt n).length cy _ (hvy.later (below_drewN (Below.refl _ _) q))
    rw [bstr_lat] at h
    exact h
  have HV5 : Hid (∀ W, Below w8.heap.size w8 W → (convert 22 9 (.slice (some ⟨g, len, none⟩) (encRows rs).length (cb - len))).run Tryd.prog W = .ok (.string (lstr (encRows rs))) W) := fun W hb => by
    have hB : Bytes W (some ⟨g, len, none⟩) (encRows rs).length (fun i => lat (blist f len ++ encRows rs) ((blist f len).length + i)) := by
      intro i hi
      obtain ⟨b, o, e, hc⟩ := (hbb.later hb) (len + i) (by omega)
      cases e
      refine ⟨g, len, rfl, ?_⟩
      rw [blist_len]
      rw [Nat.zero_add] at hc
      exact hc
    have h := conv_bytes W _ (encRows rs).length (cb - len) _ hB
    rw [bstr_right] at h
    exact h
  have HV6 : Hid (∀ W, Below w8.heap.size w8 W → (convert 22 9 (.slice ax (encRows rs).length cx)).run Tryd.prog W = .ok (.string (lstr (encRows rs))) W) := fun W hb => by
    have h := conv_bytes W ax (encRows rs).length cx _ (hvx.later hb)
    rw [bstr_lat] at h
    exact h
  have HS1 := beq_str (rfl : bstr f len = bstr f len)
  have HS2 := beq_str (rfl : bstr f len ++ lstr (encInt n) = bstr f len ++ lstr (encInt n))
  have HS3 : Hid _ := beq_str (rfl : lstr (encRows rs) = lstr (encRows rs))
  have hsz1 : Hid ((bstr f len).size = len) := by rw [Hid, bstr_blist, lstr_size, blist_len]
  have hsz2 : Hid ((lstr (encInt n)).size = (encInt n).length) := lstr_size _
  have JR : Hid (RLies w8 ar rs) := HR.out.later HB6.out
  have e1 := hsz1.out
  have e2 := hsz2.out
  clear hbb hvc hvx hvy J2 J4 J5 J6 JL JQ lc hsz1 hsz2 HR
  generalize bstr f len = S1 at *
  generalize lstr (encInt n) = S2 at *
  generalize lstr (encRows rs) = S3 at *
  generalize (encInt n).length = N at *
  generalize (encRows rs).length = R at *
  have hgd : decide (((len + R : Nat) : Int) < (len : Int)) = false := decide_eq_false (by omega)
  have hgd' : decide ((len : Int) + (R : Int) < (len : Int)) = false := decide_eq_false (by omega)
  unfold maxLen at hc2
  go_wp2
  go_quiet (fail)
  clear V1 V2 V3 V4 HS1 HS2
  have HBq : Hid (Below w8.heap.size w8 (w8.drewN nq)) := below_drewN (Below.refl _ _) nq
  go_wp2_with fail
  refine (valid_any rs ar capr (w8.drewN nq) (JR.out.later HBq.out) HG.out hrl).mono ?_
  rintro e w9 ⟨rfl, hb9⟩
  have HB9 : Hid (Below w8.heap.size w8 w9) := HBq.out.trans hb9
  clear hb9 HBq
  have V5 : ∀ q, (convert 22 9 (.slice (some ⟨g, len, none⟩) R (cb - len))).run Tryd.prog (w9.drewN q) = .ok (.string S3) (w9.drewN q) := fun q => HV5.out _ (below_drewN HB9.out q)
  have V6 : ∀ q, (convert 22 9 (.slice ax R cx)).run Tryd.prog (w9.drewN q) = .ok (.string S3) (w9.drewN q) := fun q => HV6.out _ (below_drewN HB9.out q)
  have HS3' := HS3.out
  have hcl : ¬ cb = len := by omega
  clear HV5 HV6 HS3
  cases hv : rs.all validR with
  | false =>
    go_wp2
    go_quiet (fail)
    go_wp2
    go_ret
    exact ⟨rfl, HB6.out.trans (below_drewN (HB9.out.mono HB6.out.size) _)⟩
  | true =>
    go_wp2
    go_quiet (fail)
    go_wp2
    go_ret
    exact ⟨rfl, HB6.out.trans (below_drewN (HB9.out.mono HB6.out.size) _)⟩
end Go.Proofs.YtdnkfikgfcpobaaDoor
