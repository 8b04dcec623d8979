import Derived.Test.YtakbnhknkbmhlabDoorOpnE
namespace Go.Proofs.YtakbnhknkbmhlabDoor
open Go.RowKit
set_option linter.unusedVariables false
set_option maxRecDepth 100000

set_option maxHeartbeats 4000000 in
theorem opens_walk (a : Option Addr) (len cap : Nat) (f : Nat → UInt8) (at_ : Int) (w : World) (hl : Bytes w a len f) (hc : len ≤ cap) (hm : cap ≤ 140737488355328) (ha1 : -9223372036854775808 ≤ at_) (ha2 : at_ ≤ 9223372036854775807) (hq : Quart w) (he : Ety w) :
    Calls Tryd.prog 5 #[.slice a len cap, .int .i64 at_] w fun e w' => e = .returned (.bool true) ∧ Below w.heap.size w w' := by
  obtain ⟨i0, hi0, hz0, hz1, hz2⟩ := info_parts info5
  have HL : Hid (Bytes w a len f) := hl
  have HQ : Hid (Quart w) := hq
  have HT : Hid (Ety w) := he
  clear hl hq he
  go_enter Tryd.func5, Tryd.ntmps5
  go_wp2_with fail
  refine (copied_any a len cap f w HL.out (by omega)).mono ?_
  rintro e w1 ⟨rfl, hb1, hB1, hlt1⟩
  have HB1 : Hid (Below w.heap.size w w1) := hB1
  have HI1 : Hid (Bytes w1 (some ⟨w.heap.size, 0, none⟩) len f) := hb1
  have HL1 : Hid (Bytes w1 a len f) := HL.out.later hB1
  have HQ1 : Hid (Quart w1) := HQ.out.later hB1
  have HT1 : Hid (Ety w1) := HT.out.later hB1
  clear hb1 hB1 HQ HT
  go_wp2_with fail
  refine (open_any (some ⟨w.heap.size, 0, none⟩) len len f at_ w1 HI1.out (Nat.le_refl _) (by omega) ha1 ha2 HQ1.out).mono ?_
  rintro e w2 ⟨hB2, v', rfl, hown⟩
  have HB2 : Hid (Below w1.heap.size w1 w2) := hB2
  have HO2 : Hid (w2.ownsRow w1.heap.size 5 1 v' (opnN f len at_) ((List.range (opnN f len at_)).map fun i => u8v (opnF f at_ i))) := hown
  have HL2 : Hid (Bytes w2 a len f) := HL1.out.later hB2
  have HT2 : Hid (Ety w2) := HT1.out.later hB2
  clear hB2 hown HQ1 HT1
  go_wp2_with fail
  refine (refOpen_any a len cap f at_ w2 HL2.out hc hm ha1 ha2).mono ?_
  rintro e w3 ⟨hB3, a', c', rfl, hby⟩
  have HB3 : Hid (Below w2.heap.size w2 w3) := hB3
  have HY3 : Hid (Bytes w3 a' (opnN f len at_) (opnF f at_)) := hby
  have HT3 : Hid (Ety w3) := HT2.out.later hB3
  have hle := opnN_le f len at_
  have hsm := opnN_small f len at_
  generalize opnN f len at_ = n at *
  generalize opnT f len at_ = T at *
  generalize opnE f len at_ = E at *
  clear hB3 hby HT2 HL2
  go_wp2_with fail
  refine (told_any E w3 HT3.out).mono ?_
  rintro e w4 ⟨rfl, hB4⟩
  have HB4 : Hid (Below w3.heap.size w3 w4) := hB4
  have hown4 := own_later (own_later HO2.out HB3.out) hB4
  have hby4 := HY3.out.later hB4
  have hs1 : w1.heap.size ≤ w4.heap.size := Nat.le_trans HB2.out.size (Nat.le_trans HB3.out.size hB4.size)
  have HB14 : Hid (Below w1.heap.size w1 w4) := (HB2.out.trans (HB3.out.mono HB2.out.size)).trans (hB4.mono (Nat.le_trans HB2.out.size HB3.out.size))
  clear hB4 HO2 HY3 HT3 HB2 HB3 HB4
  have V2 := conv_bytes w4 a' n c' (opnF f at_) hby4
  have hS := beq_str (rfl : bstr (opnF f at_) n = bstr (opnF f at_) n)
  have V3 : ∀ W, Below w1.heap.size w1 W → (convert 22 9 (.slice (some ⟨w.heap.size, 0, none⟩) len len)).run Tryd.prog W = .ok (.string (bstr f len)) W := fun W h => conv_bytes W _ _ _ f (HI1.out.later h)
  have V4 : ∀ W, Below w1.heap.size w1 W → (convert 22 9 (.slice a len cap)).run Tryd.prog W = .ok (.string (bstr f len)) W := fun W h => conv_bytes W _ _ _ f (HL1.out.later h)
  have HV3 : Hid _ := V3
  have HV4 : Hid _ := V4
  have hS3 : Hid _ := beq_str (rfl : bstr f len = bstr f len)
  clear V3 V4 HI1 HL1 HL hby4
  have hv : (v' = .slice none 0 0 ∧ n = 0) ∨ ∃ g c, v' = .slice (some ⟨g, 0, none⟩) n c := by
    rcases hown4.2 with h | ⟨g, c, _, h, _⟩
    · exact .inl h
    · exact .inr ⟨g, c, h⟩
  rcases hv with ⟨rfl, rfl⟩ | ⟨g, c, rfl⟩
  · have V1 := conv_bytes w4 none 0 0 (opnF f at_) (fun i hi => absurd hi (by omega))
    have HBE : Hid (Below w1.heap.size w1 w4) := HB14.out
    have HSE := hs1
    have HOE : Hid (∃ ys, w4.ownsRow w1.heap.size 5 1 (.slice none 0 0) (0 + 0) ys) := ⟨_, hown4⟩
    clear hown4
    generalize bstr (opnF f at_) 0 = S at *
    go_wp2
    refine wp_loop_rounds 1 ?_
    rw [rounds_succ]
    clear V1 V2 hS
    go_wp2
    go_loopw [14, 15] (fun v i w' => ∃ k : Nat, k ≤ 70 ∧ i = .int .i64 k ∧ Below w1.heap.size w1 w' ∧ w1.heap.size ≤ w'.heap.size ∧ ∃ ys, w'.ownsRow w1.heap.size 5 1 v (0 + k) ys) (fun _ i _ => 70 - (intOf i).toNat)
    case atStart => exact ⟨0, Nat.zero_le _, rfl, HBE.out, HSE, HOE.out⟩
    case round =>
      obtain ⟨k, hk, rfl, hb, hsz, ys, hown⟩ := hrel
      have HBK : Hid (Below w1.heap.size w1 wr) := hb
      have HW : Hid (wr.ownsRow w1.heap.size 5 1 u14 (0 + k) ys) := hown
      clear hb hown
      by_cases hlt : k < 70
      · have hki : (k : Int) < 70 := by omega
        go_wp2_with (first
          | (at_builtin; refine wpList_append_own _ rfl _ _ 22 rfl w1.heap.size 5 i0 (.int .u8 0) 1 1 Tryd.underlying22 hi0 hz0 hz1 hz2 rfl (by decide) _ _ _ rfl (HW.out.alloc _) ⟨wr.heap.size, 0, none⟩ 1 1 [u8v 238] rfl rfl ?c1 ?c2 ?c3 ?c4 ?c5 ?_))
        case c1 =>
          intro j u hj
          match j, hj with
          | 0, hj => simp at hj; subst hj; simp [Addr.add, u8v]
        case c2 => intro u hu; simp at hu; subst hu; rfl
        case c3 => unfold maxLen; omega
        case c4 => omega
        case c5 => simp; omega
        · intro v2 w5 hown' hgrow _
          have hB5 : Below w1.heap.size w1 w5 := (HBK.out.alloc hsz _).grown hgrow (by simp; omega) (fun j hj => (HW.out.lt j hj).1)
          have HO' : Hid (∃ ys, w5.ownsRow w1.heap.size 5 1 v2 (0 + (k + 1)) ys) := ⟨_, by rw [Nat.zero_add]; exact hown'⟩
          have hs5 : w1.heap.size ≤ w5.heap.size := hB5.size
          have HB5 : Hid (Below w1.heap.size w1 w5) := hB5
          clear hown' hgrow HW HBK hB5
          go_wp2
          go_roundw
          case rel => exact ⟨k + 1, by omega, by go_num, HB5.out, hs5, HO'.out⟩
          case measure => simp [intOf]; omega
      · obtain rfl : k = 70 := by omega
        obtain ⟨g2, c2, rfl, -, -⟩ := HW.out.form (by omega)
        have V3 := HV3.out wr HBK.out
        have V4 := HV4.out wr HBK.out
        have hS3' := hS3.out
        generalize bstr f len = S3 at *
        clear HV3 HV4 hS3
        go_wp2
        go_ret
        exact ⟨rfl, HB1.out.trans (HBK.out.mono (Nat.le_of_lt hlt1))⟩
  · have V1 := conv_bytes w4 (some ⟨g, 0, none⟩) n c (opnF f at_) (bytes_of_own hown4)
    have HO : Hid (∃ xs, w4.ownsRow w1.heap.size 5 1 (.slice (some ⟨g, 0, none⟩) n c) n xs ∧ ∀ j, j < n → ∃ x : Nat, x < 256 ∧ xs[j]? = some (.int .u8 (x : Int))) := by
      refine ⟨_, hown4, fun j hj => ⟨(opnF f at_ j).toNat, by have := UInt8.toNat_lt (opnF f at_ j); omega, ?_⟩⟩
      simp [hj, u8v]
    clear hown4
    generalize bstr (opnF f at_) n = S at *
    go_wp2
    clear V1 V2 hS
    go_loopw [13] (fun i w' => ∃ k : Nat, k ≤ n ∧ i = .int .i64 k ∧ Below w1.heap.size w1 w' ∧ w1.heap.size ≤ w'.heap.size ∧ ∃ xs, w'.ownsRow w1.heap.size 5 1 (.slice (some ⟨g, 0, none⟩) n c) n xs ∧ ∀ j, j < n → ∃ x : Nat, x < 256 ∧ xs[j]? = some (.int .u8 (x : Int))) (fun i _ => n - (intOf i).toNat)
    case atStart => exact ⟨0, Nat.zero_le _, rfl, HB14.out, hs1, HO.out⟩
    case round =>
      obtain ⟨k, hk, rfl, hb, hsz, xs, hown, hx⟩ := hrel
      by_cases hlt : k < n
      · obtain ⟨x, hx1, hx2⟩ := hx k hlt
        have c1 : wr.cell? ⟨g, k, none⟩ = some (.int .u8 (x : Int)) := by rw [hown.cellAt k (by omega)]; exact hx2
        have fr := hown.frozenAt k
        have hki : (k : Int) < (n : Int) := by omega
        have t1 : (0 : Int) ≤ (x : Int) := by omega
        have t2 : (x : Int) ≤ 255 := by omega
        have HW : Hid (wr.ownsRow w1.heap.size 5 1 (.slice (some ⟨g, 0, none⟩) n c) n xs) := hown
        have HX : Hid (∀ j, j < n → ∃ x : Nat, x < 256 ∧ xs[j]? = some (.int .u8 (x : Int))) := hx
        have HBK : Hid (Below w1.heap.size w1 wr) := hb
        clear hown hx hb
        go_wp2
        go_roundw
        case rel =>
          refine ⟨k + 1, by omega, by go_num, HBK.out.setCell (HW.out.lt g rfl).1 _, by simp; omega, _, (HW.out.stored k _).1, ?_⟩
          intro j hj
          by_cases hjk : k = j
          · subst hjk
            refine ⟨(x + 101) % 256, by omega, ?_⟩
            have hl2 : k < xs.length := by have := HW.out.1; omega
            rw [List.getElem?_set_self hl2]
            congr 2
          · obtain ⟨y, hy1, hy2⟩ := HX.out j hj
            exact ⟨y, hy1, by rw [List.getElem?_set_ne hjk]; exact hy2⟩
        case measure => simp [intOf]; omega
      · obtain rfl : n = k := by omega
        have HBE : Hid (Below w1.heap.size w1 wr) := hb
        have HSE := hsz
        have HOE : Hid (∃ ys, wr.ownsRow w1.heap.size 5 1 (.slice (some ⟨g, 0, none⟩) n c) (n + 0) ys) := ⟨xs, hown⟩
        clear hb hown hx HO
        go_wp2
        go_loopw [14, 15] (fun v i w' => ∃ k : Nat, k ≤ 70 ∧ i = .int .i64 k ∧ Below w1.heap.size w1 w' ∧ w1.heap.size ≤ w'.heap.size ∧ ∃ ys, w'.ownsRow w1.heap.size 5 1 v (n + k) ys) (fun _ i _ => 70 - (intOf i).toNat)
        case atStart => exact ⟨0, Nat.zero_le _, rfl, HBE.out, HSE, HOE.out⟩
        case round =>
          obtain ⟨k, hk, rfl, hb, hsz, ys, hown⟩ := hrel
          have HBK : Hid (Below w1.heap.size w1 wr) := hb
          have HW : Hid (wr.ownsRow w1.heap.size 5 1 u14 (n + k) ys) := hown
          clear hb hown
          by_cases hlt : k < 70
          · have hki : (k : Int) < 70 := by omega
            go_wp2_with (first
              | (at_builtin; refine wpList_append_own _ rfl _ _ 22 rfl w1.heap.size 5 i0 (.int .u8 0) 1 1 Tryd.underlying22 hi0 hz0 hz1 hz2 rfl (by decide) _ _ _ rfl (HW.out.alloc _) ⟨wr.heap.size, 0, none⟩ 1 1 [u8v 238] rfl rfl ?c1 ?c2 ?c3 ?c4 ?c5 ?_))
            case c1 =>
              intro j u hj
              match j, hj with
              | 0, hj => simp at hj; subst hj; simp [Addr.add, u8v]
            case c2 => intro u hu; simp at hu; subst hu; rfl
            case c3 => unfold maxLen; omega
            case c4 => omega
            case c5 => simp; omega
            · intro v2 w5 hown' hgrow _
              have hB5 : Below w1.heap.size w1 w5 := (HBK.out.alloc hsz _).grown hgrow (by simp; omega) (fun j hj => (HW.out.lt j hj).1)
              have HO' : Hid (∃ ys, w5.ownsRow w1.heap.size 5 1 v2 (n + (k + 1)) ys) := ⟨_, hown'⟩
              have hs5 : w1.heap.size ≤ w5.heap.size := hB5.size
              have HB5 : Hid (Below w1.heap.size w1 w5) := hB5
              clear hown' hgrow HW HBK hB5
              go_wp2
              go_roundw
              case rel => exact ⟨k + 1, by omega, by go_num, HB5.out, hs5, HO'.out⟩
              case measure => simp [intOf]; omega
          · obtain rfl : k = 70 := by omega
            obtain ⟨g2, c2, rfl, -, -⟩ := HW.out.form (by omega)
            have V3 := HV3.out wr HBK.out
            have V4 := HV4.out wr HBK.out
            have hS3' := hS3.out
            generalize bstr f len = S3 at *
            clear HV3 HV4 hS3
            go_wp2
            go_ret
            exact ⟨rfl, HB1.out.trans (HBK.out.mono (Nat.le_of_lt hlt1))⟩
end Go.Proofs.YtakbnhknkbmhlabDoor
