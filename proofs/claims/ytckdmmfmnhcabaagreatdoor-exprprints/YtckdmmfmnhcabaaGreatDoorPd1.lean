import Derived.Test.YtckdmmfmnhcabaaGreatDoorPc1
import Derived.Test.YtckdmmfmnhcabaaGreatDoorChB
namespace Go.Proofs.YtckdmmfmnhcabaaGreatDoor.Dc
open Go.RowKit
set_option linter.unusedVariables false
set_option linter.unusedSimpArgs false
set_option maxRecDepth 100000

theorem printD_lit (b : Nat) (k n : Int) (t S : ByteArray) (least : Int) (w : World) (c0 : w.cell? ⟨b, 0, none⟩ = some (.string bValue)) (c3 : w.cell? ⟨b, 3, none⟩ = some (.int .i64 k)) (c4 : w.cell? ⟨b, 4, none⟩ = some (.int .i64 n)) (c5 : w.cell? ⟨b, 5, none⟩ = some (.string t)) (hl : least ≤ 9)
   (H : Calls Tryz.prog 29 #[.agg #[.int .i64 k, .int .i64 n, .string t]] w fun e w' => e = .returned (.string S) ∧ Below w.heap.size w w') :
   Calls Tryz.prog 13 #[ptrE b, .int .i64 least] w fun e w' => e = .returned (.string S) ∧ Below w.heap.size w w' := by
 have HH := xhidMk H
 unfold bValue at c0
 unfold ptrE
 have h9 : ¬ (9 : Int) < least := by omega
 clear H
 go_enter Tryz.func13, Tryz.ntmps13
 go_wp2_with fail
 refine HH.out.mono ?_
 rintro e w1 ⟨rfl, hb⟩
 have HB := xhidMk hb
 clear hb HH
 go_wp2_with fail
 go_ret
 exact ⟨rfl, HB.out⟩
theorem printD_col (b : Nat) (nm : ByteArray) (least : Int) (w : World) (c0 : w.cell? ⟨b, 0, none⟩ = some (.string bName)) (c6 : w.cell? ⟨b, 6, none⟩ = some (.string nm)) (hl : least ≤ 9) :
   Calls Tryz.prog 13 #[ptrE b, .int .i64 least] w fun e w' => e = .returned (.string nm) ∧ Below w.heap.size w w' := by
 unfold bName at c0
 unfold ptrE
 have h9 : ¬ (9 : Int) < least := by omega
 go_enter Tryz.func13, Tryz.ntmps13
 go_wp2_with fail
 go_ret
 exact ⟨rfl, Below.refl _ _⟩
def bNotSp : ByteArray := ⟨#[110, 111, 116, 32]⟩
theorem printD_minus (b kb kc : Nat) (u : Value) (S : ByteArray) (least : Int) (w : World) (c0 : w.cell? ⟨b, 0, none⟩ = some (.string bMinusW)) (c2 : w.cell? ⟨b, 2, none⟩ = some (.slice (some ⟨kb, 0, none⟩) 1 kc)) (k0 : w.cell? ⟨kb, 0, none⟩ = some u) (hs : S.size ≤ 1000000)
   (H : Calls Tryz.prog 13 #[u, .int .i64 7] w fun e w' => e = .returned (.string S) ∧ Below w.heap.size w w') :
   Calls Tryz.prog 13 #[ptrE b, .int .i64 least] w fun e w' => e = .returned (.string (brk (decide (7 < least)) (bMinus ++ S))) ∧ Below w.heap.size w w' := by
 have HH := xhidMk H
 unfold bMinusW at c0
 unfold ptrE
 have j1 : (9223372036854775807 < 1 + S.size) = False := by simp; omega
 have j2 : (9223372036854775807 < 1 + (1 + S.size)) = False := by simp; omega
 have j3 : (9223372036854775807 < 1 + (1 + S.size) + 1) = False := by simp; omega
 clear H
 by_cases h7 : 7 < least
 · rw [decide_eq_true h7]
   unfold brk
   rw [if_pos rfl]
   go_enter Tryz.func13, Tryz.ntmps13
   go_wp2_with fail
   refine HH.out.mono ?_
   rintro e w1 ⟨rfl, hb⟩
   have HB := xhidMk hb
   clear hb HH
   go_wp2_with fail
   go_ret
   exact ⟨by unfold bMinus bOpn bCls; rfl, HB.out⟩
 · rw [decide_eq_false h7]
   unfold brk
   rw [if_neg (by decide)]
   go_enter Tryz.func13, Tryz.ntmps13
   go_wp2_with fail
   refine HH.out.mono ?_
   rintro e w1 ⟨rfl, hb⟩
   have HB := xhidMk hb
   clear hb HH
   go_wp2_with fail
   go_ret
   exact ⟨by unfold bMinus; rfl, HB.out⟩
theorem printD_not (b kb kc : Nat) (u : Value) (S : ByteArray) (least : Int) (w : World) (c0 : w.cell? ⟨b, 0, none⟩ = some (.string bNot)) (c2 : w.cell? ⟨b, 2, none⟩ = some (.slice (some ⟨kb, 0, none⟩) 1 kc)) (k0 : w.cell? ⟨kb, 0, none⟩ = some u) (hs : S.size ≤ 1000000)
   (H : Calls Tryz.prog 13 #[u, .int .i64 3] w fun e w' => e = .returned (.string S) ∧ Below w.heap.size w w') :
   Calls Tryz.prog 13 #[ptrE b, .int .i64 least] w fun e w' => e = .returned (.string (brk (decide (3 < least)) (bNotSp ++ S))) ∧ Below w.heap.size w w' := by
 have HH := xhidMk H
 unfold bNot at c0
 unfold ptrE
 have j1 : (9223372036854775807 < 4 + S.size) = False := by simp; omega
 have j2 : (9223372036854775807 < 1 + (4 + S.size)) = False := by simp; omega
 have j3 : (9223372036854775807 < 1 + (4 + S.size) + 1) = False := by simp; omega
 clear H
 by_cases h7 : 3 < least
 · rw [decide_eq_true h7]
   unfold brk
   rw [if_pos rfl]
   go_enter Tryz.func13, Tryz.ntmps13
   go_wp2_with fail
   refine HH.out.mono ?_
   rintro e w1 ⟨rfl, hb⟩
   have HB := xhidMk hb
   clear hb HH
   go_wp2_with fail
   go_ret
   exact ⟨by unfold bNotSp bOpn bCls; rfl, HB.out⟩
 · rw [decide_eq_false h7]
   unfold brk
   rw [if_neg (by decide)]
   go_enter Tryz.func13, Tryz.ntmps13
   go_wp2_with fail
   refine HH.out.mono ?_
   rintro e w1 ⟨rfl, hb⟩
   have HB := xhidMk hb
   clear hb HH
   go_wp2_with fail
   go_ret
   exact ⟨by unfold bNotSp; rfl, HB.out⟩
end Go.Proofs.YtckdmmfmnhcabaaGreatDoor.Dc
namespace Go.Proofs.YtckdmmfmnhcabaaGreatDoor.Dc
open Go.RowKit
set_option linter.unusedVariables false
set_option linter.unusedSimpArgs false
set_option maxRecDepth 100000
set_option maxHeartbeats 2000000

theorem signs_ne2 {s : ByteArray} (h : sgn s ≠ 7) : (s.toList == [109, 105, 110, 117, 115]) = false ∧ (s.toList == [110, 111, 116]) = false := by
 refine ⟨xnl fun e => h (by rw [e]; decide +kernel), xnl fun e => h (by rw [e]; decide +kernel)⟩
def leftD (s : ByteArray) : Int := if pow s = 4 then 5 else pow s
theorem printD_inf (s : ByteArray) (hn : sgn s ≠ 7) (hsz : s.size ≤ 1000) (b kb kc : Nat) (u u' : Value) (S S' : ByteArray) (least : Int) (w : World) (c0 : w.cell? ⟨b, 0, none⟩ = some (.string s)) (c2 : w.cell? ⟨b, 2, none⟩ = some (.slice (some ⟨kb, 0, none⟩) 2 kc)) (k0 : w.cell? ⟨kb, 0, none⟩ = some u) (k1 : w.cell? ⟨kb, 1, none⟩ = some u') (hs : S.size ≤ 1000000) (hs' : S'.size ≤ 1000000)
   (H : Calls Tryz.prog 13 #[u, .int .i64 (leftD s)] w fun e w' => e = .returned (.string S) ∧ Below w.heap.size w w')
   (H' : ∀ W, Below w.heap.size w W → Calls Tryz.prog 13 #[u', .int .i64 (pow s + 1)] W fun e w' => e = .returned (.string S') ∧ Below W.heap.size W w') :
   Calls Tryz.prog 13 #[ptrE b, .int .i64 least] w fun e w' => e = .returned (.string (brk (decide (pow s < least)) (S ++ bSp ++ s ++ bSp ++ S'))) ∧ Below w.heap.size w w' := by
 have HH := xhidMk H
 have HH' := xhidMk H'
 obtain ⟨x1, x2, x3⟩ := signs_ne hn
 obtain ⟨x4, x5⟩ := signs_ne2 hn
 have HPW := xhidMk (power_any s w)
 have hp1 : 0 ≤ pow s ∧ pow s ≤ 8 := by
   have := sgn_le s
   unfold pow; split <;> omega
 have j1 : (9223372036854775807 < S.size + 1) = False := by simp; omega
 have j2 : (9223372036854775807 < S.size + 1 + s.size) = False := by simp; omega
 have j3 : (9223372036854775807 < S.size + 1 + s.size + 1) = False := by simp; omega
 have j4 : (9223372036854775807 < S.size + 1 + s.size + 1 + S'.size) = False := by simp; omega
 have j5 : (9223372036854775807 < 1 + (S.size + 1 + s.size + 1 + S'.size)) = False := by simp; omega
 have j6 : (9223372036854775807 < 1 + (S.size + 1 + s.size + 1 + S'.size) + 1) = False := by simp; omega
 unfold leftD at HH
 unfold ptrE
 generalize pow s = pw at *
 have hwr : IntKind.i64.wrap (pw + 1) = pw + 1 := xwi64 (by omega) (by omega)
 have hwr2 : wrap64 (pw + 1) = pw + 1 := xw64 (by omega) (by omega)
 clear H H' hn
 have key : ∀ (S0 : ByteArray), Hid (S0 = S ++ bSp ++ s ++ bSp ++ S') → ∀ tl : Bool, Hid (tl = decide (pw < least)) → Calls Tryz.prog 13 #[.pointer (some ⟨b, 0, none⟩), .int .i64 least] w fun e w' => e = .returned (.string (brk tl S0)) ∧ Below w.heap.size w w' := by
   intro S0 HS0 tl HTL
   unfold brk
   by_cases h4 : pw = 4
   · rw [if_pos h4] at HH
     subst h4
     by_cases hlt : (4 : Int) < least
     · have htl : tl = true := by rw [HTL.out]; exact decide_eq_true hlt
       subst htl
       rw [if_pos rfl]
       clear HTL
       go_enter Tryz.func13, Tryz.ntmps13
       go_wp2_with fail
       refine HPW.out.mono ?_
       rintro e w0 ⟨rfl, rfl⟩
       go_wp2_with fail
       refine HH.out.mono ?_
       rintro e w1 ⟨rfl, hb⟩
       have HB := xhidMk hb
       replace c0 := xcell hb c0
       replace c2 := xcell hb c2
       replace k1 := xcell hb k1
       clear hb HH k0
       go_wp2_with fail
       refine (HH'.out _ HB.out).mono ?_
       rintro e w2 ⟨rfl, hb⟩
       have HB2 : Hid (Below w0.heap.size w0 w2) := HB.out.trans (hb.mono HB.out.size)
       replace c0 := xcell hb c0
       clear hb HH' c2 k1
       go_wp2_with fail
       go_ret
       exact ⟨by rw [HS0.out]; unfold bSp bOpn bCls; rfl, HB2.out⟩
     · have htl : tl = false := by rw [HTL.out]; exact decide_eq_false hlt
       subst htl
       rw [if_neg (by decide)]
       clear HTL
       go_enter Tryz.func13, Tryz.ntmps13
       go_wp2_with fail
       refine HPW.out.mono ?_
       rintro e w0 ⟨rfl, rfl⟩
       go_wp2_with fail
       refine HH.out.mono ?_
       rintro e w1 ⟨rfl, hb⟩
       have HB := xhidMk hb
       replace c0 := xcell hb c0
       replace c2 := xcell hb c2
       replace k1 := xcell hb k1
       clear hb HH k0
       go_wp2_with fail
       refine (HH'.out _ HB.out).mono ?_
       rintro e w2 ⟨rfl, hb⟩
       have HB2 : Hid (Below w0.heap.size w0 w2) := HB.out.trans (hb.mono HB.out.size)
       replace c0 := xcell hb c0
       clear hb HH' c2 k1
       go_wp2_with fail
       go_ret
       exact ⟨by rw [HS0.out]; unfold bSp; rfl, HB2.out⟩
   · rw [if_neg h4] at HH
     have h4d : (pw == 4) = false := by simpa using h4
     by_cases hlt : pw < least
     · have htl : tl = true := by rw [HTL.out]; exact decide_eq_true hlt
       subst htl
       rw [if_pos rfl]
       clear HTL
       go_enter Tryz.func13, Tryz.ntmps13
       go_wp2_with fail
       refine HPW.out.mono ?_
       rintro e w0 ⟨rfl, rfl⟩
       go_wp2_with fail
       refine HH.out.mono ?_
       rintro e w1 ⟨rfl, hb⟩
       have HB := xhidMk hb
       replace c0 := xcell hb c0
       replace c2 := xcell hb c2
       replace k1 := xcell hb k1
       clear hb HH k0
       go_wp2_with fail
       refine (HH'.out _ HB.out).mono ?_
       rintro e w2 ⟨rfl, hb⟩
       have HB2 : Hid (Below w0.heap.size w0 w2) := HB.out.trans (hb.mono HB.out.size)
       replace c0 := xcell hb c0
       clear hb HH' c2 k1
       go_wp2_with fail
       go_ret
       exact ⟨by rw [HS0.out]; unfold bSp bOpn bCls; rfl, HB2.out⟩
     · have htl : tl = false := by rw [HTL.out]; exact decide_eq_false hlt
       subst htl
       rw [if_neg (by decide)]
       clear HTL
       go_enter Tryz.func13, Tryz.ntmps13
       go_wp2_with fail
       refine HPW.out.mono ?_
       rintro e w0 ⟨rfl, rfl⟩
       go_wp2_with fail
       refine HH.out.mono ?_
       rintro e w1 ⟨rfl, hb⟩
       have HB := xhidMk hb
       replace c0 := xcell hb c0
       replace c2 := xcell hb c2
       replace k1 := xcell hb k1
       clear hb HH k0
       go_wp2_with fail
       refine (HH'.out _ HB.out).mono ?_
       rintro e w2 ⟨rfl, hb⟩
       have HB2 : Hid (Below w0.heap.size w0 w2) := HB.out.trans (hb.mono HB.out.size)
       replace c0 := xcell hb c0
       clear hb HH' c2 k1
       go_wp2_with fail
       go_ret
       exact ⟨by rw [HS0.out]; unfold bSp; rfl, HB2.out⟩
 exact key _ rfl _ rfl
end Go.Proofs.YtckdmmfmnhcabaaGreatDoor.Dc
namespace Go.Proofs.YtckdmmfmnhcabaaGreatDoor.Dc
open Go.RowKit
set_option linter.unusedVariables false
set_option linter.unusedSimpArgs false
set_option maxRecDepth 100000
set_option maxHeartbeats 2000000

theorem commas_one (S : ByteArray) : commas [S] = S := by
 unfold commas
 rw [List.map_cons, List.map_nil, Lib.join_one]
theorem commas_snoc (l : List ByteArray) (S : ByteArray) (h : l ≠ []) : commas (l ++ [S]) = commas l ++ bSep ++ S := by
 cases l with
 | nil => exact absurd rfl h
 | cons a l =>
   unfold commas
   rw [List.cons_append, List.map_cons, List.map_cons, Lib.join_cons, Lib.join_cons]
   apply ByteArray.ext
   rw [ByteArray.data_append, ByteArray.data_append]
   apply Array.toList_inj.1
   simp [Lib.joinTail]
def ahead (nm : ByteArray) (l : List ByteArray) : ByteArray := nm ++ bOpn ++ commas l
theorem printD_app (nm : ByteArray) (hnm : nm.size ≤ 1000) (b : Nat) (ka : Option Addr) (kc lo hi : Nat) (us : List Value) (Ss : List ByteArray) (least : Int) (w : World) (c0 : w.cell? ⟨b, 0, none⟩ = some (.string bCall)) (c6 : w.cell? ⟨b, 6, none⟩ = some (.string nm)) (c2 : w.cell? ⟨b, 2, none⟩ = some (.slice ka us.length kc)) (hK : KAt w lo hi (.slice ka us.length kc) us) (hm : us.length ≤ 200) (hl : Ss.length = us.length) (hS : ∀ k, (commas (Ss.take k)).size ≤ 1000000) (hS2 : ∀ S ∈ Ss, S.size ≤ 1000000) (h9 : least ≤ 9)
   (H : ∀ (i : Nat) u S, us[i]? = some u → Ss[i]? = some S → ∀ W, Below w.heap.size w W → Calls Tryz.prog 13 #[u, .int .i64 0] W fun e w' => e = .returned (.string S) ∧ Below W.heap.size W w') :
   Calls Tryz.prog 13 #[ptrE b, .int .i64 least] w fun e w' => e = .returned (.string (nm ++ bOpn ++ commas Ss ++ bCls)) ∧ Below w.heap.size w w' := by
 have HK := xhidMk hK
 have HH := xhidMk H
 have HL := xhidMk hl
 have HS := xhidMk hS
 have HS2 := xhidMk hS2
 have h9' : ¬ (9 : Int) < least := by omega
 obtain ⟨T, HT⟩ : ∃ T, Hid (nm ++ bOpn ++ commas Ss ++ bCls = T) := ⟨_, rfl⟩
 rw [HT.out]
 have j0 : (9223372036854775807 < nm.size + 1) = False := by simp; omega
 unfold bCall at c0
 unfold ptrE
 clear hK H hl hS hS2
 go_enter Tryz.func13, Tryz.ntmps13
 go_wp2_with fail
 have HA0 : Hid (nm ++ ⟨#[40]⟩ = ahead nm []) := by
   unfold Hid ahead
   rw [show commas [] = ⟨#[]⟩ from rfl]
   apply ByteArray.ext
   rw [ByteArray.data_append, ByteArray.data_append, ByteArray.data_append]
   simp [bOpn]
 rw [HA0.out]
 go_loopg [6, 7] us.length (fun gk s i wr => ∃ k : Nat, gk + k = us.length ∧ i = .int .i64 k ∧ s = .string (ahead nm (Ss.take k)) ∧ Below w.heap.size w wr)
 case atStart => exact ⟨0, by omega, rfl, rfl, Below.refl _ _⟩
 case round =>
   obtain ⟨k, hgk, rfl, rfl, hb⟩ := hrel
   have HB := xhidMk hb
   have d2 := xcell hb c2
   clear hb
   by_cases hk : k < us.length
   · have hk' : (k : Int) < (us.length : Int) := by omega
     obtain ⟨u, hu⟩ : ∃ u, us[k]? = some u := ⟨us[k], by simp [hk]⟩
     have hkl : k < Ss.length := by rw [HL.out]; exact hk
     obtain ⟨S, hS⟩ : ∃ S, Ss[k]? = some S := ⟨Ss[k], by rw [List.getElem?_eq_getElem]⟩
     have hcell : ∃ kb, ka = some ⟨kb, 0, none⟩ ∧ wr.cell? ⟨kb, k, none⟩ = some u := by
       obtain ⟨a', c', e1, h⟩ := HK.out
       cases e1
       obtain ⟨kb, e2, _, _, h3⟩ := h k hk
       refine ⟨kb, e2, xcell HB.out ?_⟩
       rw [h3, ← hu, List.getElem?_eq_getElem hk]
     obtain ⟨kb, rfl, hc1⟩ := hcell
     have HCA := xhidMk (HH.out k u S hu hS)
     have HTK : Hid (Ss.take (k + 1) = Ss.take k ++ [S]) := by
       rw [Hid, List.take_succ_eq_append_getElem hkl]
       rw [List.getElem?_eq_getElem hkl] at hS
       rw [Option.some.inj hS]
     have hsS : S.size ≤ 1000000 := HS2.out S (List.mem_of_getElem? hS)
     have hsA : (ahead nm (Ss.take k)).size ≤ 1001001 := by
       unfold ahead
       rw [ByteArray.size_append, ByteArray.size_append]
       have := HS.out k
       have : bOpn.size = 1 := rfl
       omega
     clear hu hS
     by_cases h0 : k = 0
     · subst h0
       have HN : Hid (ahead nm (Ss.take (0 + 1)) = ahead nm (Ss.take 0) ++ S) := by
         rw [Hid, HTK.out, List.take_zero, List.nil_append]
         unfold ahead
         rw [commas_one, show commas [] = ⟨#[]⟩ from rfl]
         apply ByteArray.ext
         simp [ByteArray.data_append]
       generalize ahead nm (Ss.take 0) = A at *
       have j1 : (9223372036854775807 < A.size + S.size) = False := by simp; omega
       go_wp2_with fail
       refine (HCA.out _ HB.out).mono ?_
       rintro e w2 ⟨rfl, hb2⟩
       have HB2 : Hid (Below w.heap.size w w2) := HB.out.trans (hb2.mono HB.out.size)
       clear hb2 HB HCA hc1 d2
       go_wp2_with fail
       go_roundg (gk - 1)
       case measure => omega
       case rel => exact ⟨0 + 1, by omega, rfl, by rw [HN.out], HB2.out⟩
     · have hk0 : (0 : Int) < (k : Int) := by omega
       have HN : Hid (ahead nm (Ss.take (k + 1)) = ahead nm (Ss.take k) ++ ⟨#[44, 32]⟩ ++ S) := by
         rw [Hid, HTK.out]
         unfold ahead
         rw [commas_snoc _ _ (by intro e; have := congrArg List.length e; rw [List.length_take, List.length_nil] at this; omega)]
         apply ByteArray.ext
         simp [ByteArray.data_append, bSep]
       generalize ahead nm (Ss.take k) = A at *
       have j1 : (9223372036854775807 < A.size + 2) = False := by simp; omega
       have j2 : (9223372036854775807 < A.size + 2 + S.size) = False := by simp; omega
       go_wp2_with fail
       refine (HCA.out _ HB.out).mono ?_
       rintro e w2 ⟨rfl, hb2⟩
       have HB2 : Hid (Below w.heap.size w w2) := HB.out.trans (hb2.mono HB.out.size)
       clear hb2 HB HCA hc1 d2
       go_wp2_with fail
       go_roundg (gk - 1)
       case measure => omega
       case rel => exact ⟨k + 1, by omega, by go_num, by rw [HN.out], HB2.out⟩
   · have hk' : ¬ (k : Int) < (us.length : Int) := by omega
     obtain rfl : k = us.length := by omega
     have HF : Hid (ahead nm (Ss.take us.length) ++ ⟨#[41]⟩ = T) := by
       rw [Hid, ← HT.out, ← HL.out, List.take_length]
       rfl
     have hsA : (ahead nm (Ss.take us.length)).size ≤ 1001001 := by
       unfold ahead
       rw [ByteArray.size_append, ByteArray.size_append]
       have := HS.out us.length
       have : bOpn.size = 1 := rfl
       omega
     generalize ahead nm (Ss.take us.length) = A at *
     have j1 : (9223372036854775807 < A.size + 1) = False := by simp; omega
     go_wp2_with fail
     go_ret
     exact ⟨by rw [← HF.out]; rfl, HB.out⟩
def rkD : X → Int
 | .pre _ s _ => if s = bNot then 3 else 7
 | .inf _ s _ _ => pow s
 | _ => 9
theorem rk_rel (x : X) (h : NX x) (a : Int) (ha : a ≤ 7) : decide (rkD x < a + 1) = decide (rkX x < a) := by
 apply decide_eq_decide.2
 cases x with
 | pre pl s x => show (if s = bNot then (3 : Int) else 7) < a + 1 ↔ preRank s < a; unfold preRank; split <;> omega
 | inf pl s l r =>
   show pow s < a + 1 ↔ (sgn s : Int) < a
   have := h.1
   unfold pow; rw [if_neg this]; omega
 | lit k n t => show (9 : Int) < a + 1 ↔ (7 : Int) < a; omega
 | col pl nm => show (9 : Int) < a + 1 ↔ (7 : Int) < a; omega
 | app pl nm l => show (9 : Int) < a + 1 ↔ (7 : Int) < a; omega
theorem rkD_pos (x : X) (h : NX x) : 0 < rkD x := by
 cases x with
 | pre pl s x => show (0 : Int) < if s = bNot then 3 else 7; split <;> omega
 | inf pl s l r => show (0 : Int) < pow s; have := h.1; unfold pow; rw [if_neg this]; omega
 | lit k n t => show (0 : Int) < 9; omega
 | col pl nm => show (0 : Int) < 9; omega
 | app pl nm l => show (0 : Int) < 9; omega
end Go.Proofs.YtckdmmfmnhcabaaGreatDoor.Dc
namespace Go.Proofs.YtckdmmfmnhcabaaGreatDoor.Dc
open Go.RowKit
set_option linter.unusedVariables false
set_option linter.unusedSimpArgs false
set_option maxRecDepth 100000

theorem lens_take (l : List ByteArray) (k : Nat) : lens (l.take k) ≤ lens l := by
 induction l generalizing k with
 | nil => simp
 | cons a l ih =>
   cases k with
   | zero => simp [lens]
   | succ k => rw [List.take_succ_cons, lens, lens]; have := ih k; omega
theorem lens_mem (l : List ByteArray) (S : ByteArray) (h : S ∈ l) : S.size ≤ lens l := by
 induction l with
 | nil => cases h
 | cons a l ih =>
   rw [lens]
   rcases List.mem_cons.1 h with rfl | h
   · omega
   · have := ih h; omega
theorem Ets.length {w : World} {lo hi : Nat} : ∀ {l : List X} {us : List Value}, Ets w lo hi l us → us.length = l.length
 | [], us, h => by rw [Ets] at h; rw [h]; rfl
 | x :: l, us, h => by
   rw [Ets] at h
   obtain ⟨u, us', rfl, _, h3⟩ := h
   rw [List.length_cons, List.length_cons, Ets.length h3]
theorem kat_one {w : World} {lo hi : Nat} {kv u : Value} (h : KAt w lo hi kv [u]) : ∃ b c, kv = .slice (some ⟨b, 0, none⟩) 1 c ∧ w.cell? ⟨b, 0, none⟩ = some u := by
 obtain ⟨a, c, e, h⟩ := h
 obtain ⟨b, e2, _, _, h3⟩ := h 0 (by simp)
 subst e2
 exact ⟨b, c, e, h3⟩
theorem kat_two {w : World} {lo hi : Nat} {kv u u' : Value} (h : KAt w lo hi kv [u, u']) : ∃ b c, kv = .slice (some ⟨b, 0, none⟩) 2 c ∧ w.cell? ⟨b, 0, none⟩ = some u ∧ w.cell? ⟨b, 1, none⟩ = some u' := by
 obtain ⟨a, c, e, h⟩ := h
 obtain ⟨b, e2, _, _, h3⟩ := h 0 (by simp)
 obtain ⟨b', e3, _, _, h4⟩ := h 1 (by simp)
 subst e2
 cases e3
 exact ⟨b, c, e, h3, h4⟩
mutual
theorem printD_x (w : World) (lo hi : Nat) : ∀ (x : X) (v : Value), Et w lo hi x v → NX x → LX x → szX x ≤ 200 → ∀ W, Below w.heap.size w W → ∀ least : Int, least ≤ 9 → Calls Tryz.prog 13 #[v, .int .i64 least] W fun e w' => e = .returned (.string (brk (decide (rkD x < least)) (prX x))) ∧ Below W.heap.size W w'
 | .lit k n t, v, h, hx, hl, hs, W, hW, least, h9 => by
   rw [Et] at h
   obtain ⟨b, rfl, _, _, c0, c3, c4, c5⟩ := h
   rw [decide_eq_false (show ¬ (rkD (.lit k n t) < least) from (by show ¬ (9 : Int) < least; omega))]
   have hv := valid_len hl.1
   exact printD_lit b k n t _ least W (xcell hW c0) (xcell hW c3) (xcell hW c4) (xcell hW c5) h9 (Vl.refShow_any k n t W (by unfold maxLen; omega) hl.2.1 hl.2.2.1)
 | .col pl nm, v, h, hx, hl, hs, W, hW, least, h9 => by
   rw [Et] at h
   obtain ⟨b, rfl, _, _, c0, c1, c6⟩ := h
   rw [decide_eq_false (show ¬ (rkD (.col pl nm) < least) from (by show ¬ (9 : Int) < least; omega))]
   exact printD_col b nm least W (xcell hW c0) (xcell hW c6) h9
 | .pre pl s x, v, h, hx, hl, hs, W, hW, least, h9 => by
   rw [Et] at h
   obtain ⟨b, kv, u, rfl, _, _, c0, c1, c2, hka, he⟩ := h
   rw [szX] at hs
   have hz := prX_size x hl.2
   obtain ⟨kb, kc, rfl, hk0⟩ := kat_one hka
   rcases hx.1 with rfl | rfl
   · have ih := printD_x w lo hi x u he hx.2 hl.2 (by omega) W hW 3 (by omega)
     rw [wPre_not] at c0
     have hb := brk_size (decide (rkD x < 3)) (prX x)
     have := printD_not b kb kc u _ least W (xcell hW c0) (xcell hW c2) (xcell hW hk0) (by omega) ih
     rw [prX, show leadS bNot = bNotSp by decide +kernel, show preRank bNot = 2 by decide +kernel, ← rk_rel x hx.2 2 (by omega)]
     exact this
   · have ih := printD_x w lo hi x u he hx.2 hl.2 (by omega) W hW 7 (by omega)
     rw [wPre_minus] at c0
     have hb := brk_size (decide (rkD x < 7)) (prX x)
     have := printD_minus b kb kc u _ least W (xcell hW c0) (xcell hW c2) (xcell hW hk0) (by omega) ih
     rw [prX, show leadS bMinus = bMinus by decide +kernel, show preRank bMinus = 6 by decide +kernel, ← rk_rel x hx.2 6 (by omega)]
     have e : decide (rkD (.pre pl bMinus x) < least) = decide (7 < least) := by
       show decide ((if bMinus = bNot then (3 : Int) else 7) < least) = _
       rw [if_neg (by decide +kernel)]
     rw [e]
     exact this
 | .inf pl s l r, v, h, hx, hl, hs, W, hW, least, h9 => by
   rw [Et] at h
   obtain ⟨b, kv, u, u', rfl, _, _, c0, c1, c2, hka, he1, he2⟩ := h
   rw [szX] at hs
   have hz := prX_size l hl.2.1
   have hz' := prX_size r hl.2.2
   have hq := hl.1
   obtain ⟨kb, kc, rfl, hk0, hk1⟩ := kat_two hka
   have hle := sgn_le s
   have hn := hx.1
   have hpw : pow s = (sgn s : Int) + 1 := by unfold pow; rw [if_neg hn]
   have hlD : leftD s = leftR s + 1 := by
     unfold leftD leftR
     rw [hpw]
     by_cases h3 : (sgn s : Int) = 3
     · rw [if_pos (by omega), if_pos h3]; rfl
     · rw [if_neg (by omega), if_neg h3]
   have hlR : leftR s ≤ 7 := by unfold leftR; split <;> omega
   have ih := printD_x w lo hi l u he1 hx.2.1 hl.2.1 (by omega) W hW (leftD s) (by omega)
   have ih' := fun W' hW' => printD_x w lo hi r u' he2 hx.2.2 hl.2.2 (by omega) W' (hW.trans (Below.mono hW' hW.size)) (pow s + 1) (by omega)
   have hb := brk_size (decide (rkD l < leftD s)) (prX l)
   have hb' := brk_size (decide (rkD r < pow s + 1)) (prX r)
   have := printD_inf s hn (by omega) b kb kc u u' _ _ least W (xcell hW c0) (xcell hW c2) (xcell hW hk0) (xcell hW hk1) (by omega) (by omega) ih ih'
   have e1 : decide (rkD l < leftD s) = decide (rkX l < leftR s) := by rw [hlD]; exact rk_rel l hx.2.1 _ hlR
   have e2 : decide (rkD r < pow s + 1) = decide (rkX r < (sgn s : Int) + 1) := by rw [hpw]; exact rk_rel r hx.2.2 _ (by omega)
   rw [e1, e2] at this
   rw [prX]
   exact this
 | .app pl nm l, v, h, hx, hl, hs, W, hW, least, h9 => by
   rw [Et] at h
   obtain ⟨b, kv, us, rfl, _, _, c0, c1, c6, c2, hka, he⟩ := h
   rw [szX] at hs
   have hz := prXs_size l hl.2
   have hq := hl.1
   have hlen := he.length
   have hll := szXs_len l
   rw [decide_eq_false (show ¬ (rkD (.app pl nm l) < least) from (by show ¬ (9 : Int) < least; omega))]
   obtain ⟨ka, kc, rfl, hcell⟩ := hka
   have hK : KAt W lo hi (.slice ka us.length kc) us := KAt.keep (fun b i u _ _ hc => xcell hW hc) (Nat.le_refl _) (Nat.le_refl _) ⟨ka, kc, rfl, hcell⟩
   have ih := printD_xs w lo hi l us he hx hl.2 (by omega)
   rw [prX]
   exact printD_app nm (by omega) b ka kc lo hi us (prXs l) least W (xcell hW c0) (xcell hW c6) (xcell hW c2) hK (by omega) (by rw [prXs_len, hlen]) (fun k => by have h1 := commas_size ((prXs l).take k); have h2 := lens_take (prXs l) k; omega) (fun S hS => by have := lens_mem _ S hS; omega) h9 (fun i u S hu hS W' hW' => ih i u S hu hS W' (hW.trans (Below.mono hW' hW.size)))
theorem printD_xs (w : World) (lo hi : Nat) : ∀ (l : List X) (us : List Value), Ets w lo hi l us → NXs l → LXs l → szXs l ≤ 200 → ∀ (i : Nat) u S, us[i]? = some u → (prXs l)[i]? = some S → ∀ W, Below w.heap.size w W → Calls Tryz.prog 13 #[u, .int .i64 0] W fun e w' => e = .returned (.string S) ∧ Below W.heap.size W w'
 | [], us, h, _, _, _ => by
   rw [Ets] at h
   subst h
   intro i u S hu
   simp at hu
 | x :: l, us, h, hx, hl, hs => by
   rw [Ets] at h
   obtain ⟨u0, us', rfl, h2, h3⟩ := h
   rw [szXs] at hs
   have ih := printD_x w lo hi x u0 h2 hx.1 hl.1 (by omega)
   have ihs := printD_xs w lo hi l us' h3 hx.2 hl.2 (by omega)
   intro i u S hu hS W hW
   match i, hu, hS with
   | 0, hu, hS =>
     rw [prXs] at hS
     simp at hu hS
     subst hu hS
     refine (ih W hW 0 (by omega)).mono ?_
     rintro e w' ⟨rfl, hb⟩
     refine ⟨?_, hb⟩
     have := rkD_pos x hx.1
     rw [decide_eq_false (by omega)]
     rfl
   | i + 1, hu, hS =>
     rw [prXs] at hS
     exact ihs i u S (by simpa using hu) (by simpa using hS) W hW
end
end Go.Proofs.YtckdmmfmnhcabaaGreatDoor.Dc
namespace Go.Proofs.YtckdmmfmnhcabaaGreatDoor.Dc
open Go.RowKit
set_option linter.unusedVariables false
set_option linter.unusedSimpArgs false
set_option maxRecDepth 100000

theorem PX.nx' {s : ByteArray} {x : X} (h : PX LV s (.ok x)) : NX x := by
 cases h with
 | ok h1 h2 h3 =>
   have h5 : s.data.toList.length = s.size := Array.length_toList
   exact Ps.nx nzLV h3 (tok_wf _ _ _ _ (by omega) h2) trivial _ _ rfl
theorem print_V (w : World) (h2 : Vl.Sen w) (h3 : Vl.Sen3 w) (ht : Vl.Tab w) (s : ByteArray) : ∃ o, PX LV s o ∧
   (Calls Tryz.prog 11 #[.string s] w fun e w' => e = .returned (prV o) ∧ Below w.heap.size w w') ∧
   ∀ W, Below w.heap.size w W → Calls Tryz.prog 12 #[.string s] W fun e w' => Below W.heap.size W w' ∧
     match o with
     | .error f => e = .returned (.tuple #[.pointer none, .int .i64 f.why, .int .i64 f.pl])
     | .ok x => ∃ b, e = .returned (.tuple #[ptrE b, .int .i64 0, .int .i64 0]) ∧ ∀ W', Below w'.heap.size w' W' → Calls Tryz.prog 13 #[ptrE b, .int .i64 0] W' fun e w2 => e = .returned (.string (prX x)) ∧ Below W'.heap.size W' w2 := by
 have hR := rdOkLV w h2 h3 ht
 have hG : ∀ W W' r, (∀ k, r = some k → w.heap.size ≤ k) → Below w.heap.size w W → W.grownBy W' r → Below w.heap.size w W' := fun W W' r h1 h2 h3 => xbNew h2 h3 (fun n hn => h1 n hn)
 obtain ⟨o, ho⟩ := px_exi oneLV hR s w hG (Below.refl _ _)
 refine ⟨o, ho, ?_, fun W hW => ?_⟩
 · refine print_any s w o ht (fun W hW => ?_) ho
   refine (parse_any oneLV hR s W (fun V V' r h1 h2 h3 => hG V V' r (fun k hk => Nat.le_trans hW.size (h1 k hk)) h2 h3) hW).mono ?_
   rintro e w' ⟨hb, o', ho', h⟩
   cases ho'.one oneLV ho
   exact ⟨hb, h⟩
 · refine (parseD_any dRdLV trueLV falseLV s W).mono ?_
   rintro e w' ⟨hb, o', ho', h⟩
   cases ho'.one oneLV ho
   refine ⟨hb, ?_⟩
   cases o with
   | error f => exact h
   | ok x =>
     obtain ⟨b, h1, h4⟩ := h
     refine ⟨b, h1, fun W' hW' => ?_⟩
     have hnx := PX.nx' ho
     refine (printD_x w' _ _ x _ h4 hnx ho.lx ho.size W' hW' 0 (by omega)).mono ?_
     rintro e w2 ⟨rfl, hb2⟩
     refine ⟨?_, hb2⟩
     have := rkD_pos x hnx
     rw [decide_eq_false (by omega)]
     rfl
set_option maxHeartbeats 2000000 in
theorem prints_walk (s : ByteArray) (w : World) (h2 : Vl.Sen w) (h3 : Vl.Sen3 w) (ht : Vl.Tab w) (he : Td.Ety w) :
   Calls Tryz.prog 4 #[.string s] w fun e w' => e = .returned (.bool true) ∧ Below w.heap.size w w' := by
 obtain ⟨o, ho, hP, hD⟩ := print_V w h2 h3 ht s
 have HE := hidMk' he
 clear he h2 h3 ht
 cases o with
 | error f =>
   have hfw : f.why ≠ 0 := px_why (fun h => Ps.why h _ rfl) ho
   have HP : Hid (Calls Tryz.prog 11 #[.string s] w fun e w' => e = .returned (.tuple #[.string ⟨#[]⟩, .int .i64 f.pl, .iface 31 (.int .i64 f.why)]) ∧ Below w.heap.size w w') := hP
   have HD : Hid (∀ W, Below w.heap.size w W → Calls Tryz.prog 12 #[.string s] W fun e w' => Below W.heap.size W w' ∧ e = .returned (.tuple #[.pointer none, .int .i64 f.why, .int .i64 f.pl])) := hD
   clear hP hD ho
   go_enter Tryz.func4, Tryz.ntmps4
   go_wp2_with fail
   refine HP.out.mono ?_
   rintro e w1 ⟨rfl, hb1⟩
   have HB1 := hidMk' hb1
   clear hb1
   go_wp2_with fail
   refine (HD.out _ HB1.out).mono ?_
   rintro e w2 ⟨hb2, rfl⟩
   have HB2 : Hid (Below w.heap.size w w2) := HB1.out.trans (hb2.mono HB1.out.size)
   clear hb2 HB1 HP HD
   go_wp2_with fail
   refine (Td.told_errno f.why _ (Ety.later HE.out HB2.out)).mono ?_
   rintro e w3 ⟨rfl, hb3⟩
   have HB3 : Hid (Below w.heap.size w w3) := HB2.out.trans (hb3.mono HB2.out.size)
   clear hb3 HB2
   have hfi : ¬ (f.why : Int) = 0 := by omega
   go_wp2_with fail
   go_ret
   exact ⟨by simp, HB3.out⟩
 | ok x =>
   obtain ⟨S, HS⟩ : ∃ S, Hid (prX x = S) := ⟨_, rfl⟩
   have HP : Hid (Calls Tryz.prog 11 #[.string s] w fun e w' => e = .returned (.tuple #[.string S, .int .i64 0, .nilIface]) ∧ Below w.heap.size w w') := by rw [← HS.out]; exact hP
   have HD : Hid (∀ W, Below w.heap.size w W → Calls Tryz.prog 12 #[.string s] W fun e w' => Below W.heap.size W w' ∧ ∃ b, e = .returned (.tuple #[ptrE b, .int .i64 0, .int .i64 0]) ∧ ∀ W', Below w'.heap.size w' W' → Calls Tryz.prog 13 #[ptrE b, .int .i64 0] W' fun e w2 => e = .returned (.string S) ∧ Below W'.heap.size W' w2) := by rw [← HS.out]; exact hD
   clear hP hD ho HS
   go_enter Tryz.func4, Tryz.ntmps4
   go_wp2_with fail
   refine HP.out.mono ?_
   rintro e w1 ⟨rfl, hb1⟩
   have HB1 := hidMk' hb1
   clear hb1
   go_wp2_with fail
   refine (HD.out _ HB1.out).mono ?_
   rintro e w2 ⟨hb2, b, rfl, hpr⟩
   have HB2 : Hid (Below w.heap.size w w2) := HB1.out.trans (hb2.mono HB1.out.size)
   have HPR := hidMk' hpr
   clear hb2 HB1 HP HD hpr
   go_wp2_with fail
   refine (Td.told_nil _).mono ?_
   rintro e w3 ⟨rfl, rfl⟩
   go_wp2_with fail
   refine (HPR.out _ (Below.refl _ _)).mono ?_
   rintro e w4 ⟨rfl, hb4⟩
   have HB4 : Hid (Below w.heap.size w w4) := HB2.out.trans (hb4.mono HB2.out.size)
   clear hb4 HB2 HPR
   go_wp2_with fail
   go_ret
   exact ⟨by simp, HB4.out⟩
end Go.Proofs.YtckdmmfmnhcabaaGreatDoor.Dc
