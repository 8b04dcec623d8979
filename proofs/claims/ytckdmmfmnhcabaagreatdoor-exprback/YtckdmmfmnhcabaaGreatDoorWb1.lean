import Derived.Test.YtckdmmfmnhcabaaGreatDoorXe1
import Derived.Laws.StructEq
import Derived.Test.YtckdmmfmnhcabaaGreatDoorXa1
import Derived.Test.YtckdmmfmnhcabaaGreatDoorWa1
namespace Go.Proofs.YtckdmmfmnhcabaaGreatDoor
open Go.RowKit
set_option linter.unusedVariables false
set_option linter.unusedSimpArgs false
set_option maxRecDepth 100000

structure Vl where
 k : Int
 n : Int
 t : ByteArray
 deriving DecidableEq
def vV (v : Vl) : Value := .agg #[.int .i64 v.k, .int .i64 v.n, .string v.t]
def vNull : Vl := ⟨0, 0, ⟨#[]⟩⟩
def vTru (b : Bool) : Vl := ⟨2, if b then 1 else 0, ⟨#[]⟩⟩
def vInt (n : Int) : Vl := ⟨1, n, ⟨#[]⟩⟩
def vTxt (s : ByteArray) : Vl := ⟨3, 0, s⟩

def eqB (k1 n1 : Int) (s1 : ByteArray) (k2 n2 : Int) (s2 : ByteArray) : Bool := k1 == k2 && (n1 == n2 && s1.toList == s2.toList)
theorem eqB_iff (a b : Vl) : eqB a.k a.n a.t b.k b.n b.t = decide (a = b) := by
 obtain ⟨k1, n1, t1⟩ := a
 obtain ⟨k2, n2, t2⟩ := b
 have hd : (t1.toList == t2.toList) = decide (t1 = t2) := by
   by_cases e : t1 = t2
   · rw [xeq e, decide_eq_true e]
   · rw [xne e, decide_eq_false e]
 unfold eqB
 rw [hd, Bool.eq_iff_iff]
 simp [Vl.mk.injEq]
theorem eqV (k1 n1 : Int) (s1 : ByteArray) (k2 n2 : Int) (s2 : ByteArray) (w : World) :
   (Op.equalIn 10000 42 (.agg #[.int .i64 k1, .int .i64 n1, .string s1]) (.agg #[.int .i64 k2, .int .i64 n2, .string s2])).run Tryz.prog w = .ok (eqB k1 n1 s1 k2 n2 s2) w := by
 have u24 := Tryz.underlying23
 have u2 := Tryz.underlying2
 have u9 := Tryz.underlying9
 have a24 := Tryz.isAgg23
 have z24 := Tryz.sizeOf23
 have a2 := Tryz.isAgg2
 have z2 := Tryz.sizeOf2
 have a9 := Tryz.isAgg9
 have z9 := Tryz.sizeOf9
 have hS : Tryz.prog.underlying 42 = some (.struct (Tryz.prog.fieldsOf 42)) := by kernel_rfl
 rw [show (10000 : Nat) = 9999 + 1 from rfl, run_equalIn_agg w 9999 42 _ _ hS (by kernel_rfl)]
 simp only [Program.fieldsOf, Tryz.underlying42]
 go_simp
 unfold eqB
 by_cases h1 : k1 = k2 <;> by_cases h2 : n1 = n2 <;> by_cases h3 : s1.toList = s2.toList <;> simp [h1, h2, h3]
theorem guardV : Tryz.prog.eqGuardType Tryz.prog.depth 42 = false := by kernel_rfl
theorem neqlV (k1 n1 : Int) (s1 : ByteArray) (k2 n2 : Int) (s2 : ByteArray) (w : World) :
   (binOp .neq 42 (.agg #[.int .i64 k1, .int .i64 n1, .string s1]) (.agg #[.int .i64 k2, .int .i64 n2, .string s2])).run Tryz.prog w = .ok (.bool (!eqB k1 n1 s1 k2 n2 s2)) w := by
 rw [run_neq_struct, eqV]; rfl
theorem eqlV (k1 n1 : Int) (s1 : ByteArray) (k2 n2 : Int) (s2 : ByteArray) (w : World) :
   (binOp .eql 42 (.agg #[.int .i64 k1, .int .i64 n1, .string s1]) (.agg #[.int .i64 k2, .int .i64 n2, .string s2])).run Tryz.prog w = .ok (.bool (eqB k1 n1 s1 k2 n2 s2)) w := by
 rw [run_eql_struct, eqV]; rfl
attribute [local go_sem ↓] neqlV eqlV
attribute [local go_sem] guardV

theorem of_any (n : Int) (w : World) : Calls Tryz.prog 85 #[.int .i64 n] w fun e w' => e = .returned (vV (vInt n)) ∧ Below w.heap.size w w' := by
 go_enter Tryz.func85, Tryz.ntmps85
 go_wp2
 exact bodyPost_ret (v := vV (vInt n)) (by simp [results, Tryz.results85, go_sem]; rfl) rfl ⟨rfl, by repeat (first | exact Below.refl _ _ | exact xbel1 _ _ | exact (xbel1 _ _).drew | refine xbNew ?_ (xgSet _ _ _) (fun n hn => by cases hn; simp))⟩
theorem words_any (n : ByteArray) (w : World) : Calls Tryz.prog 87 #[.string n] w fun e w' => e = .returned (vV (vTxt n)) ∧ Below w.heap.size w w' := by
 go_enter Tryz.func87, Tryz.ntmps87
 go_wp2
 exact bodyPost_ret (v := vV (vTxt n)) (by simp [results, Tryz.results87, go_sem]; rfl) rfl ⟨rfl, by repeat (first | exact Below.refl _ _ | exact xbel1 _ _ | exact (xbel1 _ _).drew | refine xbNew ?_ (xgSet _ _ _) (fun n hn => by cases hn; simp))⟩
theorem truth_any (b : Bool) (w : World) : Calls Tryz.prog 86 #[.bool b] w fun e w' => e = .returned (vV (vTru b)) ∧ Below w.heap.size w w' := by
 cases b
 · go_enter Tryz.func86, Tryz.ntmps86
   go_wp2
   exact bodyPost_ret (v := vV (vTru false)) (by simp [results, Tryz.results86, go_sem]; rfl) rfl ⟨rfl, by repeat (first | exact Below.refl _ _ | exact xbel1 _ _ | exact (xbel1 _ _).drew | refine xbNew ?_ (xgSet _ _ _) (fun n hn => by cases hn; simp))⟩
 · go_enter Tryz.func86, Tryz.ntmps86
   go_wp2
   exact bodyPost_ret (v := vV (vTru true)) (by simp [results, Tryz.results86, go_sem]; rfl) rfl ⟨rfl, by repeat (first | exact Below.refl _ _ | exact xbel1 _ _ | exact (xbel1 _ _).drew | refine xbNew ?_ (xgSet _ _ _) (fun n hn => by cases hn; simp))⟩

def VsAt (w : World) (a : Option Addr) (l : List Vl) : Prop := ∀ i (h : i < l.length), ∃ b off, a = some ⟨b, off, none⟩ ∧ w.cell? ⟨b, off + i * 3, none⟩ = some (.int .i64 l[i].k) ∧ w.cell? ⟨b, off + i * 3 + 1, none⟩ = some (.int .i64 l[i].n) ∧ w.cell? ⟨b, off + i * 3 + 2, none⟩ = some (.string l[i].t)
theorem VsAt.later {w w' : World} {a : Option Addr} {l : List Vl} (h : VsAt w a l) (hb : Below w.heap.size w w') : VsAt w' a l := fun i hi => by
 obtain ⟨b, off, h1, h2, h3, h4⟩ := h i hi
 exact ⟨b, off, h1, xcell hb h2, xcell hb h3, xcell hb h4⟩
set_option maxHeartbeats 2000000 in
theorem index_any (v : Vl) (a : Option Addr) (c : Nat) (l : List Vl) (w : World) (hc : VsAt w a l) (hm : l.length ≤ maxLen) :
   Calls Tryz.prog 161 #[.slice a l.length c, vV v] w fun e w' => e = .returned (.int .i64 (ixI (l.findIdx? (fun x => v = x)))) ∧ Below w.heap.size w w' := by
 have HC : Hid (VsAt w a l) := hc
 have hm' : l.length ≤ 9223372036854775807 := hm
 clear hc hm
 unfold vV
 go_enter Tryz.func161, Tryz.ntmps161
 go_wp2
 go_loopw [8] (fun i w' => ∃ j : Nat, j ≤ l.length ∧ i = .int .i64 j ∧ Below (w.alloc (.cells #[.int .i64 v.k, .int .i64 v.n, .string v.t] 42)).heap.size (w.alloc (.cells #[.int .i64 v.k, .int .i64 v.n, .string v.t] 42)) w' ∧ ∀ m (hm : m < l.length), m < j → v ≠ l[m]) (fun i _ => l.length - (intOf i).toNat)
 case atStart => exact ⟨0, Nat.zero_le _, rfl, Below.refl _ _, fun m _ h => absurd h (by omega)⟩
 case round =>
   obtain ⟨j, hj, rfl, hb, hno⟩ := hrel
   have HB : Hid (Below w.heap.size w wr) := (xbel1 w _).trans (hb.mono (by simp))
   have HNO : Hid (∀ m (hm : m < l.length), m < j → v ≠ l[m]) := hno
   have r0 := xcell (a := ⟨w.heap.size, 0, none⟩) (v := .int .i64 v.k) hb (by go_simp)
   have r1 := xcell (a := ⟨w.heap.size, 1, none⟩) (v := .int .i64 v.n) hb (by go_simp)
   have r2 := xcell (a := ⟨w.heap.size, 2, none⟩) (v := .string v.t) hb (by go_simp)
   have HB1 : Hid (Below (w.alloc (.cells #[.int .i64 v.k, .int .i64 v.n, .string v.t] 42)).heap.size (w.alloc (.cells #[.int .i64 v.k, .int .i64 v.n, .string v.t] 42)) wr) := hb
   clear hb hno
   by_cases hlt : j < l.length
   · have hji : (j : Int) < (l.length : Int) := by omega
     obtain ⟨bb, off, ha, e0, e1, e2⟩ := (HC.out.later HB.out) j hlt
     subst ha
     have heq := eqB_iff v l[j]
     have HLJ : Hid (∃ x, l[j] = x) := ⟨_, rfl⟩
     by_cases hq : v = l[j]
     · have hix : l.findIdx? (fun x => v = x) = some j := by
         rw [List.findIdx?_eq_some_iff_getElem]
         exact ⟨hlt, by simp [← hq], fun m hm => by simp; exact HNO.out m (by omega) hm⟩
       rw [decide_eq_true hq] at heq
       have HIX : Hid (l.findIdx? (fun x => v = x) = some j) := hix
       clear hix hq HLJ
       generalize l[j] = V at *
       go_wp2_with fail
       go_region
       go_wp2_with fail
       go_ret
       rw [HIX.out]
       exact ⟨rfl, HB.out.drew⟩
     · rw [decide_eq_false hq] at heq
       have HQ : Hid (¬ v = l[j]) := hq
       have HJ : Hid (∃ V, V = l[j] ∧ ¬ v = V) := ⟨_, rfl, HQ.out⟩
       clear hq HLJ HQ
       have HK : Hid (∀ m (hm : m < l.length), m < j + 1 → v ≠ l[m]) := fun m hm hmj => by
         rcases Nat.lt_or_ge m j with h | h
         · exact HNO.out m hm h
         · have : m = j := by omega
           subst this
           obtain ⟨V, rfl, h⟩ := HJ.out
           exact h
       clear HJ HNO
       generalize l[j] = V at *
       go_wp2_with fail
       go_region
       go_wp2_with fail
       exact ⟨⟨j + 1, by omega, by go_num, HB1.out.drew, HK.out⟩, by simp [intOf]; omega⟩
   · obtain rfl : j = l.length := by omega
     have hix : l.findIdx? (fun x => v = x) = none := by
       rw [List.findIdx?_eq_none_iff]
       intro x hx
       obtain ⟨m, hm, rfl⟩ := List.getElem_of_mem hx
       simp
       exact HNO.out m hm hm
     have HIX : Hid (l.findIdx? (fun x => v = x) = none) := hix
     clear hix
     go_wp2_with fail
     go_ret
     rw [HIX.out]
     exact ⟨rfl, HB.out⟩
end Go.Proofs.YtckdmmfmnhcabaaGreatDoor
namespace Go.Proofs.YtckdmmfmnhcabaaGreatDoor
open Go.RowKit
set_option linter.unusedVariables false
set_option linter.unusedSimpArgs false
set_option maxRecDepth 100000

theorem ixI_mem (v : Vl) (l : List Vl) : decide ((0 : Int) ≤ ixI (l.findIdx? (fun x => v = x))) = decide (v ∈ l) := by
 rw [Bool.eq_iff_iff, decide_eq_true_iff, decide_eq_true_iff]
 cases h : l.findIdx? (fun x => v = x) with
 | none =>
   rw [List.findIdx?_eq_none_iff] at h
   refine ⟨fun h' => absurd h' (by simp [ixI]), fun h' => ?_⟩
   have := h v h'
   simp at this
 | some j =>
   rw [List.findIdx?_eq_some_iff_getElem] at h
   obtain ⟨h1, h2, _⟩ := h
   refine ⟨fun _ => ?_, fun _ => by simp [ixI]⟩
   simp at h2
   rw [h2]
   exact List.getElem_mem h1
set_option maxHeartbeats 2000000 in
theorem contains_any (v : Vl) (a : Option Addr) (c : Nat) (l : List Vl) (w : World) (hc : VsAt w a l) (hm : l.length ≤ maxLen) :
   Calls Tryz.prog 152 #[.slice a l.length c, vV v] w fun e w' => e = .returned (.bool (decide (v ∈ l))) ∧ Below w.heap.size w w' := by
 have HI : Hid (∀ W, Below w.heap.size w W → Calls Tryz.prog 161 #[.slice a l.length c, vV v] W fun e w' => e = .returned (.int .i64 (ixI (l.findIdx? (fun x => v = x)))) ∧ Below W.heap.size W w') := fun W hW => index_any v a c l W (hc.later hW) hm
 have he := ixI_mem v l
 generalize ixI (l.findIdx? (fun x => v = x)) = N at *
 generalize decide (v ∈ l) = B at *
 clear hc hm
 unfold vV at *
 go_enter Tryz.func152, Tryz.ntmps152
 go_wp2_with fail
 refine (HI.out _ (by first | exact xbel1 _ _ | exact Below.refl _ _)).mono ?_
 rintro e w2 ⟨rfl, hb2⟩
 have HB2 : Hid (Below w.heap.size w w2) := by first | exact hb2 | exact (xbel1 w _).trans (hb2.mono (by simp))
 clear hb2 HI
 go_wp2_with fail
 go_ret
 exact ⟨by rw [← he]; first | rfl | simp, HB2.out⟩
set_option maxHeartbeats 2000000 in
theorem hasNull_any (a : Option Addr) (c : Nat) (l : List Vl) (w : World) (hc : VsAt w a l) (hm : l.length ≤ maxLen) :
   Calls Tryz.prog 153 #[.slice a l.length c] w fun e w' => e = .returned (.bool (decide (vNull ∈ l))) ∧ Below w.heap.size w w' := by
 have HI : Hid (∀ W, Below w.heap.size w W → Calls Tryz.prog 152 #[.slice a l.length c, .agg #[.int .i64 0, .int .i64 0, .string ⟨#[]⟩]] W fun e w' => e = .returned (.bool (decide (vNull ∈ l))) ∧ Below W.heap.size W w') := fun W hW => contains_any vNull a c l W (hc.later hW) hm
 generalize decide (vNull ∈ l) = B at *
 clear hc hm
 go_enter Tryz.func153, Tryz.ntmps153
 go_wp2_with fail
 refine (HI.out _ (by first | exact Below.refl _ _ | exact xbel1 _ _)).mono ?_
 rintro e w2 ⟨rfl, hb2⟩
 have HB2 : Hid (Below w.heap.size w w2) := by first | exact hb2 | exact (xbel1 w _).trans (hb2.mono (by simp))
 clear hb2 HI
 go_wp2_with fail
 go_ret
 exact ⟨rfl, HB2.out⟩

def cutN (s : ByteArray) (n : Int) : Nat := (max 0 (min n s.size)).toNat
def cutX (s : ByteArray) (n : Int) : ByteArray := ⟨(s.data.toList.take (cutN s n)).toArray⟩
theorem cutX_of (s : ByteArray) (n : Int) (k : Nat) (h : cutN s n = k) : cutX s n = s.extract 0 k := by
 unfold cutX
 rw [h]
 apply ByteArray.ext
 apply Array.toList_inj.1
 rw [ByteArray.data_extract, Array.toList_extract]
 simp [List.extract]
theorem cutX_all (s : ByteArray) (n : Int) (h : (s.size : Int) < n) : cutX s n = s := by
 unfold cutX
 rw [show cutN s n = s.size by unfold cutN; omega]
 apply ByteArray.ext
 apply Array.toList_inj.1
 rw [List.take_of_length_le (by simp)]
theorem cutX_none (s : ByteArray) (n : Int) (h : (if (s.size : Int) < n then (s.size : Int) else n) ≤ 0) : cutX s n = ByteArray.empty := by
 unfold cutX
 rw [show cutN s n = 0 by unfold cutN; split at h <;> omega]
 rfl
set_option maxHeartbeats 2000000 in
theorem cutF_any (s : ByteArray) (n : Int) (w : World) (hs : s.size ≤ 9223372036854775807) (hn : -9223372036854775808 ≤ n ∧ n ≤ 9223372036854775807) :
   Calls Tryz.prog 136 #[.string s, .int .i64 n] w fun e w' => e = .returned (.string (cutX s n)) ∧ w' = w := by
 go_enter Tryz.func136, Tryz.ntmps136
 go_wp2_with fail
 all_goals go_ret
 all_goals refine ⟨?_, rfl⟩
 all_goals first
   | (rw [cutX_all s n (by assumption)]; rfl)
   | (rw [cutX_none s n (by assumption)]; rfl)
   | (rw [cutX_of s n n.toNat (by
       have h1 : (0 : Int) < if (s.size : Int) < n then (s.size : Int) else n := by assumption
       have h2 : n ≤ (s.size : Int) := by assumption
       rw [if_neg (by omega)] at h1
       unfold cutN; omega)]; rfl)
end Go.Proofs.YtckdmmfmnhcabaaGreatDoor
namespace Go.Proofs.YtckdmmfmnhcabaaGreatDoor
open Go.RowKit
set_option linter.unusedVariables false
set_option linter.unusedSimpArgs false
set_option maxRecDepth 100000

theorem cmpF1 (o : Int) (w : World) : Calls Tryz.prog 128 #[.int .i64 o] w fun e w' => e = .returned (.bool (decide (o = 0))) ∧ w' = w := by
 go_enter Tryz.func128, Tryz.ntmps128
 go_wp2
 go_ret
 refine ⟨?_, rfl⟩
 by_cases h : o = 0 <;> simp [h]
theorem cmpF2 (o : Int) (w : World) : Calls Tryz.prog 129 #[.int .i64 o] w fun e w' => e = .returned (.bool (decide (o ≠ 0))) ∧ w' = w := by
 go_enter Tryz.func129, Tryz.ntmps129
 go_wp2
 go_ret
 refine ⟨?_, rfl⟩
 by_cases h : o = 0 <;> simp [h]
theorem cmpF3 (o : Int) (w : World) : Calls Tryz.prog 130 #[.int .i64 o] w fun e w' => e = .returned (.bool (decide (o < 0))) ∧ w' = w := by
 go_enter Tryz.func130, Tryz.ntmps130
 go_wp2
 go_ret
 exact ⟨rfl, rfl⟩
theorem cmpF4 (o : Int) (w : World) : Calls Tryz.prog 131 #[.int .i64 o] w fun e w' => e = .returned (.bool (decide (o ≤ 0))) ∧ w' = w := by
 go_enter Tryz.func131, Tryz.ntmps131
 go_wp2
 go_ret
 exact ⟨rfl, rfl⟩
theorem cmpF5 (o : Int) (w : World) : Calls Tryz.prog 132 #[.int .i64 o] w fun e w' => e = .returned (.bool (decide (0 < o))) ∧ w' = w := by
 go_enter Tryz.func132, Tryz.ntmps132
 go_wp2
 go_ret
 exact ⟨rfl, rfl⟩
theorem cmpF6 (o : Int) (w : World) : Calls Tryz.prog 133 #[.int .i64 o] w fun e w' => e = .returned (.bool (decide (0 ≤ o))) ∧ w' = w := by
 go_enter Tryz.func133, Tryz.ntmps133
 go_wp2
 go_ret
 exact ⟨rfl, rfl⟩

theorem resAt {w w2 : World} (hb : Below (w.alloc (.cells #[.int .i64 0, .int .i64 0, .string ⟨#[]⟩] 42)).heap.size (w.alloc (.cells #[.int .i64 0, .int .i64 0, .string ⟨#[]⟩] 42)) w2) :
   Own w2 w.heap.size 42 3 [.int .i64 0, .int .i64 0, .string ⟨#[]⟩] ∧ Below w.heap.size w w2 :=
 ⟨(Own.new w 42 3 #[.int .i64 0, .int .i64 0, .string ⟨#[]⟩] rfl).later hb, (xbel1 w _).trans (hb.mono (by simp))⟩
theorem resB {w w2 : World} (hb : Below w.heap.size w w2) (a b c : Value) : Below w.heap.size w (((w2.setCell ⟨w.heap.size, 0, none⟩ a).setCell ⟨w.heap.size, 1, none⟩ b).setCell ⟨w.heap.size, 2, none⟩ c) := by
 refine xbNew (xbNew (xbNew hb (xgSet _ _ _) ?_) (xgSet _ _ _) ?_) (xgSet _ _ _) ?_ <;> (intro n hn; cases hn; exact Nat.le_refl _)
set_option maxHeartbeats 2000000 in
theorem addF (a b : Int) (w : World) : Calls Tryz.prog 138 #[.int .i64 a, .int .i64 b] w fun e w' => e = .returned (vV (vInt (wrap64 (a + b)))) ∧ Below w.heap.size w w' := by
 have HO : Hid (∀ n W, Calls Tryz.prog 85 #[.int .i64 n] W fun e w' => e = .returned (.agg #[.int .i64 1, .int .i64 n, .string ⟨#[]⟩]) ∧ Below W.heap.size W w') := of_any
 go_enter Tryz.func138, Tryz.ntmps138
 go_wp2_with fail
 refine (HO.out _ _).mono ?_
 rintro e w2 ⟨rfl, hb2⟩
 obtain ⟨hO, hB⟩ := resAt hb2
 have q0 : w2.cell? ⟨w.heap.size, 0, none⟩ = some (.int .i64 0) := by rw [hO.cell 0 (by decide)]; rfl
 have q1 : w2.cell? ⟨w.heap.size, 1, none⟩ = some (.int .i64 0) := by rw [hO.cell 1 (by decide)]; rfl
 have q2 : w2.cell? ⟨w.heap.size, 2, none⟩ = some (.string ⟨#[]⟩) := by rw [hO.cell 2 (by decide)]; rfl
 have qf0 : w2.frozen? ⟨w.heap.size, 0, none⟩ = false := hO.soft 0
 have qf1 : w2.frozen? ⟨w.heap.size, 1, none⟩ = false := hO.soft 1
 have qf2 : w2.frozen? ⟨w.heap.size, 2, none⟩ = false := hO.soft 2
 have hl := hO.lt
 have HB : Hid (Below w.heap.size w w2) := hB
 clear hb2 hO hB HO
 go_wp2_with fail
 refine bodyPost_ret (v := .agg #[.int .i64 1, .int .i64 (wrap64 (a + b)), .string ⟨#[]⟩]) (by simp [results, Tryz.results138, go_sem, q0, q1, q2, hl]; try rfl) rfl ⟨rfl, resB HB.out _ _ _⟩
set_option maxHeartbeats 2000000 in
theorem subF (a b : Int) (w : World) : Calls Tryz.prog 139 #[.int .i64 a, .int .i64 b] w fun e w' => e = .returned (vV (vInt (wrap64 (a - b)))) ∧ Below w.heap.size w w' := by
 have HO : Hid (∀ n W, Calls Tryz.prog 85 #[.int .i64 n] W fun e w' => e = .returned (.agg #[.int .i64 1, .int .i64 n, .string ⟨#[]⟩]) ∧ Below W.heap.size W w') := of_any
 go_enter Tryz.func139, Tryz.ntmps139
 go_wp2_with fail
 refine (HO.out _ _).mono ?_
 rintro e w2 ⟨rfl, hb2⟩
 obtain ⟨hO, hB⟩ := resAt hb2
 have q0 : w2.cell? ⟨w.heap.size, 0, none⟩ = some (.int .i64 0) := by rw [hO.cell 0 (by decide)]; rfl
 have q1 : w2.cell? ⟨w.heap.size, 1, none⟩ = some (.int .i64 0) := by rw [hO.cell 1 (by decide)]; rfl
 have q2 : w2.cell? ⟨w.heap.size, 2, none⟩ = some (.string ⟨#[]⟩) := by rw [hO.cell 2 (by decide)]; rfl
 have qf0 : w2.frozen? ⟨w.heap.size, 0, none⟩ = false := hO.soft 0
 have qf1 : w2.frozen? ⟨w.heap.size, 1, none⟩ = false := hO.soft 1
 have qf2 : w2.frozen? ⟨w.heap.size, 2, none⟩ = false := hO.soft 2
 have hl := hO.lt
 have HB : Hid (Below w.heap.size w w2) := hB
 clear hb2 hO hB HO
 go_wp2_with fail
 refine bodyPost_ret (v := .agg #[.int .i64 1, .int .i64 (wrap64 (a - b)), .string ⟨#[]⟩]) (by simp [results, Tryz.results139, go_sem, q0, q1, q2, hl]; try rfl) rfl ⟨rfl, resB HB.out _ _ _⟩
set_option maxHeartbeats 2000000 in
theorem mulF (a b : Int) (w : World) : Calls Tryz.prog 140 #[.int .i64 a, .int .i64 b] w fun e w' => e = .returned (vV (vInt (wrap64 (a * b)))) ∧ Below w.heap.size w w' := by
 have HO : Hid (∀ n W, Calls Tryz.prog 85 #[.int .i64 n] W fun e w' => e = .returned (.agg #[.int .i64 1, .int .i64 n, .string ⟨#[]⟩]) ∧ Below W.heap.size W w') := of_any
 go_enter Tryz.func140, Tryz.ntmps140
 go_wp2_with fail
 refine (HO.out _ _).mono ?_
 rintro e w2 ⟨rfl, hb2⟩
 obtain ⟨hO, hB⟩ := resAt hb2
 have q0 : w2.cell? ⟨w.heap.size, 0, none⟩ = some (.int .i64 0) := by rw [hO.cell 0 (by decide)]; rfl
 have q1 : w2.cell? ⟨w.heap.size, 1, none⟩ = some (.int .i64 0) := by rw [hO.cell 1 (by decide)]; rfl
 have q2 : w2.cell? ⟨w.heap.size, 2, none⟩ = some (.string ⟨#[]⟩) := by rw [hO.cell 2 (by decide)]; rfl
 have qf0 : w2.frozen? ⟨w.heap.size, 0, none⟩ = false := hO.soft 0
 have qf1 : w2.frozen? ⟨w.heap.size, 1, none⟩ = false := hO.soft 1
 have qf2 : w2.frozen? ⟨w.heap.size, 2, none⟩ = false := hO.soft 2
 have hl := hO.lt
 have HB : Hid (Below w.heap.size w w2) := hB
 clear hb2 hO hB HO
 go_wp2_with fail
 refine bodyPost_ret (v := .agg #[.int .i64 1, .int .i64 (wrap64 (a * b)), .string ⟨#[]⟩]) (by simp [results, Tryz.results140, go_sem, q0, q1, q2, hl]; try rfl) rfl ⟨rfl, resB HB.out _ _ _⟩
theorem quoF (a b : Int) (w : World) (hb : b ≠ 0) : Calls Tryz.prog 142 #[.int .i64 a, .int .i64 b] w fun e w' => e = .returned (.int .i64 (wrap64 (a.tdiv b))) ∧ w' = w := by
 go_enter Tryz.func142, Tryz.ntmps142
 go_wp2_with fail
 go_ret
 exact ⟨rfl, rfl⟩
theorem remF (a b : Int) (w : World) (hb : b ≠ 0) : Calls Tryz.prog 143 #[.int .i64 a, .int .i64 b] w fun e w' => e = .returned (.int .i64 (a.tmod b)) ∧ w' = w := by
 go_enter Tryz.func143, Tryz.ntmps143
 go_wp2_with fail
 go_ret
 exact ⟨rfl, rfl⟩
end Go.Proofs.YtckdmmfmnhcabaaGreatDoor
namespace Go.Proofs.YtckdmmfmnhcabaaGreatDoor
open Go.RowKit
set_option linter.unusedVariables false
set_option linter.unusedSimpArgs false
set_option maxRecDepth 100000

set_option maxHeartbeats 2000000 in
theorem orNull_any (n : Nat) (he : ∀ (a : Array Value) (W : World), (callFunc n a).run Tryz.prog W = .ok (.enter n a) W) (cap : Array Value) (v : Vl) (l : List Vl) (a : Option Addr) (c p : Nat) (w : World) (hv : VsAt w a l) (hm : l.length ≤ maxLen) (hp : w.cell? ⟨p, 0, none⟩ = some (.func (.func n) #[] cap)) (hf : vNull ∉ l → ∀ W, Below w.heap.size w W → Calls Tryz.prog n (#[.slice a l.length c] ++ cap) W fun e w' => e = .returned (vV v) ∧ Below W.heap.size W w') :
   Calls Tryz.prog 156 #[.slice a l.length c, .pointer (some ⟨p, 0, none⟩)] w fun e w' => e = .returned (vV (if vNull ∈ l then vNull else v)) ∧ Below w.heap.size w w' := by
 have HN : Hid (∀ W, Below w.heap.size w W → Calls Tryz.prog 153 #[.slice a l.length c] W fun e w' => e = .returned (.bool (decide (vNull ∈ l))) ∧ Below W.heap.size W w') := fun W hW => hasNull_any a c l W (hv.later hW) hm
 have HF : Hid (vNull ∉ l → ∀ W, Below w.heap.size w W → Calls Tryz.prog n (#[.slice a l.length c] ++ cap) W fun e w' => e = .returned (.agg #[.int .i64 v.k, .int .i64 v.n, .string v.t]) ∧ Below W.heap.size W w') := hf
 have hpl2 : p < w.heap.size := World.block_lt_of_cell? _ _ hp
 clear hf hv hm
 by_cases hin : vNull ∈ l
 · rw [if_pos hin]
   rw [decide_eq_true hin] at HN
   clear hin HF
   go_enter Tryz.func156, Tryz.ntmps156
   go_wp2_with fail
   refine (HN.out _ (xbel1 _ _)).mono ?_
   rintro e w2 ⟨rfl, hb2⟩
   obtain ⟨hO, hB⟩ := resAt hb2
   have q0 : w2.cell? ⟨w.heap.size, 0, none⟩ = some (.int .i64 0) := by rw [hO.cell 0 (by decide)]; rfl
   have q1 : w2.cell? ⟨w.heap.size, 1, none⟩ = some (.int .i64 0) := by rw [hO.cell 1 (by decide)]; rfl
   have q2 : w2.cell? ⟨w.heap.size, 2, none⟩ = some (.string ⟨#[]⟩) := by rw [hO.cell 2 (by decide)]; rfl
   have qf0 : w2.frozen? ⟨w.heap.size, 0, none⟩ = false := hO.soft 0
   have qf1 : w2.frozen? ⟨w.heap.size, 1, none⟩ = false := hO.soft 1
   have qf2 : w2.frozen? ⟨w.heap.size, 2, none⟩ = false := hO.soft 2
   have hl := hO.lt
   have HB : Hid (Below w.heap.size w w2) := hB
   clear hb2 hO hB HN
   go_wp2_with fail
   exact bodyPost_ret (v := .agg #[.int .i64 0, .int .i64 0, .string ⟨#[]⟩]) (by simp [results, Tryz.results156, go_sem, q0, q1, q2, hl]; try rfl) rfl ⟨rfl, by first | exact resB HB.out _ _ _ | exact HB.out⟩
 · rw [if_neg hin]
   rw [decide_eq_false hin] at HN
   have HF2 : Hid (∀ W, Below w.heap.size w W → Calls Tryz.prog n (#[.slice a l.length c] ++ cap) W fun e w' => e = .returned (.agg #[.int .i64 v.k, .int .i64 v.n, .string v.t]) ∧ Below W.heap.size W w') := HF.out hin
   clear hin HF
   go_enter Tryz.func156, Tryz.ntmps156
   go_wp2_with fail
   refine (HN.out _ (xbel1 _ _)).mono ?_
   rintro e w1 ⟨rfl, hb1⟩
   have HB1 : Hid (Below (w.alloc (.cells #[.int .i64 0, .int .i64 0, .string ⟨#[]⟩] 42)).heap.size (w.alloc (.cells #[.int .i64 0, .int .i64 0, .string ⟨#[]⟩] 42)) w1) := hb1
   have hp1 := xcell ((xbel1 w (.cells #[.int .i64 0, .int .i64 0, .string ⟨#[]⟩] 42)).trans (hb1.mono (by simp))) hp
   have HW1 : Hid (Below w.heap.size w w1) := (xbel1 w _).trans (hb1.mono (by simp))
   clear hb1 HN
   go_wp2_with fail
   refine (HF2.out _ HW1.out).mono ?_
   rintro e w2 ⟨rfl, hb2'⟩
   have hb2 := HB1.out.trans (hb2'.mono HB1.out.size)
   clear hb2' HF2
   obtain ⟨hO, hB⟩ := resAt hb2
   have q0 : w2.cell? ⟨w.heap.size, 0, none⟩ = some (.int .i64 0) := by rw [hO.cell 0 (by decide)]; rfl
   have q1 : w2.cell? ⟨w.heap.size, 1, none⟩ = some (.int .i64 0) := by rw [hO.cell 1 (by decide)]; rfl
   have q2 : w2.cell? ⟨w.heap.size, 2, none⟩ = some (.string ⟨#[]⟩) := by rw [hO.cell 2 (by decide)]; rfl
   have qf0 : w2.frozen? ⟨w.heap.size, 0, none⟩ = false := hO.soft 0
   have qf1 : w2.frozen? ⟨w.heap.size, 1, none⟩ = false := hO.soft 1
   have qf2 : w2.frozen? ⟨w.heap.size, 2, none⟩ = false := hO.soft 2
   have hl := hO.lt
   have HB : Hid (Below w.heap.size w w2) := hB
   clear hb2 hO hB
   go_wp2_with fail
   exact bodyPost_ret (v := .agg #[.int .i64 v.k, .int .i64 v.n, .string v.t]) (by simp [results, Tryz.results156, go_sem, q0, q1, q2, hl]; try rfl) rfl ⟨rfl, resB HB.out _ _ _⟩
end Go.Proofs.YtckdmmfmnhcabaaGreatDoor
namespace Go.Proofs.YtckdmmfmnhcabaaGreatDoor
open Go.RowKit
set_option linter.unusedVariables false
set_option linter.unusedSimpArgs false
set_option maxRecDepth 100000

def Ent (n : Nat) : Prop := ∀ (a : Array Value) (W : World), (callFunc n a).run Tryz.prog W = .ok (.enter n a) W

set_option maxHeartbeats 2000000 in
theorem unless_any (n : Nat) (hent : Ent n) (f : Int → Int → Int) (a b : Int) (p : Nat) (w : World) (hp : w.cell? ⟨p, 0, none⟩ = some (.func (.func n) #[] #[])) (hf : b ≠ 0 → ∀ W, Calls Tryz.prog n #[.int .i64 a, .int .i64 b] W fun e w' => e = .returned (.int .i64 (f a b)) ∧ w' = W) :
   Calls Tryz.prog 158 #[.int .i64 a, .int .i64 b, .pointer (some ⟨p, 0, none⟩)] w fun e w' => e = .returned (vV (if b = 0 then vNull else vInt (f a b))) ∧ Below w.heap.size w w' := by
 have HO : Hid (∀ n W, Calls Tryz.prog 85 #[.int .i64 n] W fun e w' => e = .returned (.agg #[.int .i64 1, .int .i64 n, .string ⟨#[]⟩]) ∧ Below W.heap.size W w') := of_any
 have he : ∀ (a : Array Value) (W : World), (callFunc n a).run Tryz.prog W = .ok (.enter n a) W := hent
 have hpl := World.block_lt_of_cell? _ _ hp
 have hpl2 : p < w.heap.size := hpl
 by_cases hb : b = 0
 · subst hb
   go_enter Tryz.func158, Tryz.ntmps158
   go_wp2_with fail
   exact bodyPost_ret (v := .agg #[.int .i64 0, .int .i64 0, .string ⟨#[]⟩]) (by simp [results, Tryz.results158, go_sem]; try rfl) rfl ⟨rfl, xbel1 _ _⟩
 · rw [if_neg hb]
   have hbb : (b == 0) = false := by rw [beq_eq_false_iff_ne]; exact hb
   have HF : Hid (∀ W, Calls Tryz.prog n #[.int .i64 a, .int .i64 b] W fun e w' => e = .returned (.int .i64 (f a b)) ∧ w' = W) := hf hb
   clear hf hb hent
   go_enter Tryz.func158, Tryz.ntmps158
   go_wp2_with fail
   refine (HF.out _).mono ?_
   rintro e w1 ⟨rfl, h1⟩
   subst h1
   clear HF
   go_wp2_with fail
   refine (HO.out _ _).mono ?_
   rintro e w2 ⟨rfl, hb2⟩
   obtain ⟨hO, hB⟩ := resAt hb2
   have q0 : w2.cell? ⟨w.heap.size, 0, none⟩ = some (.int .i64 0) := by rw [hO.cell 0 (by decide)]; rfl
   have q1 : w2.cell? ⟨w.heap.size, 1, none⟩ = some (.int .i64 0) := by rw [hO.cell 1 (by decide)]; rfl
   have q2 : w2.cell? ⟨w.heap.size, 2, none⟩ = some (.string ⟨#[]⟩) := by rw [hO.cell 2 (by decide)]; rfl
   have qf0 : w2.frozen? ⟨w.heap.size, 0, none⟩ = false := hO.soft 0
   have qf1 : w2.frozen? ⟨w.heap.size, 1, none⟩ = false := hO.soft 1
   have qf2 : w2.frozen? ⟨w.heap.size, 2, none⟩ = false := hO.soft 2
   have hl := hO.lt
   have HB : Hid (Below w.heap.size w w2) := hB
   clear hb2 hO hB HO
   go_wp2_with fail
   exact bodyPost_ret (v := .agg #[.int .i64 1, .int .i64 (f a b), .string ⟨#[]⟩]) (by simp [results, Tryz.results158, go_sem, q0, q1, q2, hl]; try rfl) rfl ⟨rfl, resB HB.out _ _ _⟩

theorem resAtD {w w2 : World} (hb : Below (w.alloc (.cells #[.int .i64 0, .int .i64 0, .string ⟨#[]⟩] 42)).drew.heap.size (w.alloc (.cells #[.int .i64 0, .int .i64 0, .string ⟨#[]⟩] 42)).drew w2) :
   Own w2 w.heap.size 42 3 [.int .i64 0, .int .i64 0, .string ⟨#[]⟩] ∧ Below w.heap.size w w2 :=
 ⟨((Own.new w 42 3 #[.int .i64 0, .int .i64 0, .string ⟨#[]⟩] rfl).later (Below.refl _ _).drew).later hb, (xbel1 w _).drew.trans (hb.mono (by simp))⟩
set_option maxHeartbeats 2000000 in
theorem arith_any (n : Nat) (hent : Ent n) (cap : Array Value) (v : Vl) (x y : Vl) (a : Option Addr) (c p : Nat) (w : World) (hv : VsAt w a [x, y]) (hp : w.cell? ⟨p, 0, none⟩ = some (.func (.func n) #[] cap)) (hf : ∀ W, Below w.heap.size w W → Calls Tryz.prog n (#[.int .i64 x.n, .int .i64 y.n] ++ cap) W fun e w' => e = .returned (vV v) ∧ Below W.heap.size W w') :
   Calls Tryz.prog 157 #[.slice a 2 c, .pointer (some ⟨p, 0, none⟩)] w fun e w' => e = .returned (vV v) ∧ Below w.heap.size w w' := by
 have he : ∀ (a : Array Value) (W : World), (callFunc n a).run Tryz.prog W = .ok (.enter n a) W := hent
 have HF : Hid (∀ W, Below w.heap.size w W → Calls Tryz.prog n (#[.int .i64 x.n, .int .i64 y.n] ++ cap) W fun e w' => e = .returned (.agg #[.int .i64 v.k, .int .i64 v.n, .string v.t]) ∧ Below W.heap.size W w') := hf
 obtain ⟨b, off, rfl, h0, h1, h2⟩ := hv 0 (by simp)
 obtain ⟨b', off', hh, g0, g1, g2⟩ := hv 1 (by simp)
 cases hh
 simp only [List.getElem_cons_zero, List.getElem_cons_succ, Nat.zero_mul, Nat.add_zero, Nat.one_mul] at h0 h1 h2 g0 g1 g2
 have hpl2 : p < w.heap.size := World.block_lt_of_cell? _ _ hp
 have hbl2 : b < w.heap.size := World.block_lt_of_cell? _ _ h1
 clear hf hv hent
 go_enter Tryz.func157, Tryz.ntmps157
 go_wp2_with fail
 go_region_with (refine (HF.out _ (xbel1 w _).drew).mono ?_; rintro e w2 ⟨rfl, hb2⟩; obtain ⟨hO, hB⟩ := resAtD hb2; have q0 : w2.cell? ⟨w.heap.size, 0, none⟩ = some (.int .i64 0) := hO.cell 0 (by decide); have q1 : w2.cell? ⟨w.heap.size, 1, none⟩ = some (.int .i64 0) := hO.cell 1 (by decide); have q2 : w2.cell? ⟨w.heap.size, 2, none⟩ = some (.string ⟨#[]⟩) := hO.cell 2 (by decide); have qf0 : w2.frozen? ⟨w.heap.size, 0, none⟩ = false := hO.soft 0; have qf1 : w2.frozen? ⟨w.heap.size, 1, none⟩ = false := hO.soft 1; have qf2 : w2.frozen? ⟨w.heap.size, 2, none⟩ = false := hO.soft 2; have hl := hO.lt)
 all_goals
   have HB : Hid (Below w.heap.size w w2) := hB
   clear hb2 hO hB HF
   go_wp2_with fail
   exact bodyPost_ret (v := .agg #[.int .i64 v.k, .int .i64 v.n, .string v.t]) (by simp [results, Tryz.results157, go_sem, q0, q1, q2, hl]; try rfl) rfl ⟨rfl, resB HB.out _ _ _⟩
end Go.Proofs.YtckdmmfmnhcabaaGreatDoor
namespace Go.Proofs.YtckdmmfmnhcabaaGreatDoor
open Go.RowKit
set_option linter.unusedVariables false
set_option linter.unusedSimpArgs false
set_option maxRecDepth 100000

def cmpVl (x y : Vl) : Int := Vc.cmpV x.k x.n x.t y.k y.n y.t
def decV (B : Bool) (l : List Vl) : Vl := if vTru B ∈ l then vTru B else if vNull ∈ l then vNull else vTru (!B)
def strV (l : List Vl) (v : Vl) : Vl := if vNull ∈ l then vNull else v
def wantO (s : ByteArray) (o : Int) : Bool :=
 if s = bEq then decide (o = 0) else if s = bNe then decide (o ≠ 0) else if s = bLt then decide (o < 0) else if s = bLe then decide (o ≤ 0) else if s = bGt then decide (0 < o) else decide (0 ≤ o)
def evInf (s : ByteArray) (x y : Vl) : Vl :=
 if s = bOr then decV true [x, y] else if s = bAnd then decV false [x, y]
 else if s = bEq ∨ s = bNe ∨ s = bLt ∨ s = bLe ∨ s = bGt ∨ s = bGe then strV [x, y] (vTru (wantO s (cmpVl x y)))
 else if s = bCat then strV [x, y] (vTxt (cutX (x.t ++ y.t) 60)) else if s = bPlus then strV [x, y] (vInt (wrap64 (x.n + y.n)))
 else if s = bMinus then strV [x, y] (vInt (wrap64 (x.n - y.n))) else if s = bMul then strV [x, y] (vInt (wrap64 (x.n * y.n)))
 else if s = bDiv then strV [x, y] (if y.n = 0 then vNull else vInt (wrap64 (x.n.tdiv y.n))) else strV [x, y] (if y.n = 0 then vNull else vInt (x.n.tmod y.n))
def evPre (s : ByteArray) (x : Vl) : Vl := strV [x] (if s = bNot then vTru (decide (x = vTru false)) else vInt (wrap64 (-x.n)))
def evApp (s : ByteArray) (l : List Vl) : Vl :=
 if s = bLen then strV l (vInt ((l.getD 0 vNull).t.size : Nat)) else if s = bAbs then strV l (vInt (max (l.getD 0 vNull).n (wrap64 (-(l.getD 0 vNull).n))))
 else if s = bCut then strV l (vTxt (cutX (l.getD 0 vNull).t (l.getD 1 vNull).n)) else if s = bIsnull then vTru (decide (vNull ∈ l))
 else if s = bCoalesce then (if l.getD 0 vNull = vNull then l.getD 1 vNull else l.getD 0 vNull)
 else (if l.getD 0 vNull = vTru true then l.getD 1 vNull else l.getD 2 vNull)
mutual
def evX (c : List Co) (vs : List Vl) : X → Vl
 | .lit k n t => ⟨k, n, t⟩
 | .col _ nm => vs.getD ((colIx c nm).getD c.length) vNull
 | .pre _ s x => evPre s (evX c vs x)
 | .inf _ s l r => evInf s (evX c vs l) (evX c vs r)
 | .app _ nm l => evApp nm (evXs c vs l)
def evXs (c : List Co) (vs : List Vl) : List X → List Vl
 | [] => []
 | x :: l => evX c vs x :: evXs c vs l
end
def VK (k : Int) (v : Vl) : Prop := v = vNull ∨ (v.k = k ∧ ((k = 1 ∧ -9223372036854775808 ≤ v.n ∧ v.n ≤ 9223372036854775807 ∧ v.t = ⟨#[]⟩) ∨ (k = 2 ∧ (v.n = 0 ∨ v.n = 1) ∧ v.t = ⟨#[]⟩) ∨ (k = 3 ∧ v.n = 0 ∧ v.t.size ≤ 60)))
theorem VK.bounds {k : Int} {v : Vl} (h : VK k v) : (-9223372036854775808 ≤ v.n ∧ v.n ≤ 9223372036854775807) ∧ v.t.size ≤ 60 := by
 rcases h with rfl | ⟨_, ⟨_, h1, h2, h3⟩ | ⟨_, h1, h3⟩ | ⟨_, h1, h3⟩⟩
 · exact ⟨by decide, by decide⟩
 · exact ⟨⟨h1, h2⟩, by rw [h3]; decide⟩
 · exact ⟨by omega, by rw [h3]; decide⟩
 · exact ⟨by omega, h3⟩
theorem vk_null (k : Int) : VK k vNull := .inl rfl
theorem vk_tru (b : Bool) : VK 2 (vTru b) := .inr ⟨rfl, .inr (.inl ⟨rfl, by cases b <;> simp [vTru], rfl⟩)⟩
theorem wrap_in (n : Int) : -9223372036854775808 ≤ wrap64 n ∧ wrap64 n ≤ 9223372036854775807 := by
 unfold wrap64; omega
theorem vk_int {n : Int} (h : -9223372036854775808 ≤ n ∧ n ≤ 9223372036854775807) : VK 1 (vInt n) := .inr ⟨rfl, .inl ⟨rfl, h.1, h.2, rfl⟩⟩
theorem vk_txt {s : ByteArray} (h : s.size ≤ 60) : VK 3 (vTxt s) := .inr ⟨rfl, .inr (.inr ⟨rfl, rfl, h⟩)⟩
theorem vk_str {k : Int} {l : List Vl} {v : Vl} (h : VK k v) : VK k (strV l v) := by unfold strV; split; exact vk_null k; exact h
theorem vk_dec (B : Bool) (l : List Vl) : VK 2 (decV B l) := by
 unfold decV
 split
 · exact vk_tru B
 · split
   · exact vk_null 2
   · exact vk_tru _
theorem cutX_size (s : ByteArray) (n : Int) : (cutX s n).size ≤ s.size := by
 unfold cutX; simp only [ByteArray.size, List.size_toArray, List.length_take, Array.length_toList]; omega
theorem cutX_60 (s : ByteArray) : (cutX s 60).size ≤ 60 := by
 unfold cutX cutN; simp only [ByteArray.size, List.size_toArray, List.length_take, Array.length_toList]; omega
end Go.Proofs.YtckdmmfmnhcabaaGreatDoor
