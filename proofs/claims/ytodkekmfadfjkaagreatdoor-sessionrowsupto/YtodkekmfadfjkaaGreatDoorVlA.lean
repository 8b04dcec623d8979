import Derived.Test.YtodkekmfadfjkaaGreatDoorProg
import Derived.WalkKit
import Derived.Below
import Derived.WalkSmall
import Derived.LoopN
import Derived.Laws.StructEq
import Derived.Laws.Cover1
import Derived.Handy
import Derived.KernelRfl
import Derived.Deep.DrawnRows
import Derived.Deep.RegionWith
import Derived.Deep.RegionHeld3
import Derived.Deep.QuietTactic
import Derived.BigQuiet
import Derived.Deep.OwnRows
import Derived.Laws.OwnMore
import Derived.OwnWalk
import Derived.Laws.Slices
import Derived.Sort.AtCall
namespace Go.Proofs.YtodkekmfadfjkaaGreatDoor
open Go.RowKit
set_option linter.unusedVariables false
set_option linter.unusedSimpArgs false
set_option maxRecDepth 100000

theorem cell_later {w wx : World} {a : Addr} {v : Value} (hb : Below w.heap.size w wx) (h : w.cell? a = some v) : wx.cell? a = some v := (hb.cell (World.block_lt_of_cell? _ _ h)).trans h
theorem bel1 (w : World) (o1 : Obj) : Below w.heap.size w (w.alloc o1) := (Below.refl _ _).alloc (Nat.le_refl _) _
theorem ret_bool {a b : Bool} (h : a = b) : Ending.returned (.bool a) = .returned (.bool b) := by rw [h]
theorem hidMk {p : Prop} (h : p) : Hid p := h
theorem w64 {x : Int} (h1 : -9223372036854775808 ≤ x) (h2 : x < 9223372036854775808) : wrap64 x = x := by
  unfold wrap64
  omega
theorem wi64 {x : Int} (h1 : -9223372036854775808 ≤ x) (h2 : x < 9223372036854775808) : IntKind.i64.wrap x = x := by
  simp [IntKind.wrap, IntKind.bits, IntKind.signed]
  omega
theorem below_drewN {B : Nat} {w0 w : World} (h : Below B w0 w) (n : Nat) : Below B w0 (w.drewN n) := ⟨h.os, h.tape, h.output, h.size, h.block⟩
theorem take_all {α : Type} (p : α → Bool) (l : List α) (k : Nat) (hk : k < l.length) : (l.take (k + 1)).all p = ((l.take k).all p && p l[k]) := by
  rw [List.take_succ_eq_append_getElem hk, List.all_append]; simp
theorem all_false {α : Type} (p : α → Bool) (l : List α) (k : Nat) (hk : k < l.length) (h : p l[k] = false) : l.all p = false := by
  rw [List.all_eq_false]
  exact ⟨l[k], List.getElem_mem hk, by rw [h]; decide⟩

/-- A value. -/
structure V where
  k : Int
  n : Int
  s : ByteArray
/-- Values lie in memory where the slice 'a' begins. -/
def VLies (w : World) (a : Option Addr) (vs : List V) : Prop :=
  ∀ i (hi : i < vs.length), ∃ b off, a = some ⟨b, off, none⟩ ∧ w.cell? ⟨b, off + i * 3, none⟩ = some (.int .i64 vs[i].k) ∧ w.cell? ⟨b, off + i * 3 + 1, none⟩ = some (.int .i64 vs[i].n) ∧ w.cell? ⟨b, off + i * 3 + 2, none⟩ = some (.string vs[i].s)
theorem VLies.later {w wx : World} {a : Option Addr} {vs : List V} (h : VLies w a vs) (hb : Below w.heap.size w wx) : VLies wx a vs := fun i hi => by
  obtain ⟨b, off, e, h1, h2, h3⟩ := h i hi
  exact ⟨b, off, e, cell_later hb h1, cell_later hb h2, cell_later hb h3⟩
/-- A row. -/
structure Rw where
  t : Int
  vs : List V

/-- '==' of two values. -/
def eqB (k1 n1 : Int) (s1 : ByteArray) (k2 n2 : Int) (s2 : ByteArray) : Bool := k1 == k2 && (n1 == n2 && s1.toList == s2.toList)

theorem eqVal (k1 n1 : Int) (s1 : ByteArray) (k2 n2 : Int) (s2 : ByteArray) (w : World) :
    (Op.equalIn 10000 39 (.agg #[.int .i64 k1, .int .i64 n1, .string s1]) (.agg #[.int .i64 k2, .int .i64 n2, .string s2])).run Tryz.prog w = .ok (eqB k1 n1 s1 k2 n2 s2) w := by
  have u24 := Tryz.underlying37
  have u2 := Tryz.underlying2
  have u9 := Tryz.underlying9
  have a24 := Tryz.isAgg37
  have z24 := Tryz.sizeOf37
  have a2 := Tryz.isAgg2
  have z2 := Tryz.sizeOf2
  have a9 := Tryz.isAgg9
  have z9 := Tryz.sizeOf9
  have hS : Tryz.prog.underlying 39 = some (.struct (Tryz.prog.fieldsOf 39)) := by kernel_rfl
  rw [show (10000 : Nat) = 9999 + 1 from rfl, run_equalIn_agg w 9999 39 _ _ hS (by kernel_rfl)]
  simp only [Program.fieldsOf, Tryz.underlying39]
  go_simp
  unfold eqB
  by_cases h1 : k1 = k2 <;> by_cases h2 : n1 = n2 <;> by_cases h3 : s1.toList = s2.toList <;> simp [h1, h2, h3]
theorem guardVal : Tryz.prog.eqGuardType Tryz.prog.depth 39 = false := by kernel_rfl
theorem neqVal (k1 n1 : Int) (s1 : ByteArray) (k2 n2 : Int) (s2 : ByteArray) (w : World) :
    (binOp .neq 39 (.agg #[.int .i64 k1, .int .i64 n1, .string s1]) (.agg #[.int .i64 k2, .int .i64 n2, .string s2])).run Tryz.prog w = .ok (.bool (!eqB k1 n1 s1 k2 n2 s2)) w := by
  rw [run_neq_struct, eqVal]; rfl
theorem eqlVal (k1 n1 : Int) (s1 : ByteArray) (k2 n2 : Int) (s2 : ByteArray) (w : World) :
    (binOp .eql 39 (.agg #[.int .i64 k1, .int .i64 n1, .string s1]) (.agg #[.int .i64 k2, .int .i64 n2, .string s2])).run Tryz.prog w = .ok (.bool (eqB k1 n1 s1 k2 n2 s2)) w := by
  rw [run_eql_struct, eqVal]; rfl

attribute [local go_sem ↓] neqVal eqlVal
attribute [local go_sem] guardVal
theorem bel1t {w w1 : World} {o : Obj} (h : Below (w.alloc o).drew.heap.size (w.alloc o).drew w1) : Below w.heap.size w w1 := (bel1 w o).drew.trans (h.mono (by simp))

theorem of_any (n : Int) (w : World) : Calls Tryz.prog 42 #[.int .i64 n] w fun e w' => e = .returned (.agg #[.int .i64 1, .int .i64 n, .string ⟨#[]⟩]) ∧ Below w.heap.size w w' := by
  go_enter Tryz.func42, Tryz.ntmps42
  go_wp2
  exact bodyPost_ret (v := .agg #[.int .i64 1, .int .i64 n, .string ⟨#[]⟩]) (by simp [results, Tryz.results42, go_sem]) rfl ⟨rfl, bel1 _ _⟩
theorem words_any (s : ByteArray) (w : World) : Calls Tryz.prog 44 #[.string s] w fun e w' => e = .returned (.agg #[.int .i64 3, .int .i64 0, .string s]) ∧ Below w.heap.size w w' := by
  go_enter Tryz.func44, Tryz.ntmps44
  go_wp2
  exact bodyPost_ret (v := .agg #[.int .i64 3, .int .i64 0, .string s]) (by simp [results, Tryz.results44, go_sem]) rfl ⟨rfl, bel1 _ _⟩
theorem words_at (s : ByteArray) (w : World) : Calls Tryz.prog 44 #[.string s] w fun e w' => e = .returned (.agg #[.int .i64 3, .int .i64 0, .string s]) ∧ w' = w.alloc (.cells #[.int .i64 3, .int .i64 0, .string s] 39) := by
  go_enter Tryz.func44, Tryz.ntmps44
  go_wp2
  exact bodyPost_ret (v := .agg #[.int .i64 3, .int .i64 0, .string s]) (by simp [results, Tryz.results44, go_sem]) rfl ⟨rfl, rfl⟩
theorem truth_true (w : World) : Calls Tryz.prog 43 #[.bool true] w fun e w' => e = .returned (.agg #[.int .i64 2, .int .i64 1, .string ⟨#[]⟩]) ∧ Below w.heap.size w w' := by
  go_enter Tryz.func43, Tryz.ntmps43
  go_wp2
  exact bodyPost_ret (v := .agg #[.int .i64 2, .int .i64 1, .string ⟨#[]⟩]) (by simp [results, Tryz.results43, go_sem]) rfl ⟨rfl, bel1 _ _⟩
theorem truth_false (w : World) : Calls Tryz.prog 43 #[.bool false] w fun e w' => e = .returned (.agg #[.int .i64 2, .int .i64 0, .string ⟨#[]⟩]) ∧ Below w.heap.size w w' := by
  go_enter Tryz.func43, Tryz.ntmps43
  go_wp2
  exact bodyPost_ret (v := .agg #[.int .i64 2, .int .i64 0, .string ⟨#[]⟩]) (by simp [results, Tryz.results43, go_sem]) rfl ⟨rfl, bel1 _ _⟩

def validB (k n : Int) (s : ByteArray) : Bool :=
  if k = 0 then (n == 0 && s.toList == [])
  else if k = 1 then s.toList == []
  else if k = 2 then s.toList == [] && (n == 0 || n == 1)
  else if k = 3 then n == 0 && decide ((s.size : Int) ≤ 60)
  else false

theorem empty_list : (⟨#[]⟩ : ByteArray).toList = [] := by simp

theorem wv_0 (n : Int) (s : ByteArray) (w : World) :
    Calls Tryz.prog 25 #[.agg #[.int .i64 0, .int .i64 n, .string s]] w fun e w' => e = .returned (.bool (validB 0 n s)) ∧ Below w.heap.size w w' := by
  have H : Hid (validB 0 n s = eqB 0 n s 0 0 ⟨#[]⟩) := by unfold Hid validB eqB; simp
  go_enter Tryz.func25, Tryz.ntmps25
  go_wp2
  go_ret
  exact ⟨ret_bool H.out.symm, bel1 _ _⟩

theorem wv_1 (n : Int) (s : ByteArray) (w : World) :
    Calls Tryz.prog 25 #[.agg #[.int .i64 1, .int .i64 n, .string s]] w fun e w' => e = .returned (.bool (validB 1 n s)) ∧ Below w.heap.size w w' := by
  have H : Hid (validB 1 n s = eqB 1 n s 1 n ⟨#[]⟩) := by unfold Hid validB eqB; simp
  go_enter Tryz.func25, Tryz.ntmps25
  go_wp2
  go_region_held3 (fun w' => w'.cell? ⟨w.heap.size, 0, none⟩ = some (.int .i64 1) ∧ w'.cell? ⟨w.heap.size, 1, none⟩ = some (.int .i64 n) ∧ w'.cell? ⟨w.heap.size, 2, none⟩ = some (.string s))
    (first | go_keep | (go_split_ands; exact ⟨cell_later ‹_› ‹_›, cell_later ‹_› ‹_›, cell_later ‹_› ‹_›⟩))
    (first | (go_at_call 42; refine (of_any _ _).mono ?_; rintro e w1 ⟨rfl, hbb⟩))
  go_wp2
  go_ret
  exact ⟨ret_bool H.out.symm, bel1t hbb⟩

theorem wv_2 (n : Int) (s : ByteArray) (w : World) :
    Calls Tryz.prog 25 #[.agg #[.int .i64 2, .int .i64 n, .string s]] w fun e w' => e = .returned (.bool (validB 2 n s)) ∧ Below w.heap.size w w' := by
  cases hn : (n == 1) with
  | true =>
    have H : Hid (validB 2 n s = eqB 2 n s 2 1 ⟨#[]⟩) := by unfold Hid validB eqB; simp only [empty_list]; cases h : (s.toList == []) <;> simp [hn]
    go_enter Tryz.func25, Tryz.ntmps25
    go_wp2
    go_region_held3 (fun w' => w'.cell? ⟨w.heap.size, 0, none⟩ = some (.int .i64 2) ∧ w'.cell? ⟨w.heap.size, 1, none⟩ = some (.int .i64 n) ∧ w'.cell? ⟨w.heap.size, 2, none⟩ = some (.string s))
      (first | go_keep | (go_split_ands; exact ⟨cell_later ‹_› ‹_›, cell_later ‹_› ‹_›, cell_later ‹_› ‹_›⟩))
      (first | (go_at_call 43; refine (truth_true _).mono ?_; rintro e w1 ⟨rfl, hbb⟩))
    go_wp2
    go_ret
    exact ⟨ret_bool H.out.symm, bel1t hbb⟩
  | false =>
    have H : Hid (validB 2 n s = eqB 2 n s 2 0 ⟨#[]⟩) := by unfold Hid validB eqB; simp only [empty_list]; cases h : (s.toList == []) <;> simp [hn]
    go_enter Tryz.func25, Tryz.ntmps25
    go_wp2
    go_region_held3 (fun w' => w'.cell? ⟨w.heap.size, 0, none⟩ = some (.int .i64 2) ∧ w'.cell? ⟨w.heap.size, 1, none⟩ = some (.int .i64 n) ∧ w'.cell? ⟨w.heap.size, 2, none⟩ = some (.string s))
      (first | go_keep | (go_split_ands; exact ⟨cell_later ‹_› ‹_›, cell_later ‹_› ‹_›, cell_later ‹_› ‹_›⟩))
      (first | (go_at_call 43; refine (truth_false _).mono ?_; rintro e w1 ⟨rfl, hbb⟩))
    go_wp2
    go_ret
    exact ⟨ret_bool H.out.symm, bel1t hbb⟩

theorem wv_3 (n : Int) (s : ByteArray) (w : World) (hs : s.size ≤ maxLen) :
    Calls Tryz.prog 25 #[.agg #[.int .i64 3, .int .i64 n, .string s]] w fun e w' => e = .returned (.bool (validB 3 n s)) ∧ Below w.heap.size w w' := by
  unfold maxLen at hs
  cases hq : eqB 3 n s 3 0 s with
  | true =>
    have H : Hid (validB 3 n s = decide ((s.size : Int) ≤ 60)) := by
      unfold Hid validB; unfold eqB at hq; simp at hq; simp [hq]
    go_enter Tryz.func25, Tryz.ntmps25
    go_wp2
    go_region_held3 (fun w' => w'.cell? ⟨w.heap.size, 0, none⟩ = some (.int .i64 3) ∧ w'.cell? ⟨w.heap.size, 1, none⟩ = some (.int .i64 n) ∧ w'.cell? ⟨w.heap.size, 2, none⟩ = some (.string s))
      (first | go_keep | (go_split_ands; exact ⟨cell_later ‹_› ‹_›, cell_later ‹_› ‹_›, cell_later ‹_› ‹_›⟩))
      (first | (go_at_call 44; refine (words_any _ _).mono ?_; rintro e w1 ⟨rfl, hbb⟩))
    go_wp2
    go_ret
    exact ⟨ret_bool H.out.symm, bel1t hbb⟩
  | false =>
    have H : Hid (validB 3 n s = false) := by
      unfold Hid validB; unfold eqB at hq; simp at hq; simp [hq]
    go_enter Tryz.func25, Tryz.ntmps25
    go_wp2
    first | (go_region_with (first | (go_at_call 44; refine (words_at _ _).mono ?_; rintro e w1 ⟨rfl, rfl⟩))) | fail
    all_goals go_wp2
    all_goals go_ret
    all_goals exact ⟨ret_bool H.out.symm, by repeat (first | exact bel1 _ _ | apply Below.drew | refine Below.alloc ?_ (by simp) _)⟩

theorem wv_x (k n : Int) (s : ByteArray) (w : World) (h0 : k ≠ 0) (h1 : k ≠ 1) (h2 : k ≠ 2) (h3 : k ≠ 3) :
    Calls Tryz.prog 25 #[.agg #[.int .i64 k, .int .i64 n, .string s]] w fun e w' => e = .returned (.bool (validB k n s)) ∧ Below w.heap.size w w' := by
  have H : Hid (validB k n s = false) := by unfold Hid validB; rw [if_neg h0, if_neg h1, if_neg h2, if_neg h3]
  have g0 : (k == 0) = false := by simpa using h0
  have g1 : (k == 1) = false := by simpa using h1
  have g2 : (k == 2) = false := by simpa using h2
  have g3 : (k == 3) = false := by simpa using h3
  clear h0 h1 h2 h3
  go_enter Tryz.func25, Tryz.ntmps25
  go_wp2
  go_ret
  exact ⟨ret_bool H.out.symm, bel1 _ _⟩

theorem wv_any (k n : Int) (s : ByteArray) (w : World) (hs : s.size ≤ maxLen) :
    Calls Tryz.prog 25 #[.agg #[.int .i64 k, .int .i64 n, .string s]] w fun e w' => e = .returned (.bool (validB k n s)) ∧ Below w.heap.size w w' := by
  by_cases h0 : k = 0
  · subst h0; exact wv_0 n s w
  by_cases h1 : k = 1
  · subst h1; exact wv_1 n s w
  by_cases h2 : k = 2
  · subst h2; exact wv_2 n s w
  by_cases h3 : k = 3
  · subst h3; exact wv_3 n s w hs
  exact wv_x k n s w h0 h1 h2 h3

def validV (v : V) : Bool := validB v.k v.n v.s
def validR (r : Rw) : Bool := r.vs.all validV && (decide (0 ≤ r.t) && decide (r.t ≤ 1099511627776) && decide (r.vs.length ≤ 8))
theorem wv_V (x : V) (w : World) (hs : x.s.size ≤ maxLen) :
    Calls Tryz.prog 25 #[.agg #[.int .i64 x.k, .int .i64 x.n, .string x.s]] w fun e w' => e = .returned (.bool (validV x)) ∧ Below w.heap.size w w' := wv_any x.k x.n x.s w hs

set_option maxHeartbeats 2000000 in
theorem validRow_any (r : Rw) (av : Option Addr) (cv : Nat) (w : World) (hl : VLies w av r.vs) (hg : r.vs.length ≤ maxLen ∧ ∀ v ∈ r.vs, v.s.size ≤ maxLen) :
    Calls Tryz.prog 12 #[.agg #[.int .i64 r.t, .slice av r.vs.length cv]] w fun e w' => e = .returned (.bool (validR r)) ∧ Below w.heap.size w w' := by
  have HL : Hid (VLies w av r.vs) := hl
  have HG : Hid (∀ v ∈ r.vs, v.s.size ≤ maxLen) := hg.2
  have hvl := hg.1
  unfold maxLen at hvl
  have HR : Hid (validR r = (r.vs.all validV && (decide (0 ≤ r.t) && decide (r.t ≤ 1099511627776) && decide (r.vs.length ≤ 8)))) := rfl
  clear hl hg
  generalize r.vs = vs at *
  generalize r.t = T at *
  by_cases hout : T < 0 ∨ (¬ T < 0 ∧ 1099511627776 < T) ∨ (¬ T < 0 ∧ ¬ 1099511627776 < T ∧ 8 < (vs.length : Int))
  · have H : Hid (validR r = false) := by
      rw [Hid, HR.out]
      rcases hout with h | ⟨_, h⟩ | ⟨_, _, h⟩
      · rw [decide_eq_false (show ¬ 0 ≤ T by omega)]; simp
      · rw [decide_eq_false (show ¬ T ≤ 1099511627776 by omega)]; simp
      · rw [decide_eq_false (show ¬ vs.length ≤ 8 by omega)]; simp
    rcases hout with h | ⟨h1, h⟩ | ⟨h1, h2, h⟩
    all_goals
      go_enter Tryz.func12, Tryz.ntmps12
      go_wp2
      go_ret
      exact ⟨ret_bool H.out.symm, bel1 _ _⟩
  · have g0 : ¬ T < 0 := fun h => hout (.inl h)
    have g1 : ¬ 1099511627776 < T := fun h => hout (.inr (.inl ⟨g0, h⟩))
    have g2 : ¬ 8 < (vs.length : Int) := fun h => hout (.inr (.inr ⟨g0, g1, h⟩))
    have H : Hid (validR r = vs.all validV) := by
      rw [Hid, HR.out, decide_eq_true (show 0 ≤ T by omega), decide_eq_true (show T ≤ 1099511627776 by omega), decide_eq_true (show vs.length ≤ 8 by omega)]; simp
    clear hout
    go_enter Tryz.func12, Tryz.ntmps12
    go_wp2
    go_loopw [22] (fun i w' => ∃ k : Nat, k ≤ vs.length ∧ i = .int .i64 k ∧ (vs.take k).all validV = true ∧ Below w.heap.size w w') (fun i _ => vs.length - (intOf i).toNat)
    case atStart => exact ⟨0, Nat.zero_le _, rfl, rfl, bel1 _ _⟩
    case round =>
      obtain ⟨k, hk, rfl, hall, hb⟩ := hrel
      have HB : Hid (Below w.heap.size w wr) := hb
      have HA : Hid ((vs.take k).all validV = true) := hall
      have hsz := hb.size
      clear hb hall
      by_cases hlt : k < vs.length
      · obtain ⟨b, off, rfl, e1, e2, e3⟩ := HL.out k hlt
        replace e1 := cell_later HB.out e1
        replace e2 := cell_later HB.out e2
        replace e3 := cell_later HB.out e3
        have hki : (k : Int) < (vs.length : Int) := by omega
        have hgs := HG.out _ (List.getElem_mem hlt)
        have HT' : Hid _ := take_all validV vs k hlt
        have HF' : Hid (validV vs[k] = false → vs.all validV = false) := all_false validV vs k hlt
        go_wp2_with fail
        refine (wv_V vs[k] _ hgs).mono ?_
        rintro e w2 ⟨rfl, hb2⟩
        have HB2 : Hid (Below w.heap.size w w2) := (HB.out.alloc hsz _).trans (hb2.mono (by simp; omega))
        clear hb2
        cases hv : validV vs[k] with
        | true =>
          rw [hv, HA.out] at HT'
          go_wp2
          go_roundw
          case rel => exact ⟨k + 1, by omega, by go_num, HT'.out, HB2.out⟩
          case measure => simp [intOf]; omega
        | false =>
          have HF2 : Hid (vs.all validV = false) := HF'.out hv
          go_wp2
          go_ret
          exact ⟨ret_bool (by rw [H.out, HF2.out]), HB2.out⟩
      · obtain rfl : k = vs.length := by omega
        have HA' : Hid (vs.all validV = true) := by have := HA.out; rw [List.take_of_length_le (Nat.le_refl _)] at this; exact this
        go_wp2
        go_ret
        exact ⟨ret_bool (by rw [H.out, HA'.out]), HB.out⟩
end Go.Proofs.YtodkekmfadfjkaaGreatDoor
