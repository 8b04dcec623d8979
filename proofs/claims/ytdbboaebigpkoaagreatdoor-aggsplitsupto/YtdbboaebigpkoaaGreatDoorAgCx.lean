import Derived.Test.YtdbboaebigpkoaaGreatDoorAgXx
import Derived.Test.YtdbboaebigpkoaaGreatDoorAgW2
import Derived.Test.YtdbboaebigpkoaaGreatDoorAgI0
namespace Go.Proofs.YtdbboaebigpkoaaGreatDoor
open Go.RowKit
set_option linter.unusedVariables false
set_option linter.unusedSimpArgs false
set_option maxRecDepth 100000

theorem OT.place {w : World} {B : Nat} {a : Option Addr} {n c : Nat} {l : List Tm} (h : OT w B (.slice a n c) l) : ∀ y, a = some y → B ≤ y.block ∧ y.block < w.heap.size := by
  intro y hy
  rcases h.2 with ⟨h1, -⟩ | ⟨g, cap, cur, h1, h2, h3, -⟩
  · simp only [Value.slice.injEq] at h1
    rw [h1.1] at hy
    cases hy
  · simp only [Value.slice.injEq] at h1
    rw [h1.1] at hy
    cases hy
    refine ⟨h2, ?_⟩
    rcases Nat.lt_or_ge g w.heap.size with h | h
    · exact h
    · rw [Array.getElem?_eq_none h] at h3; cases h3
/-- What carrying leaves. -/
def CyPost (I : Nat → World → Value → List Tm → Prop) (l : List Tm) (w : World) (e : Ending) (w' : World) : Prop := Below w.heap.size w w' ∧
  if l.all tval = true then ∃ x B, e = .returned (.tuple #[x, .nilIface]) ∧ w.heap.size ≤ B ∧ B ≤ w'.heap.size ∧ I B w' x l else e = .returned (.tuple #[.nilIface, errR])
/-- What is needed of a list's parts. -/
def Carries (kind : Int) (l : List Tm) : Prop := ∀ ps, PartsOf kind l ps → (∀ p ∈ ps, FineP p) ∧ (∀ p ∈ ps, Fits p.v) ∧ ps.length ≤ 1048577 ∧ (Wr.encRows (ps.map rowOf)).length ≤ 549755813888
set_option maxHeartbeats 4000000 in
theorem carried_any (kind : Int) (hk : 1 ≤ kind ∧ kind ≤ 7) (I : Nat → World → Value → List Tm → Prop) (J : Nat → Nat → World → Value → List Tm → Prop) (K : IsWay kind I) (JJ : IsJoin kind I J) (l : List Tm) (a : Option Addr) (c : Nat) (w : World) (hl : TLies w a l) (hg : l.length ≤ 3518437208781 ∧ ∀ o ∈ l, Fits o.v) (hC : l.all tval = true → Carries kind l) :
    Calls Tryz.prog 8 #[.int .i64 kind, .slice a l.length c] w (CyPost I l w) := by
  have HT : Hid (Calls Tryz.prog 13 #[.int .i64 kind, .slice a l.length c] w (TkPost I l w)) := taken_any kind hk I K l a c w hl ⟨by omega, hg.2⟩
  have HK := hidMk K
  have HJ := hidMk JJ
  have HC := hidMk hC
  have hml := hg.1
  have HG0 := hidMk hg
  clear hl hg hk K JJ hC
  go_enter Tryz.func8, Tryz.ntmps8
  go_wp2_with fail
  refine HT.out.mono ?_
  rintro e w1 ⟨hb1, h1⟩
  have HB1 := hidMk hb1
  have hs1 := hb1.size
  cases hv : l.all tval with
  | false =>
    have FIN : Hid (∀ e w', Below w.heap.size w w' → e = .returned (.tuple #[.nilIface, errR]) → CyPost I l w e w') := fun e w' h1 h2 => ⟨h1, by rw [hv]; exact h2⟩
    rw [hv] at h1
    simp only [Bool.false_eq_true, if_false] at h1
    subst h1
    clear hb1
    unfold errR at *
    go_wp2_with fail
    go_ret2
    exact FIN.out _ _ HB1.out rfl
  | true =>
    have FIN : Hid (∀ x B w', Below w.heap.size w w' → w.heap.size ≤ B → B ≤ w'.heap.size → I B w' x l → CyPost I l w (.returned (.tuple #[x, .nilIface])) w') := fun x B w' h1 h2 h4 h3 => ⟨h1, by rw [hv]; exact ⟨x, B, rfl, h2, h4, h3⟩⟩
    have HCl := hidMk (HC.out hv)
    rw [hv] at h1
    simp only [if_true] at h1
    obtain ⟨x, rfl, hI⟩ := h1
    obtain ⟨t, p, fn, rc, rfl, hM, hP⟩ := HJ.out.parts _ w1 x l hI HG0.out
    have m1 := hM.meth
    have m2 := hM.nila
    have m3 := hM.ent
    have HPt := hidMk hP
    clear hM hP hb1 hI HC HT
    go_wp2_with fail
    refine HPt.out.mono ?_
    rintro e w2 ⟨y, ps, rfl, hO2, hP2, hb2⟩
    obtain ⟨q1, q2, q3, q4⟩ := HCl.out ps hP2
    obtain ⟨ay, cy, rfl, hTy⟩ := hO2.form
    have HB2 : Hid (Below w.heap.size w w2) := HB1.out.trans (hb2.mono hs1)
    have hs2 := HB2.out.size
    have HP2 := hidMk hP2
    have HWr := hidMk (written_any ps ay cy w2 hTy q1 q3 q4)
    have HQ1 := hidMk q1
    have HQ2 := hidMk q2
    have HQ4 := hidMk q4
    clear hO2 hP2 hb2 hTy q1 q2 q4 HPt HCl HB1
    go_wp2_with fail
    refine HWr.out.mono ?_
    rintro e w3 ⟨z, rfl, hz, hb3⟩
    have HB3 : Hid (Below w.heap.size w w3) := HB2.out.trans (hb3.mono hs2)
    have hs3 := HB3.out.size
    have HRd := hidMk (read_any ps z w2.heap.size w3 hz HQ1.out q3 HQ4.out)
    clear hz hb3 HWr HB2
    go_wp2_with fail
    refine HRd.out.mono ?_
    rintro e w4 ⟨z4, rfl, hO4, hb4⟩
    obtain ⟨a4, c4, rfl, hT4⟩ := hO4.form
    have HB4 : Hid (Below w.heap.size w w4) := HB3.out.trans (hb4.mono hs3)
    have hs4 := HB4.out.size
    have HT4 := hidMk hT4
    have HPl : Hid (∀ y, a4 = some y → y.block < w4.heap.size) := fun y hy => (hO4.place y hy).2
    clear hO4 hb4 hT4 HRd HB3
    go_wp2_with fail
    refine (HK.out.beg w4).mono ?_
    rintro e w5 ⟨x5, rfl, hI5, hb5⟩
    have hJ5 := HJ.out.ofI _ _ _ _ hI5
    have hT5 := HT4.out.later hb5
    have hap : ∀ y, a4 = some y → y.block < w4.heap.size ∨ w5.heap.size ≤ y.block := fun y hy => .inl (HPl.out y hy)
    obtain ⟨t5, p5, rfl, hJn⟩ := HJ.out.join w4.heap.size w5.heap.size w5 x5 [] l ps a4 c4 hJ5 HP2.out hT5 hap HQ2.out (by simp; omega) (by omega)
    have HJn := hidMk hJn
    have HB5 : Hid (Below w.heap.size w w5) := HB4.out.trans (hb5.mono hs4)
    have hs45 := hb5.size
    clear hJn hap hJ5 hT5 hI5 hb5
    go_wp2_with fail
    refine HJn.out.mono ?_
    rintro e w6 ⟨rfl, hJ6, hK6⟩
    rw [List.nil_append] at hJ6
    have HI6 := hidMk (HJ.out.toI _ _ _ _ _ hJ6)
    have HB6 : Hid (Below w.heap.size w w6) := by
      have h5 := HB5.out
      have hs5 := h5.size
      exact h5.trans ((hK6.below (by omega)).mono hs4)
    have hs56 := hK6.size
    have hs46 : w4.heap.size ≤ w6.heap.size := by omega
    clear hJ6 hK6 HJn
    go_wp2_with fail
    go_ret2
    exact FIN.out _ _ _ HB6.out hs4 hs46 HI6.out
end Go.Proofs.YtdbboaebigpkoaaGreatDoor
namespace Go.Proofs.YtdbboaebigpkoaaGreatDoor
open Go.RowKit
set_option linter.unusedVariables false
set_option linter.unusedSimpArgs false

theorem valid_size (v : V) (h : validV v = true) : v.s.size ≤ 60 := by
  have h' : validW v = true := (validB_V v).symm.trans h
  unfold validW at h'
  repeat' split at h'
  all_goals simp at h'
  all_goals first | omega | (have := h'.2; omega) | (have := h'.1; omega) | skip
  all_goals (try (rw [h'.2]; decide))
  all_goals (try (rw [h'.1]; decide))
  all_goals (try (rw [h']; decide))
theorem wf_in {x : Int} (h : (Lit.int .i64 x).wf = true) : InN x := by
  have h1 : (decide (IntKind.i64.min ≤ x) && decide (x ≤ IntKind.i64.max)) = true := h
  have e1 : IntKind.i64.min = -9223372036854775808 := by decide
  have e2 : IntKind.i64.max = 9223372036854775807 := by decide
  rw [Bool.and_eq_true, decide_eq_true_eq, decide_eq_true_eq, e1, e2] at h1
  exact h1
theorem in_wf {x : Int} (h : InN x) : (Lit.int .i64 x).wf = true := by
  show (decide (IntKind.i64.min ≤ x) && decide (x ≤ IntKind.i64.max)) = true
  have e1 : IntKind.i64.min = -9223372036854775808 := by decide
  have e2 : IntKind.i64.max = 9223372036854775807 := by decide
  rw [Bool.and_eq_true, decide_eq_true_eq, decide_eq_true_eq, e1, e2]
  exact h
theorem val_int (n : Int) : validV ⟨1, n, ⟨#[]⟩⟩ = true := (validB_V _).trans (by unfold validW; simp; rfl)
theorem val_v0 : validV v0 = true := (validB_V _).trans (by unfold validW; rfl)
theorem in0 : InN 0 := ⟨by decide, by decide⟩
theorem fine_int {n : Int} (hn : InN n) : FineP ⟨0, ⟨1, n, ⟨#[]⟩⟩⟩ ∧ Fits (Tm.mk 0 ⟨1, n, ⟨#[]⟩⟩).v :=
  ⟨⟨in0, hn, by show (0 : Nat) ≤ 60; omega, val_int n⟩, rfl, in_wf hn, by show (0 : Nat) ≤ _; decide⟩
theorem fine_v0 : FineP ⟨0, v0⟩ ∧ Fits (Tm.mk 0 v0).v := ⟨⟨in0, in0, by show (0 : Nat) ≤ 60; omega, val_v0⟩, rfl, rfl, by show (0 : Nat) ≤ _; decide⟩
theorem wrap_in (x : Int) : InN (wrap64 x) := by unfold InN wrap64; omega
theorem encVal_len (v : Wr.V) (h1 : Wr.InI v.n) (h2 : v.s.size ≤ 60) : (Wr.encVal v).length ≤ 72 := by
  unfold Wr.encVal Wr.encTail
  rw [List.length_cons]
  have a1 := Wr.encInt_len v.n h1.1 h1.2
  have a2 := Wr.encInt_len (v.s.size : Int) (by omega) (by omega)
  split
  · omega
  · split
    · rw [List.length_append, show v.s.data.toList.length = v.s.size by simp]; omega
    · simp
theorem encRow_len (p : Tm) (h : FineP p) : (Wr.encRow (rowOf p)).length ≤ 164 := by
  unfold Wr.encRow rowOf
  have a1 := Wr.encInt_len 0 (by decide) (by decide)
  have a2 := Wr.encInt_len 2 (by decide) (by decide)
  have a3 := encVal_len ⟨1, p.t, ⟨#[]⟩⟩ h.1 (by show (0 : Nat) ≤ _; omega)
  have a4 := encVal_len (tw p.v) h.2.1 h.2.2.1
  simp only [List.length_append, List.flatMap_cons, List.flatMap_nil, List.length_cons, List.length_nil]
  have e : ((0 + 1 + 1 : Nat) : Int) = 2 := rfl
  rw [e]
  omega
theorem rows_len (ps : List Tm) (h : ∀ p ∈ ps, FineP p) : ((ps.map rowOf).flatMap Wr.encRow).length ≤ 164 * ps.length := by
  induction ps with
  | nil => simp
  | cons p ps ih =>
    rw [List.map_cons, List.flatMap_cons, List.length_append, List.length_cons]
    have a := encRow_len p (h p (by simp))
    have b := ih (fun q hq => h q (List.mem_cons_of_mem _ hq))
    omega
theorem enc_len (ps : List Tm) (h : ∀ p ∈ ps, FineP p) (hm : ps.length ≤ 1048577) : (Wr.encRows (ps.map rowOf)).length ≤ 549755813888 := by
  unfold Wr.encRows
  rw [List.length_append, List.length_map]
  have a := rows_len ps h
  have b := Wr.encInt_len (ps.length : Int) (by omega) (by omega)
  omega
theorem fold_mem {α : Type} (f : α → α → α) (hf : ∀ x y, f x y = x ∨ f x y = y) : ∀ (l : List α) (x : α), l.foldl f x = x ∨ l.foldl f x ∈ l
  | [], x => .inl rfl
  | y :: l, x => by
    rw [List.foldl_cons]
    rcases fold_mem f hf l (f x y) with h | h
    · rw [h]
      rcases hf x y with h' | h'
      · exact .inl h'
      · rw [h']; exact .inr (by simp)
    · exact .inr (List.mem_cons_of_mem _ h)
theorem pickS_mem (kind : Int) (l : List Tm) : pickS kind l = t0 ∨ pickS kind l ∈ l :=
  fold_mem (pickF kind) (fun x y => by unfold pickF; split; exact .inr rfl; exact .inl rfl) l t0
theorem fits_v0' : Fits v0 := ⟨rfl, rfl, by decide⟩
/-- A list of few values carries. -/
theorem carries_of (kind : Int) (hk : 1 ≤ kind ∧ kind ≤ 7) (l : List Tm) (hv : l.all tval = true) (hf : ∀ o ∈ l, Fits o.v ∧ InN o.t) (hm : l.length ≤ 1048576) : Carries kind l := by
  intro ps hp
  have hfine : ∀ o ∈ l, FineP o := fun o ho => by
    have hvo : validV o.v = true := List.all_eq_true.1 hv o ho
    exact ⟨(hf o ho).2, wf_in (hf o ho).1.2.1, valid_size _ hvo, hvo⟩
  have key : (∀ p ∈ ps, FineP p) ∧ (∀ p ∈ ps, Fits p.v) ∧ ps.length ≤ 1048577 := by
    unfold PartsOf at hp
    by_cases h7 : kind = 7
    · rw [if_pos h7] at hp
      obtain ⟨h1, h2, h3⟩ := hp
      have hin : ∀ p ∈ ps, ∃ o ∈ l, o.v = p.v := fun p hpp => by
        have := (h1 p.v).1 (List.mem_map.2 ⟨p, hpp, rfl⟩)
        unfold nv nn at this
        obtain ⟨o, ho, e⟩ := List.mem_map.1 this
        exact ⟨o, (List.mem_filter.1 ho).1, e⟩
      refine ⟨fun p hpp => ?_, fun p hpp => ?_, by omega⟩
      · obtain ⟨o, ho, e⟩ := hin p hpp
        have hfo := hfine o ho
        have ht := (h3 p hpp).2
        unfold FineP at hfo ⊢
        rw [← e, ht]
        exact ⟨⟨by decide, by decide⟩, hfo.2⟩
      · obtain ⟨o, ho, e⟩ := hin p hpp
        rw [← e]; exact (hf o ho).1
    · rw [if_neg h7] at hp
      have one : FineP (keptOf kind l) ∧ Fits (keptOf kind l).v := by
        unfold keptOf
        by_cases h1 : kind = 1
        · rw [if_pos h1]
          have hn : InN (l.length : Int) := ⟨by omega, by omega⟩
          exact fine_int hn
        · rw [if_neg h1]
          by_cases h2 : kind = 2
          · rw [if_pos h2]
            have hn : InN (sumS l).n := by rw [sum_n]; exact wrap_in _
            have hs : sumS l = v0 ∨ sumS l = ⟨1, (sumS l).n, ⟨#[]⟩⟩ := by
              unfold sumS
              rw [sum_fold]
              split
              · exact .inl rfl
              · exact .inr rfl
            rcases hs with h | h
            · rw [h]
              exact fine_v0
            · rw [h]
              exact fine_int hn
          · rw [if_neg h2]
            rcases pickS_mem kind l with h | h
            · rw [h]
              exact fine_v0
            · exact ⟨hfine _ h, (hf _ h).1⟩
      split at hp
      · rw [hp]; exact ⟨fun p h => (by cases h), fun p h => (by cases h), by simp⟩
      · rw [hp]
        exact ⟨fun p h => by rw [List.mem_singleton.1 h]; exact one.1, fun p h => by rw [List.mem_singleton.1 h]; exact one.2, by simp⟩
  exact ⟨key.1, key.2.1, key.2.2, enc_len ps key.1 key.2.2⟩
end Go.Proofs.YtdbboaebigpkoaaGreatDoor
