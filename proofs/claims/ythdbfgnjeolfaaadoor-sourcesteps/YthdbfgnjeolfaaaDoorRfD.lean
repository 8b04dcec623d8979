import Derived.Test.YthdbfgnjeolfaaaDoorRfB
namespace Go.Proofs.YthdbfgnjeolfaaaDoor
open Go.RowKit
set_option linter.unusedVariables false
set_option linter.unusedSimpArgs false
set_option maxRecDepth 100000
set_option maxHeartbeats 4000000

/-- What is wrong with rows and a bound. -/
def errN (rs : List Rw) (bd : Int) : Int := if 100 < rs.length then 5 else if 0 ≤ bd ∧ bd ≤ 1048576 ∧ rs.all validR = true then 0 else 4
def RNewPost (w : World) (x : Value) (rs : List Rw) (bd : Int) (e : Ending) (w' : World) : Prop :=
  Below w.heap.size w w' ∧ ((errN rs bd ≠ 0 ∧ e = .returned (.tuple #[.pointer none, .int .i64 (errN rs bd)])) ∨ (errN rs bd = 0 ∧ ∃ g, e = .returned (.tuple #[.pointer (some ⟨g, 0, none⟩), .int .i64 0]) ∧ w.heap.size ≤ g ∧ Rdf w' g x bd 0))

theorem rnew_any (rs : List Rw) (a : Option Addr) (c : Nat) (bd : Int) (w : World) (h : RLies w a rs) (hl : rs.length ≤ 4398046511104) (hg : ∀ r ∈ rs, r.vs.length ≤ 4398046511104 ∧ ∀ v ∈ r.vs, v.s.size ≤ maxLen) :
    Calls Tryd.prog 6 #[.slice a rs.length c, .int .i64 bd] w (RNewPost w (.slice a rs.length c) rs bd) := by
  have HR : Hid (RLies w a rs) := h
  have HG : Hid (∀ r ∈ rs, r.vs.length ≤ 4398046511104 ∧ ∀ v ∈ r.vs, v.s.size ≤ maxLen) := hg
  clear h hg
  by_cases h100 : (rs.length : Int) > 100
  · have HE : Hid (errN rs bd = 5) := by unfold Hid errN; rw [if_pos (by omega)]
    go_enter Tryd.func6, Tryd.ntmps6
    go_wp2
    go_ret2
    exact ⟨Below.refl _ _, .inl ⟨by rw [HE.out]; decide, by rw [HE.out]; rfl⟩⟩
  by_cases hb0 : bd < 0
  · have g1 : decide (bd < 0) = true := by simpa using hb0
    have HE : Hid (errN rs bd = 4) := by unfold Hid errN; rw [if_neg (by omega), if_neg (by omega)]
    go_enter Tryd.func6, Tryd.ntmps6
    go_wp2
    go_ret2
    exact ⟨Below.refl _ _, .inl ⟨by rw [HE.out]; decide, by rw [HE.out]; rfl⟩⟩
  have g1 : decide (bd < 0) = false := by simpa using hb0
  by_cases hb1 : bd > 1048576
  · have HE : Hid (errN rs bd = 4) := by unfold Hid errN; rw [if_neg (by omega), if_neg (by omega)]
    go_enter Tryd.func6, Tryd.ntmps6
    go_wp2
    go_ret2
    exact ⟨Below.refl _ _, .inl ⟨by rw [HE.out]; decide, by rw [HE.out]; rfl⟩⟩
  go_enter Tryd.func6, Tryd.ntmps6
  go_wp2
  go_loopg [6] rs.length (fun gk i wr => ∃ (k : Nat), gk + k = rs.length ∧ i = .int .i64 k ∧ (rs.take k).all validR = true ∧ Below w.heap.size w wr)
  case atStart => exact ⟨0, by omega, rfl, rfl, Below.refl _ _⟩
  case round =>
    obtain ⟨k, hgk, rfl, hall, hb⟩ := hrel
    have HA := hidMk hall
    have HB := hidMk hb
    have hsz := hb.size
    clear hall hb
    by_cases hlt : k < rs.length
    · have hlt' : (k : Int) < (rs.length : Int) := by omega
      obtain ⟨b, off, av, cv, e0, e1, e2, e3⟩ := HR.out k hlt
      subst e0
      obtain ⟨hn, hns⟩ := HG.out _ (List.getElem_mem hlt)
      have HNS := hidMk hns
      have HV := hidMk (e3.later HB.out)
      have HTK := hidMk (take_all validR rs k hlt)
      have HFK : Hid (validR rs[k] = false → rs.all validR = false) := all_false validR rs k hlt
      replace e1 := cell_later HB.out e1
      replace e2 := cell_later HB.out e2
      clear hns e3
      generalize rs[k] = r at *
      go_wp2_with fail
      refine (refValidRow_any r av cv wr HV.out ⟨by unfold maxLen; omega, HNS.out⟩).mono ?_
      rintro e w2 ⟨rfl, hb2⟩
      have HB2 : Hid (Below w.heap.size w w2) := HB.out.trans (hb2.mono hsz)
      clear hb2
      cases hvr : validR r with
      | false =>
        have HE : Hid (errN rs bd = 4) := by unfold Hid errN; rw [if_neg (by omega), if_neg (by rw [HFK.out hvr]; simp)]
        go_wp2
        go_ret2
        exact ⟨HB2.out, .inl ⟨by rw [HE.out]; decide, by rw [HE.out]; rfl⟩⟩
      | true =>
        have HTK2 : Hid ((rs.take (k + 1)).all validR = true) := by unfold Hid; rw [HTK.out, HA.out, hvr]; rfl
        go_wp2
        go_roundg (gk - 1)
        case measure => omega
        case rel => exact ⟨k + 1, by omega, by go_num, HTK2.out, HB2.out⟩
    · have hlt' : ¬ (k : Int) < (rs.length : Int) := by omega
      obtain rfl : k = rs.length := by omega
      have HE : Hid (errN rs bd = 0) := by
        have := HA.out
        rw [List.take_length] at this
        unfold Hid errN; rw [if_neg (by omega), if_pos ⟨by omega, by omega, this⟩]
      have HO := hidMk (Own.new wr 45 3 #[.slice a rs.length c, .int .i64 bd, .int .i64 0] rfl)
      go_wp2
      go_ret2
      exact ⟨HB.out.alloc hsz _, .inr ⟨HE.out, wr.heap.size, rfl, hsz, HO.out⟩⟩

/-- Seek, in the document's words. -/
def SeekPost (w : World) (g : Nat) (x : Value) (rs : List Rw) (qs : List Q) (bd A : Int) (e : Ending) (w' : World) : Prop :=
  ((A < 0 ∨ A > (rs.length : Int) + 1) ∧ e = .returned (.iface 33 (.int .i64 4)) ∧ w' = w) ∨
  (∃ k : Nat, A = (k : Int) ∧ k ≤ rs.length + 1 ∧ e = .returned .nilIface ∧ Rdr w' g x bd (k : Int) (timeR rs bd k) (lostR rs bd k) ∧ OR w' (g + 1) x qs ∧ w.grownBy w' (some g))
theorem seek_any (w : World) (g : Nat) (ax : Option Addr) (cx : Nat) (bd at_ tm lt A : Int) (qs : List Q) (h : Rdr w g (.slice ax qs.length cx) bd at_ tm lt) (hO : OR w (g + 1) (.slice ax qs.length cx) qs) (hf : Fit (qs.map (·.r)) bd) :
    Calls Tryd.prog 8 #[.pointer (some ⟨g, 0, none⟩), .int .i64 A] w (SeekPost w g (.slice ax qs.length cx) (qs.map (·.r)) qs bd A) := by
  have HR := hidMk h
  have HO := hidMk hO
  have HF := hidMk hf
  have hn : qs.length ≤ 100 := by have := hf.n; rw [List.length_map] at this; exact this
  have HLM : Hid ((qs.map (·.r)).length = qs.length) := List.length_map ..
  obtain ⟨c0, c1, c2, c3, c4⟩ := h.cells
  clear h hO hf
  by_cases hA0 : A < 0
  · have g1 : decide (A < 0) = true := by simpa using hA0
    go_enter Tryd.func8, Tryd.ntmps8
    go_wp2
    go_ret
    exact .inl ⟨.inl hA0, rfl, rfl⟩
  have g1 : decide (A < 0) = false := by simpa using hA0
  by_cases hA1 : A > (qs.length : Int) + 1
  · go_enter Tryd.func8, Tryd.ntmps8
    go_wp2
    go_ret
    exact .inl ⟨.inr (by rw [HLM.out]; exact hA1), rfl, rfl⟩
  obtain ⟨N, rfl⟩ : ∃ N : Nat, A = (N : Int) := ⟨A.toNat, by omega⟩
  have hN : N ≤ qs.length + 1 := by omega
  go_enter Tryd.func8, Tryd.ntmps8
  go_wp2_with fail
  refine (begin_any _ _ _ _ _ _ _ HR.out).mono ?_
  rintro e w1 ⟨rfl, hR1, hg1⟩
  have HR1 := hidMk hR1
  have HG1 := hidMk hg1
  have HO1 := hidMk (HO.out.grown hg1 (fun k hk => by cases hk; exact Nat.lt_succ_self _))
  clear hR1 hg1 HR HO c0 c1 c2 c3 c4
  go_wp2
  go_loopg [21] N (fun gk i wr => ∃ (j : Nat), gk + j = N ∧ i = .int .i64 j ∧ Rdr wr g (.slice ax qs.length cx) bd (j : Int) (timeR (qs.map (·.r)) bd j) (lostR (qs.map (·.r)) bd j) ∧ OR wr (g + 1) (.slice ax qs.length cx) qs ∧ w.grownBy wr (some g))
  case atStart => exact ⟨0, by omega, rfl, HR1.out, HO1.out, HG1.out⟩
  case round =>
    clear HR1 HO1 HG1
    obtain ⟨j, hgk, rfl, hR, hO, hg⟩ := hrel
    have HR := hidMk hR
    have HO := hidMk hO
    have HG := hidMk hg
    clear hR hO hg
    by_cases hj : j < N
    · have hj' : (j : Int) < (N : Int) := by omega
      have HT := hidMk (takeS_R (qs.map (·.r)) bd HF.out.b0 (fun r hr => (HF.out.t r hr).2) j (by rw [HLM.out]; omega))
      obtain ⟨l1, l2⟩ := lostR_bd (qs.map (·.r)) bd j
      go_wp2_with fail
      refine (take_any wr g ax cx bd j _ _ qs HR.out HO.out (by omega) ⟨by omega, by omega⟩ hn ⟨HF.out.b0, HF.out.b1⟩ (fun q hq => by have h1 := HF.out.t q.r (List.mem_map.2 ⟨q, hq, rfl⟩); have h2 := HF.out.v q.r (List.mem_map.2 ⟨q, hq, rfl⟩); exact ⟨h1.1, h1.2, h2⟩)).mono ?_
      rw [HT.out]
      rintro e w2 ⟨v, els, rfl, -, -, hR2, hO2, hg2⟩
      have HR2 := hidMk hR2
      have HO2 := hidMk hO2
      have HG2 := hidMk (grown_trans HG.out hg2)
      clear hR2 hO2 hg2
      go_wp2
      go_roundg (gk - 1)
      case measure => omega
      case rel => exact ⟨j + 1, by omega, by go_num, HR2.out, HO2.out, HG2.out⟩
    · have hj' : ¬ (j : Int) < (N : Int) := by omega
      obtain rfl : j = N := by omega
      go_wp2
      go_ret
      exact .inr ⟨j, rfl, by rw [HLM.out]; omega, rfl, HR.out, HO.out, HG.out⟩
end Go.Proofs.YthdbfgnjeolfaaaDoor
