import Derived.Test.YtnmelljaangfiaaGreatDoorDd1
import Derived.Test.YtnmelljaangfiaaGreatDoorXpL
import Derived.Defers
import Derived.Recover
import Derived.Stop.Asserts
import Derived.Test.YtnmelljaangfiaaGreatDoorVe1
namespace Go.Proofs.YtnmelljaangfiaaGreatDoor.Dc
open Go.RowKit
set_option linter.unusedVariables false
set_option linter.unusedSimpArgs false
set_option maxRecDepth 100000

/-- How the document's Check ends. -/
def CheckD (L : ByteArray → Int → Int → ByteArray → Prop) (w : World) (s : ByteArray) (c : List Co) (e : Ending) (w' : World) : Prop := Below w.heap.size w w' ∧ ∃ o, PX L s o ∧
  match ckO c o with
  | .ok (x, k) => ∃ b, e = .returned (.tuple #[ptrE b, .int .i64 k, .int .i64 0, .int .i64 0]) ∧ Et w' w.heap.size w'.heap.size x (ptrE b)
  | .error f => ∃ pv, e = .returned (.tuple #[.pointer pv, .int .i64 0, .int .i64 f.why, .int .i64 f.pl])
theorem px_nx {L : ByteArray → Int → Int → ByteArray → Prop} (hL : ∀ t : Tk, Wf t → isLit t → ∀ k n s, L t.tx k n s → k ≠ 0) {s : ByteArray} {x : X} (h : PX L s (.ok x)) : NX x := by
  cases h with
  | ok a b c => exact Ps.nx hL c (tok_wf _ _ _ _ (by simp; omega) b) trivial x [] rfl
theorem px_why {L : ByteArray → Int → Int → ByteArray → Prop} {s : ByteArray} {f : Flt} (hP : ∀ {m : Mode} {lev : Nat} {ts : List Tk}, Ps L s.size m lev ts (.error f) → f.why ≠ 0) (h : PX L s (.error f)) : f.why ≠ 0 := by
  cases h with
  | full a => simp
  | tok a b => simp
  | bad a b c => exact hP c
  | more a b c => simp
theorem Ps.why {L : ByteArray → Int → Int → ByteArray → Prop} {E : Nat} {m : Mode} {lev : Nat} {ts : List Tk} {o : PR} (h : Ps L E m lev ts o) : ∀ f, o = .error f → f.why ≠ 0 := by
  induction h <;> intro f e <;> first | (cases e; simp; done) | (cases e; simp at *; assumption) | (rename_i ih; exact ih f e) | (cases e; rename_i ih; exact ih _ rfl) | (rename_i ih1 ih2; exact ih2 f e) | (cases e)
theorem cols_nz {c : List Co} (h : colsX c) : ∀ x ∈ c, x.k ≠ 0 := by
  intro x hx
  obtain ⟨i, hi, rfl⟩ := List.getElem_of_mem hx
  rcases (h.2 i hi).2.2 with h | h | h <;> omega
set_option maxHeartbeats 4000000 in
theorem checkD_any {L : ByteArray → Int → Int → ByteArray → Prop} (hD : DRd L) (hT : ∃ k n s, L bTrue k n s) (hF : ∃ k n s, L bFalse k n s) (hL : ∀ t : Tk, Wf t → isLit t → ∀ k n s, L t.tx k n s → k ≠ 0) (s : ByteArray) (a : Option Addr) (cc : Nat) (c : List Co) (w : World) (hc : ColsAt w a c) (hm : c.length ≤ maxLen) (hz : ∀ x ∈ c, x.nm.size ≤ 140737488355328) :
    Calls Tryz.prog 6 #[.string s, .slice a c.length cc] w (CheckD L w s c) := by
  have HP : Hid (Calls Tryz.prog 9 #[.string s] w (ParseD L w s)) := parseD_any hD hT hF s w
  have HC := hidMk' hc
  have HM := hidMk' hm
  have HZ := hidMk' hz
  have HL := hidMk' hL
  clear hD hT hF hc hm hz hL
  go_enter Tryz.func6, Tryz.ntmps6
  go_wp2_with fail
  refine HP.out.mono ?_
  rintro e w1 ⟨hb1, o, hpx, ho⟩
  have HB1 := hidMk' hb1
  have HPX := hidMk' hpx
  clear hb1 hpx HP
  cases o with
  | error f =>
    subst ho
    have hw0 : f.why ≠ 0 := px_why (fun h => Ps.why h f rfl) HPX.out
    have hw1 : ((f.why : Int) != 0) = true := by simp; omega
    have FIN : Hid (CheckD L w s c (.returned (.tuple #[.pointer none, .int .i64 0, .int .i64 f.why, .int .i64 f.pl])) w1) := ⟨HB1.out, .error f, HPX.out, none, rfl⟩
    clear hw0 HPX HB1
    go_wp2_with fail
    refine bodyPost_ret (v := .tuple #[.pointer none, .int .i64 0, .int .i64 f.why, .int .i64 f.pl]) (by simp [results, Tryz.results6, go_sem]) rfl FIN.out
  | ok x =>
    obtain ⟨b, rfl, het⟩ := ho
    have HET := hidMk' het
    clear het
    unfold ptrE
    go_wp2_with fail
    refine (columnsD_any a cc c w1 (HC.out.later HB1.out) HM.out HZ.out).mono ?_
    rintro e w2 ⟨⟨r, rfl, hr⟩, hb2⟩
    have HB2 : Hid (Below w.heap.size w w2) := HB1.out.trans (hb2.mono HB1.out.size)
    have HET2 : Hid (Et w2 w.heap.size w2.heap.size x (ptrE b)) := Et.keep (fun b i u _ _ hc => xcell hb2 hc) (Nat.le_refl _) hb2.size x _ HET.out
    clear hb2 HET
    by_cases hcol : colsX c
    · obtain rfl : r = true := hr.2 hcol
      have HK : Hid (Calls Tryz.prog 15 #[.pointer (some ⟨b, 0, none⟩), .slice a c.length cc] w2 (KdD w2 (kindX c x))) := kindD_x c a cc HM.out (cols_nz hcol) w2 w.heap.size w2.heap.size (HC.out.later HB2.out) x (ptrE b) HET2.out (px_nx HL.out HPX.out) HPX.out.size w2 (Below.refl _ _)
      have HCO := hidMk' hcol
      clear hr hcol
      go_wp2_with fail
      refine HK.out.mono ?_
      rintro e w3 ⟨hb3, rfl⟩
      have HB3 : Hid (Below w.heap.size w w3) := HB2.out.trans (hb3.mono HB2.out.size)
      have HET3 : Hid (Et w3 w.heap.size w3.heap.size x (ptrE b)) := Et.keep (fun b i u _ _ hc => xcell hb3 hc) (Nat.le_refl _) hb3.size x _ HET2.out
      clear hb3 HK HET2
      cases hk : kindX c x with
      | error f =>
        have FIN : Hid (CheckD L w s c (.returned (.tuple #[.pointer (some ⟨b, 0, none⟩), .int .i64 0, .int .i64 f.why, .int .i64 f.pl])) w3) := ⟨HB3.out, .ok x, HPX.out, by rw [ckO, if_pos HCO.out, hk]; exact ⟨_, rfl⟩⟩
        clear hk HPX HB3 HET3
        simp only [KdV]
        go_wp2_with fail
        refine bodyPost_ret (v := .tuple #[.pointer (some ⟨b, 0, none⟩), .int .i64 0, .int .i64 f.why, .int .i64 f.pl]) (by simp [results, Tryz.results6, go_sem]) rfl FIN.out
      | ok k =>
        have FIN : Hid (CheckD L w s c (.returned (.tuple #[.pointer (some ⟨b, 0, none⟩), .int .i64 k, .int .i64 0, .int .i64 0])) w3) := ⟨HB3.out, .ok x, HPX.out, by rw [ckO, if_pos HCO.out, hk]; exact ⟨b, rfl, HET3.out⟩⟩
        clear hk HPX HB3 HET3
        simp only [KdV]
        go_wp2_with fail
        refine bodyPost_ret (v := .tuple #[.pointer (some ⟨b, 0, none⟩), .int .i64 k, .int .i64 0, .int .i64 0]) (by simp [results, Tryz.results6, go_sem]) rfl FIN.out
    · obtain rfl : r = false := by cases r with | false => rfl | true => exact absurd (hr.1 rfl) hcol
      have FIN : Hid (CheckD L w s c (.returned (.tuple #[.pointer none, .int .i64 0, .int .i64 4, .int .i64 0])) w2) := ⟨HB2.out, .ok x, HPX.out, by rw [ckO, if_neg hcol]; exact ⟨none, rfl⟩⟩
      clear hr hcol HPX HET2
      go_wp2_with fail
      refine bodyPost_ret (v := .tuple #[.pointer none, .int .i64 0, .int .i64 4, .int .i64 0]) (by simp [results, Tryz.results6, go_sem]) rfl FIN.out
end Go.Proofs.YtnmelljaangfiaaGreatDoor.Dc
namespace Go.Proofs.YtnmelljaangfiaaGreatDoor
open Go.RowKit
set_option linter.unusedVariables false
set_option linter.unusedSimpArgs false
set_option maxRecDepth 100000

theorem catch_idle (b1 b2 : Nat) (w : World) :
    CallsD Tryz.prog 25 #[.pointer (some ⟨b1, 0, none⟩), .pointer (some ⟨b2, 0, none⟩)] .returning w fun e u' w' => e = .returned (.tuple #[]) ∧ u' = .returning ∧ w' = w := by
  refine callsD_of_wpS Tryz.func25 rfl fun c₀ cs hu => ?_
  apply wpS_seq
  apply wpS_region
  simp [wpOpsS, go_sem, recoverD, hu, Tryz.ntmps25, Exit.thenS, Array.replicate]
  refine wpS_of_wp ?_
  go_wp2
  cases c₀
  simp_all [bodyPostS, results, Tryz.results25, go_sem]
/-- All but two blocks are as they were. -/
structure Ex2 (w w' : World) (b1 b2 : Nat) : Prop where
  os : w'.os = w.os
  tape : w'.tape = w.tape
  output : w'.output = w.output
  size : w.heap.size ≤ w'.heap.size
  block : ∀ i, i < w.heap.size → i ≠ b1 → i ≠ b2 → w'.heap[i]? = w.heap[i]?
theorem Ex2.of {w w1 w2 w3 : World} {b1 b2 : Nat} (h1 : w.grownBy w1 (some b1)) (h2 : w1.grownBy w2 (some b2)) (h3 : Below w2.heap.size w2 w3) : Ex2 w w3 b1 b2 :=
  ⟨h3.os.trans (h2.os.trans h1.os), h3.tape.trans (h2.tape.trans h1.tape), h3.output.trans (h2.output.trans h1.output), Nat.le_trans h1.size (Nat.le_trans h2.size h3.size), fun i hi n1 n2 => (h3.block i (Nat.lt_of_lt_of_le hi (Nat.le_trans h1.size h2.size))).trans ((h2.block i (Nat.lt_of_lt_of_le hi h1.size) (fun e => n2 (Option.some.inj e))).trans (h1.block i hi (fun e => n1 (Option.some.inj e))))⟩
theorem tassert (a b : Int) (w : World) : (Instr.typeAssert (.iface 71 (.agg #[.int .i64 a, .int .i64 b])) 20 71 false).run Tryz.prog w = .ok (.agg #[.int .i64 a, .int .i64 b]) w := by
  simp [Instr.typeAssert, go_sem]
  try rfl
theorem catch_pan (b1 b2 : Nat) (z : Int) (pl why : Nat) (w : World) (h1 : w.cell? ⟨b1, 0, none⟩ = some (.int .i64 z)) (h2 : w.cell? ⟨b2, 0, none⟩ = some .nilIface) (f1 : w.frozen? ⟨b1, 0, none⟩ = false) (f2 : w.frozen? ⟨b2, 0, none⟩ = false) (hne : ¬ b1 = b2) (hl1 : b1 < w.heap.size) (hl2 : b2 < w.heap.size) :
    CallsD Tryz.prog 25 #[.pointer (some ⟨b1, 0, none⟩), .pointer (some ⟨b2, 0, none⟩)] (.panicking [{ v := fltV pl why, recovered := false }]) w fun e u' w' => e = .returned (.tuple #[]) ∧ u' = .panicking [{ v := fltV pl why, recovered := true }] ∧ w'.cell? ⟨b1, 0, none⟩ = some (.int .i64 pl) ∧ w'.cell? ⟨b2, 0, none⟩ = some (.iface 31 (.int .i64 why)) ∧ Ex2 w w' b1 b2 := by
  have hta := tassert
  refine callsD_of_wpS Tryz.func25 rfl fun c₀ cs hu => ?_
  apply wpS_seq
  apply wpS_region
  simp [wpOpsS, go_sem, recoverD, hu, Tryz.ntmps25, Exit.thenS, Array.replicate]
  refine wpS_of_wp ?_
  unfold fltV
  go_wp2
  go_region
  have g1 := xgSet w ⟨b1, 0, none⟩ (.int .i64 pl)
  have g2 := xgSet (w.setCell ⟨b1, 0, none⟩ (.int .i64 pl)) ⟨b2, 0, none⟩ (.iface 31 (.int .i64 why))
  have g3 := (xbel1 ((w.setCell ⟨b1, 0, none⟩ (.int .i64 pl)).setCell ⟨b2, 0, none⟩ (.iface 31 (.int .i64 why))) (.cells #[.int .i64 pl, .int .i64 why] 71)).drew
  have hex := Ex2.of g1 g2 g3
  have c1 : (((w.setCell ⟨b1, 0, none⟩ (.int .i64 pl)).setCell ⟨b2, 0, none⟩ (.iface 31 (.int .i64 why))).alloc (.cells #[.int .i64 pl, .int .i64 why] 71)).drew.cell? ⟨b1, 0, none⟩ = some (.int .i64 pl) := by go_simp
  have c2 : (((w.setCell ⟨b1, 0, none⟩ (.int .i64 pl)).setCell ⟨b2, 0, none⟩ (.iface 31 (.int .i64 why))).alloc (.cells #[.int .i64 pl, .int .i64 why] 71)).drew.cell? ⟨b2, 0, none⟩ = some (.iface 31 (.int .i64 why)) := by go_simp
  clear g1 g2 g3
  generalize (((w.setCell ⟨b1, 0, none⟩ (.int .i64 pl)).setCell ⟨b2, 0, none⟩ (.iface 31 (.int .i64 why))).alloc (.cells #[.int .i64 pl, .int .i64 why] 71)).drew = W at *
  show bodyPostS _ _ _ _ _ _ _ _ _
  cases c₀
  simp_all [bodyPostS, results, Tryz.results25, go_sem]

/-- What 'caught' finds when what it does has ended. -/
structure Kept2 (w w1 : World) : Prop where
  size : w.heap.size + 2 ≤ w1.heap.size
  one : w1.heap[w.heap.size]? = some (.cells #[.int .i64 0] 3 (0, 0))
  two : w1.heap[w.heap.size + 1]? = some (.cells #[.nilIface] 25 (0, 0))

theorem Own.ofRow {w : World} {g t : Nat} {v : Value} (h : w.heap[g]? = some (.cells #[v] t (0, 0))) : Own w g t 1 [v] :=
  ⟨rfl, .inr ⟨g, 1, #[v], rfl, Nat.le_refl _, h, Nat.le_refl _, by decide, rfl, rfl⟩⟩
theorem Kept2.own1 {w w1 : World} (h : Kept2 w w1) : Own w1 w.heap.size 3 1 [.int .i64 0] := Own.ofRow h.one
theorem Kept2.own2 {w w1 : World} (h : Kept2 w w1) : Own w1 (w.heap.size + 1) 25 1 [.nilIface] := Own.ofRow h.two
set_option maxHeartbeats 2000000 in
theorem caught_ok (fn : Nat) (cap : Array Value) (w : World) (Q : World → Prop) (hent : ∀ (a : Array Value) (W : World), (callFunc fn a).run Tryz.prog W = .ok (.enter fn a) W)
    (hD : Calls Tryz.prog fn cap ((w.alloc (.cells #[.int .i64 0] 3)).alloc (.cells #[.nilIface] 25)) fun e w' => e = .returned (.tuple #[]) ∧ Kept2 w w' ∧ Q w') :
    Calls Tryz.prog 11 #[.func (.func fn) #[] cap] w fun e w' => e = .returned (.tuple #[.int .i64 0, .nilIface]) ∧ ∃ w1, Q w1 ∧ Ex2 w1 w' w.heap.size (w.heap.size + 1) := by
  have hmf := xmf
  have HD : Hid (Calls Tryz.prog fn cap ((w.alloc (.cells #[.int .i64 0] 3)).alloc (.cells #[.nilIface] 25)) fun e w' => e = .returned (.tuple #[]) ∧ Kept2 w w' ∧ Q w') := hD
  clear hD
  go_enter_defers Tryz.func11, Tryz.ntmps11
  go_wp2_with fail
  refine HD.out.mono ?_
  rintro e w1 ⟨rfl, hk, hq⟩
  have hO1 : Own w1 w.heap.size 3 1 [.int .i64 0] := hk.own1
  have hO2 : Own w1 (w.heap.size + 1) 25 1 [.nilIface] := hk.own2
  have c1 : w1.cell? ⟨w.heap.size, 0, none⟩ = some (.int .i64 0) := by rw [hO1.cell 0 (by decide)]; rfl
  have c2 : w1.cell? ⟨w.heap.size + 1, 0, none⟩ = some .nilIface := by rw [hO2.cell 0 (by decide)]; rfl
  have f1 := hO1.soft 0
  have f2 := hO2.soft 0
  have hl1 : w.heap.size < w1.heap.size := by have := hk.size; omega
  have HQ : Hid (Q w1) := hq
  clear hk hq hO1 hO2 HD
  go_wp2_with fail
  have hex : Ex2 w1 ((w1.setCell ⟨w.heap.size, 0, none⟩ (.int .i64 0)).setCell ⟨w.heap.size + 1, 0, none⟩ .nilIface) w.heap.size (w.heap.size + 1) := Ex2.of (xgSet _ _ _) (xgSet _ _ _) (Below.refl _ _)
  have d1 : ((w1.setCell ⟨w.heap.size, 0, none⟩ (.int .i64 0)).setCell ⟨w.heap.size + 1, 0, none⟩ .nilIface).cell? ⟨w.heap.size, 0, none⟩ = some (.int .i64 0) := by go_simp
  have d2 : ((w1.setCell ⟨w.heap.size, 0, none⟩ (.int .i64 0)).setCell ⟨w.heap.size + 1, 0, none⟩ .nilIface).cell? ⟨w.heap.size + 1, 0, none⟩ = some .nilIface := by go_simp
  generalize ((w1.setCell ⟨w.heap.size, 0, none⟩ (.int .i64 0)).setCell ⟨w.heap.size + 1, 0, none⟩ .nilIface) = W at *
  refine leaves_cons (f := 25) (args := #[.pointer (some ⟨w.heap.size, 0, none⟩), .pointer (some ⟨w.heap.size + 1, 0, none⟩)]) (by simp) (by simp [go_sem]) ?_
  refine (catch_idle w.heap.size (w.heap.size + 1) W).mono ?_
  rintro e u' w'' ⟨rfl, rfl, rfl⟩
  simp [Leaves, settle, results, Tryz.results11, go_sem, d1, d2]
  exact ⟨w1, HQ.out, hex⟩

set_option maxHeartbeats 2000000 in
theorem caught_bad (fn : Nat) (cap : Array Value) (w : World) (Q : World → Prop) (pl why : Nat) (hent : ∀ (a : Array Value) (W : World), (callFunc fn a).run Tryz.prog W = .ok (.enter fn a) W)
    (hD : Calls Tryz.prog fn cap ((w.alloc (.cells #[.int .i64 0] 3)).alloc (.cells #[.nilIface] 25)) fun e w' => e = .panicked [{ v := fltV pl why, recovered := false }] ∧ Kept2 w w' ∧ Q w') :
    Calls Tryz.prog 11 #[.func (.func fn) #[] cap] w fun e w' => e = .returned (.tuple #[.int .i64 pl, .iface 31 (.int .i64 why)]) ∧ ∃ w1, Q w1 ∧ Ex2 w1 w' w.heap.size (w.heap.size + 1) := by
  have hmf := xmf
  have HD : Hid (Calls Tryz.prog fn cap ((w.alloc (.cells #[.int .i64 0] 3)).alloc (.cells #[.nilIface] 25)) fun e w' => e = .panicked [{ v := fltV pl why, recovered := false }] ∧ Kept2 w w' ∧ Q w') := hD
  clear hD
  go_enter_defers Tryz.func11, Tryz.ntmps11
  go_wp2_with fail
  refine HD.out.mono ?_
  rintro e w1 ⟨rfl, hk, hq⟩
  have hO1 : Own w1 w.heap.size 3 1 [.int .i64 0] := hk.own1
  have hO2 : Own w1 (w.heap.size + 1) 25 1 [.nilIface] := hk.own2
  have c1 : w1.cell? ⟨w.heap.size, 0, none⟩ = some (.int .i64 0) := by rw [hO1.cell 0 (by decide)]; rfl
  have c2 : w1.cell? ⟨w.heap.size + 1, 0, none⟩ = some .nilIface := by rw [hO2.cell 0 (by decide)]; rfl
  refine leaves_cons (f := 25) (args := #[.pointer (some ⟨w.heap.size, 0, none⟩), .pointer (some ⟨w.heap.size + 1, 0, none⟩)]) (by simp) (by simp [go_sem]) ?_
  refine (catch_pan w.heap.size (w.heap.size + 1) 0 pl why w1 c1 c2 (hO1.soft 0) (hO2.soft 0) (by omega) hO1.lt hO2.lt).mono ?_
  rintro e u' w'' ⟨rfl, rfl, d1, d2, hex⟩
  simp [Leaves, settle, results, Tryz.results11, go_sem, d1, d2]
  exact ⟨w1, hq, hex⟩
end Go.Proofs.YtnmelljaangfiaaGreatDoor
namespace Go.Proofs.YtnmelljaangfiaaGreatDoor
open Go.RowKit
set_option linter.unusedVariables false
set_option linter.unusedSimpArgs false
set_option maxRecDepth 100000

theorem px_exi {L : ByteArray → Int → Int → ByteArray → Prop} {G : World → Prop} (hL : OneL L) (hR : RdOk L G) (s : ByteArray) (w : World) (hG : ∀ W W' r, (∀ k, r = some k → w.heap.size ≤ k) → G W → W.grownBy W' r → G W') (hw : G w) : ∃ o, PX L s o := by
  obtain ⟨e, w', fr, ⟨_, o, ho, _⟩, _⟩ := parse_any hL hR s w hG hw []
  exact ⟨o, ho⟩
/-- A checked text whose outcome is known. -/
theorem checked_is {L : ByteArray → Int → Int → ByteArray → Prop} {G : World → Prop} (hL : OneL L) (hR : RdOk L G) (s : ByteArray) (a : Option Addr) (cc : Nat) (c : List Co) (w : World) (hG : ∀ W W' r, (∀ k, r = some k → w.heap.size ≤ k) → G W → W.grownBy W' r → G W') (hw : G w) (hc : ColsAt w a c) (hm : c.length ≤ maxLen) (hz : ∀ x ∈ c, x.nm.size ≤ 140737488355328) {o : Except Flt X} (ho : PX L s o) :
    Calls Tryz.prog 13 #[.string s, .slice a c.length cc] w fun e w' => Below w.heap.size w w' ∧
      match ckO c o with
      | .ok (x, k) => ∃ t p, e = .returned (.tuple #[.iface t p, .int .i64 k]) ∧ Nd w' (w.heap.size - 1) x (.iface t p)
      | .error f => e = .panicked [{ v := fltV f.pl f.why, recovered := false }] := by
  refine (checked_any hL hR s a cc c w hG hw hc hm hz).mono ?_
  rintro e w' ⟨h1, o', h2, h3⟩
  cases h2.one hL ho
  exact ⟨h1, h3⟩

set_option maxHeartbeats 2000000 in
theorem check1_ok (s : ByteArray) (a : Option Addr) (n cc : Nat) (b b1 b2 : Nat) (k k0 : Int) (W : World) (h0 : W.cell? ⟨b, 0, none⟩ = some (.string s)) (h1 : W.cell? ⟨b1, 0, none⟩ = some (.slice a n cc)) (h2 : Own W b2 23 1 [.int .i64 k0])
    (hc : Calls Tryz.prog 13 #[.string s, .slice a n cc] W fun e w' => Below W.heap.size W w' ∧ ∃ t p, e = .returned (.tuple #[.iface t p, .int .i64 k])) :
    Calls Tryz.prog 12 #[.pointer (some ⟨b, 0, none⟩), .pointer (some ⟨b1, 0, none⟩), .pointer (some ⟨b2, 0, none⟩)] W fun e w' => e = .returned (.tuple #[]) ∧ W.grownBy w' (some b2) ∧ w'.cell? ⟨b2, 0, none⟩ = some (.int .i64 k) := by
  have HC : Hid (Calls Tryz.prog 13 #[.string s, .slice a n cc] W fun e w' => Below W.heap.size W w' ∧ ∃ t p, e = .returned (.tuple #[.iface t p, .int .i64 k])) := hc
  have HO : Hid (Own W b2 23 1 [.int .i64 k0]) := h2
  clear hc h2
  go_enter Tryz.func12, Tryz.ntmps12
  go_wp2_with fail
  refine HC.out.mono ?_
  rintro e w2 ⟨hb2, t, p, rfl⟩
  have HO2 : Hid (Own w2 b2 23 1 [.int .i64 k0]) := HO.out.later hb2
  have HB2 : Hid (Below W.heap.size W w2) := hb2
  have q0 : w2.cell? ⟨b2, 0, none⟩ = some (.int .i64 k0) := by rw [HO2.out.cell 0 (by decide)]; rfl
  have q1 : w2.frozen? ⟨b2, 0, none⟩ = false := HO2.out.soft 0
  clear hb2 HC HO
  go_wp2_with fail
  obtain ⟨hp1, hp2⟩ := HO2.out.put 0 (.int .i64 k)
  have F1 : W.grownBy (w2.setCell ⟨b2, 0, none⟩ (.int .i64 k)) (some b2) := xgTrans (xgBelow HB2.out) hp2
  have F2 : (w2.setCell ⟨b2, 0, none⟩ (.int .i64 k)).cell? ⟨b2, 0, none⟩ = some (.int .i64 k) := by rw [hp1.cell 0 (by decide)]; rfl
  simp [bodyPost, results, Tryz.results12, go_sem]
  exact ⟨F1, F2⟩
set_option maxHeartbeats 2000000 in
theorem check1_bad (s : ByteArray) (a : Option Addr) (n cc : Nat) (b b1 b2 : Nat) (f : Flt) (W : World) (h0 : W.cell? ⟨b, 0, none⟩ = some (.string s)) (h1 : W.cell? ⟨b1, 0, none⟩ = some (.slice a n cc))
    (hc : Calls Tryz.prog 13 #[.string s, .slice a n cc] W fun e w' => Below W.heap.size W w' ∧ e = .panicked [{ v := fltV f.pl f.why, recovered := false }]) :
    Calls Tryz.prog 12 #[.pointer (some ⟨b, 0, none⟩), .pointer (some ⟨b1, 0, none⟩), .pointer (some ⟨b2, 0, none⟩)] W fun e w' => e = .panicked [{ v := fltV f.pl f.why, recovered := false }] ∧ Below W.heap.size W w' := by
  have HC : Hid (Calls Tryz.prog 13 #[.string s, .slice a n cc] W fun e w' => Below W.heap.size W w' ∧ e = .panicked [{ v := fltV f.pl f.why, recovered := false }]) := hc
  clear hc
  go_enter Tryz.func12, Tryz.ntmps12
  go_wp2_with fail
  refine HC.out.mono ?_
  rintro e w2 ⟨hb2, rfl⟩
  first | exact ⟨rfl, hb2⟩ | exact ⟨rfl, rfl, hb2⟩
theorem ent_check1 (a : Array Value) (W : World) : (callFunc 12 a).run Tryz.prog W = .ok (.enter 12 a) W := xent Tryz.func12 (by kernel_rfl) (by rfl) a W
/-- What 'Check' answers. -/
noncomputable def chV (c : List Co) (o : Except Flt X) : Value := match ckO c o with
  | .ok (x, k) => .tuple #[.int .i64 k, .int .i64 0, .nilIface]
  | .error f => .tuple #[.int .i64 0, .int .i64 f.pl, .iface 31 (.int .i64 f.why)]
def ChPost (L : ByteArray → Int → Int → ByteArray → Prop) (w : World) (s : ByteArray) (c : List Co) (e : Ending) (w' : World) : Prop := Below w.heap.size w w' ∧ ∃ o, PX L s o ∧ e = .returned (chV c o)
theorem Ex2.cell {w w' : World} {b1 b2 : Nat} (h : Ex2 w w' b1 b2) {a : Addr} {v : Value} (hc : w.cell? a = some v) (n1 : a.block ≠ b1) (n2 : a.block ≠ b2) : w'.cell? a = some v := by
  have hl := World.block_lt_of_cell? _ _ hc
  have := h.block _ hl n1 n2
  rw [← hc]
  simp only [World.cell?, this]
theorem Ex2.below {w0 w w' : World} {b1 b2 : Nat} (h : Ex2 w w' b1 b2) (hb : Below w0.heap.size w0 w) (n1 : w0.heap.size ≤ b1) (n2 : w0.heap.size ≤ b2) : Below w0.heap.size w0 w' :=
  ⟨h.os.trans hb.os, h.tape.trans hb.tape, h.output.trans hb.output, Nat.le_trans hb.size h.size, fun i hi => (h.block i (Nat.lt_of_lt_of_le hi hb.size) (by omega) (by omega)).trans (hb.block i hi)⟩
theorem kept2_of {W w' : World} (h : Below ((W.alloc (.cells #[.int .i64 0] 3)).alloc (.cells #[.nilIface] 25)).heap.size ((W.alloc (.cells #[.int .i64 0] 3)).alloc (.cells #[.nilIface] 25)) w') : Kept2 W w' := by
  have hs : ((W.alloc (.cells #[.int .i64 0] 3)).alloc (.cells #[.nilIface] 25)).heap.size = W.heap.size + 1 + 1 := by simp
  refine ⟨by have := h.size; omega, ?_, ?_⟩
  · rw [h.block _ (by omega), (xbel1 (W.alloc (.cells #[.int .i64 0] 3)) _).block W.heap.size (by simp)]
    exact heap_alloc_new W _
  · rw [h.block _ (by omega)]
    have := heap_alloc_new (W.alloc (.cells #[.int .i64 0] 3)) (.cells #[.nilIface] 25)
    rw [show (W.alloc (.cells #[.int .i64 0] 3)).heap.size = W.heap.size + 1 from by simp] at this
    exact this
theorem kept2_by {W w' : World} {r : Option Nat} (h : ((W.alloc (.cells #[.int .i64 0] 3)).alloc (.cells #[.nilIface] 25)).grownBy w' r) (hr : ∀ n, r = some n → n < W.heap.size) : Kept2 W w' := by
  have hs : ((W.alloc (.cells #[.int .i64 0] 3)).alloc (.cells #[.nilIface] 25)).heap.size = W.heap.size + 1 + 1 := by simp
  refine ⟨by have := h.size; omega, ?_, ?_⟩
  · rw [h.block _ (by omega) (fun e => by have := hr _ e.symm; omega), (xbel1 (W.alloc (.cells #[.int .i64 0] 3)) _).block W.heap.size (by simp)]
    exact heap_alloc_new W _
  · rw [h.block _ (by omega) (fun e => by have := hr _ e.symm; omega)]
    have := heap_alloc_new (W.alloc (.cells #[.int .i64 0] 3)) (.cells #[.nilIface] 25)
    rw [show (W.alloc (.cells #[.int .i64 0] 3)).heap.size = W.heap.size + 1 from by simp] at this
    exact this
set_option maxHeartbeats 4000000 in
theorem check_any {L : ByteArray → Int → Int → ByteArray → Prop} {G : World → Prop} (hL : OneL L) (hR : RdOk L G) (s : ByteArray) (a : Option Addr) (cc : Nat) (c : List Co) (w : World) (hG : ∀ W W' r, (∀ k, r = some k → w.heap.size ≤ k) → G W → W.grownBy W' r → G W') (hw : G w) (hc : ColsAt w a c) (hm : c.length ≤ maxLen) (hz : ∀ x ∈ c, x.nm.size ≤ 140737488355328) :
    Calls Tryz.prog 5 #[.string s, .slice a c.length cc] w (ChPost L w s c) := by
  obtain ⟨o, ho⟩ := px_exi hL hR s w hG hw
  have HCK : Hid (∀ W, Below w.heap.size w W → Calls Tryz.prog 13 #[.string s, .slice a c.length cc] W fun e w' => Below W.heap.size W w' ∧
      match ckO c o with
      | .ok (x, k) => ∃ t p, e = .returned (.tuple #[.iface t p, .int .i64 k]) ∧ Nd w' (W.heap.size - 1) x (.iface t p)
      | .error f => e = .panicked [{ v := fltV f.pl f.why, recovered := false }]) := fun W hW =>
    checked_is hL hR s a cc c W (fun V V' r h1 h2 h3 => hG V V' r (fun k hk => Nat.le_trans hW.size (h1 k hk)) h2 h3) (hG w W none (fun k hk => by cases hk) hw (xgBelow hW)) (hc.later hW) hm hz ho
  have HO : Hid (PX L s o) := ho
  have hmf := xmf
  clear hL hR hG hw hc hm hz ho
  cases hck : ckO c o with
  | error f =>
    have FIN : Hid (∀ w', Below w.heap.size w w' → ChPost L w s c (.returned (.tuple #[.int .i64 0, .int .i64 f.pl, .iface 31 (.int .i64 f.why)])) w') := fun w' h => ⟨h, o, HO.out, by rw [chV, hck]⟩
    have HC2 : Hid (∀ W, Below w.heap.size w W → Calls Tryz.prog 13 #[.string s, .slice a c.length cc] W fun e w' => Below W.heap.size W w' ∧ e = .panicked [{ v := fltV f.pl f.why, recovered := false }]) := fun W hW => by
      refine (HCK.out W hW).mono ?_
      rintro e w' ⟨h1, h2⟩
      rw [hck] at h2
      exact ⟨h1, h2⟩
    clear HCK hck HO
    go_enter Tryz.func5, Tryz.ntmps5
    go_wp2_with fail
    have HB0 : Hid (Below w.heap.size w (((w.alloc (.cells #[.string s] 9)).alloc (.cells #[.slice a c.length cc] 22)).alloc (.cells #[.int .i64 0] 23))) := ((xbel1 w _).alloc (by simp) _).alloc (by simp; omega) _
    have p0 : (((w.alloc (.cells #[.string s] 9)).alloc (.cells #[.slice a c.length cc] 22)).alloc (.cells #[.int .i64 0] 23)).cell? ⟨w.heap.size, 0, none⟩ = some (.string s) := by go_simp
    have p1 : (((w.alloc (.cells #[.string s] 9)).alloc (.cells #[.slice a c.length cc] 22)).alloc (.cells #[.int .i64 0] 23)).cell? ⟨w.heap.size + 1, 0, none⟩ = some (.slice a c.length cc) := by go_simp
    have hsz : (((w.alloc (.cells #[.string s] 9)).alloc (.cells #[.slice a c.length cc] 22)).alloc (.cells #[.int .i64 0] 23)).heap.size = w.heap.size + 1 + 1 + 1 := by simp
    have p2 : Own (((w.alloc (.cells #[.string s] 9)).alloc (.cells #[.slice a c.length cc] 22)).alloc (.cells #[.int .i64 0] 23)) (w.heap.size + 1 + 1) 23 1 [.int .i64 0] := by
      have := Own.new ((w.alloc (.cells #[.string s] 9)).alloc (.cells #[.slice a c.length cc] 22)) 23 1 #[.int .i64 0] rfl
      simpa using this
    generalize (((w.alloc (.cells #[.string s] 9)).alloc (.cells #[.slice a c.length cc] 22)).alloc (.cells #[.int .i64 0] 23)) = W0 at *
    have hb2 : Below W0.heap.size W0 ((W0.alloc (.cells #[.int .i64 0] 3)).alloc (.cells #[.nilIface] 25)) := (xbel1 W0 _).alloc (by simp) _
    have HD := check1_bad s a c.length cc w.heap.size (w.heap.size + 1) (w.heap.size + 1 + 1) f _ (xcell hb2 p0) (xcell hb2 p1) (HC2.out _ (HB0.out.trans (hb2.mono HB0.out.size)))
    have HE := caught_bad 12 _ W0 (fun w' => Below W0.heap.size W0 w') f.pl f.why ent_check1 (HD.mono (fun e w' ⟨h1, h2⟩ => ⟨h1, kept2_of h2, hb2.trans (h2.mono hb2.size)⟩))
    refine HE.mono ?_
    rintro e w2 ⟨rfl, w1, hb1, hex⟩
    have q2 : w2.cell? ⟨w.heap.size + 1 + 1, 0, none⟩ = some (.int .i64 0) := hex.cell (xcell hb1 (by rw [p2.cell 0 (by decide)]; rfl)) (by simp; omega) (by simp; omega)
    have F3 : Hid (ChPost L w s c (.returned (.tuple #[.int .i64 0, .int .i64 f.pl, .iface 31 (.int .i64 f.why)])) w2) := FIN.out w2 (hex.below (HB0.out.trans (hb1.mono HB0.out.size)) (by omega) (by omega))
    clear FIN HD HE hb1 hex hb2 p0 p1 p2 HB0 HC2
    go_wp2_with fail
    refine bodyPost_ret (v := .tuple #[.int .i64 0, .int .i64 f.pl, .iface 31 (.int .i64 f.why)]) (by simp [results, Tryz.results5, go_sem]) rfl ?_
    exact F3.out
  | ok q =>
    obtain ⟨x, k⟩ := q
    have FIN : Hid (∀ w', Below w.heap.size w w' → ChPost L w s c (.returned (.tuple #[.int .i64 k, .int .i64 0, .nilIface])) w') := fun w' h => ⟨h, o, HO.out, by rw [chV, hck]⟩
    have HC2 : Hid (∀ W, Below w.heap.size w W → Calls Tryz.prog 13 #[.string s, .slice a c.length cc] W fun e w' => Below W.heap.size W w' ∧ ∃ t p, e = .returned (.tuple #[.iface t p, .int .i64 k])) := fun W hW => by
      refine (HCK.out W hW).mono ?_
      rintro e w' ⟨h1, h2⟩
      rw [hck] at h2
      obtain ⟨t, p, h3, _⟩ := h2
      exact ⟨h1, t, p, h3⟩
    clear HCK hck HO
    go_enter Tryz.func5, Tryz.ntmps5
    go_wp2_with fail
    have HB0 : Hid (Below w.heap.size w (((w.alloc (.cells #[.string s] 9)).alloc (.cells #[.slice a c.length cc] 22)).alloc (.cells #[.int .i64 0] 23))) := ((xbel1 w _).alloc (by simp) _).alloc (by simp; omega) _
    have p0 : (((w.alloc (.cells #[.string s] 9)).alloc (.cells #[.slice a c.length cc] 22)).alloc (.cells #[.int .i64 0] 23)).cell? ⟨w.heap.size, 0, none⟩ = some (.string s) := by go_simp
    have p1 : (((w.alloc (.cells #[.string s] 9)).alloc (.cells #[.slice a c.length cc] 22)).alloc (.cells #[.int .i64 0] 23)).cell? ⟨w.heap.size + 1, 0, none⟩ = some (.slice a c.length cc) := by go_simp
    have hsz : (((w.alloc (.cells #[.string s] 9)).alloc (.cells #[.slice a c.length cc] 22)).alloc (.cells #[.int .i64 0] 23)).heap.size = w.heap.size + 1 + 1 + 1 := by simp
    have p2 : Own (((w.alloc (.cells #[.string s] 9)).alloc (.cells #[.slice a c.length cc] 22)).alloc (.cells #[.int .i64 0] 23)) (w.heap.size + 1 + 1) 23 1 [.int .i64 0] := by
      have := Own.new ((w.alloc (.cells #[.string s] 9)).alloc (.cells #[.slice a c.length cc] 22)) 23 1 #[.int .i64 0] rfl
      simpa using this
    generalize (((w.alloc (.cells #[.string s] 9)).alloc (.cells #[.slice a c.length cc] 22)).alloc (.cells #[.int .i64 0] 23)) = W0 at *
    have hb2 : Below W0.heap.size W0 ((W0.alloc (.cells #[.int .i64 0] 3)).alloc (.cells #[.nilIface] 25)) := (xbel1 W0 _).alloc (by simp) _
    have HD := check1_ok s a c.length cc w.heap.size (w.heap.size + 1) (w.heap.size + 1 + 1) k 0 _ (xcell hb2 p0) (xcell hb2 p1) (p2.later hb2) (HC2.out _ (HB0.out.trans (hb2.mono HB0.out.size)))
    have HE := caught_ok 12 _ W0 (fun w' => W0.grownBy w' (some (w.heap.size + 1 + 1)) ∧ w'.cell? ⟨w.heap.size + 1 + 1, 0, none⟩ = some (.int .i64 k)) ent_check1 (HD.mono (fun e w' ⟨h1, h2, h3⟩ => ⟨h1, kept2_by h2 (fun n hn => by cases hn; omega), xgTrans (xgBelow hb2) h2, h3⟩))
    refine HE.mono ?_
    rintro e w2 ⟨rfl, w1, ⟨hb1, hc1⟩, hex⟩
    have q2 : w2.cell? ⟨w.heap.size + 1 + 1, 0, none⟩ = some (.int .i64 k) := hex.cell hc1 (by simp; omega) (by simp; omega)
    have F3 : Hid (ChPost L w s c (.returned (.tuple #[.int .i64 k, .int .i64 0, .nilIface])) w2) := FIN.out w2 (hex.below (xbNew HB0.out hb1 (fun n hn => by cases hn; omega)) (by omega) (by omega))
    clear FIN HD HE hb1 hc1 hex hb2 p0 p1 p2 HB0 HC2
    go_wp2_with fail
    refine bodyPost_ret (v := .tuple #[.int .i64 k, .int .i64 0, .nilIface]) (by simp [results, Tryz.results5, go_sem]) rfl ?_
    exact F3.out
end Go.Proofs.YtnmelljaangfiaaGreatDoor
namespace Go.Proofs.YtnmelljaangfiaaGreatDoor.Dc
open Go.RowKit
set_option linter.unusedVariables false
set_option linter.unusedSimpArgs false
set_option maxRecDepth 100000

/-- A literal: a valid value that is shown so. -/
def LV (s : ByteArray) (k n : Int) (t : ByteArray) : Prop := Vl.validB k n t = true ∧ -9223372036854775808 ≤ n ∧ n ≤ 9223372036854775807 ∧ Vl.showB k n t = s
theorem oneLV : OneL LV := fun s k n t k' n' t' h h' => Vl.show_inj h.1 h'.1 h.2.1 h.2.2.1 h'.2.1 h'.2.2.1 (h.2.2.2.trans h'.2.2.2.symm)
theorem rdOkLV (w : World) (h2 : Vl.Sen w) (h3 : Vl.Sen3 w) (ht : Vl.Tab w) : RdOk LV (fun W => Below w.heap.size w W) := fun s W hs hW => by
  refine (Vl.read_tot s W (by omega) (Vl.Sen.later h2 hW) (Vl.Sen3.later h3 hW) (Vl.Tab.later ht hW)).mono ?_
  rintro e w' ⟨hb, ⟨k, n, t, h4, h5, h6, h7, rfl⟩ | ⟨hno, rfl⟩⟩
  · exact ⟨hb, .inl ⟨k, n, t, ⟨h4, h5, h6, h7⟩, rfl⟩⟩
  · exact ⟨hb, .inr ⟨fun k n t h => hno k n t h.2.1 h.2.2.1 h.1 h.2.2.2, _, _, rfl⟩⟩
theorem dRdLV : DRd LV := fun s W hs => by
  refine (Vl.refRead_any s W (by omega)).mono ?_
  rintro e w' ⟨k, n, t, ok, rfl, hb, hy, hn⟩
  exact ⟨hb, k, n, t, ok, rfl, fun h => ⟨(hy h).1, (hy h).2.2.1, (hy h).2.2.2, (hy h).2.1⟩, fun h k' n' t' h' => hn h k' n' t' h'.2.1 h'.2.2.1 h'.1 h'.2.2.2⟩
theorem trueLV : ∃ k n s, LV bTrue k n s := ⟨2, 1, ⟨#[]⟩, by decide +kernel, by decide, by decide, by decide +kernel⟩
theorem falseLV : ∃ k n s, LV bFalse k n s := ⟨2, 0, ⟨#[]⟩, by decide +kernel, by decide, by decide, by decide +kernel⟩
theorem sgs_null : ∀ s ∈ sgs, s ≠ (⟨#[110, 117, 108, 108]⟩ : ByteArray) := by decide +kernel
theorem nzLV : ∀ t : Tk, Wf t → isLit t → ∀ k n s, LV t.tx k n s → k ≠ 0 := by
  intro t hw hl k n s h hk
  subst hk
  have hv := h.1
  have hs := h.2.2.2
  unfold Vl.showB at hs
  rw [if_pos hv, if_neg (by decide), if_neg (by decide), if_neg (by decide)] at hs
  have hx : t.tx = ⟨#[110, 117, 108, 108]⟩ := hs.symm
  rcases hw.2 with ⟨hk, _⟩ | ⟨_, c, r, h1, h2⟩ | ⟨_, r, h1⟩ | ⟨_, h1⟩
  · rcases hl with h' | h' | h' | h'
    · omega
    · omega
    · rw [hx] at h'; exact absurd h' (by decide)
    · rw [hx] at h'; exact absurd h' (by decide)
  · rw [hx] at h1
    have h3 : c = 110 := by
      have : [110, 117, 108, 108] = c :: r := h1
      cases this; rfl
    rw [h3] at h2; exact absurd h2 (by decide)
  · rw [hx] at h1
    have : [110, 117, 108, 108] = (39 : UInt8) :: r := h1
    cases this
  · exact sgs_null _ h1 hx
/-- The program's Check, and the document's. -/
theorem check_V (w : World) (h2 : Vl.Sen w) (h3 : Vl.Sen3 w) (ht : Vl.Tab w) (s : ByteArray) (a : Option Addr) (cc : Nat) (c : List Co) (hc : ColsAt w a c) (hm : c.length ≤ maxLen) (hz : ∀ x ∈ c, x.nm.size ≤ 140737488355328) : ∃ o, PX LV s o ∧
    (Calls Tryz.prog 5 #[.string s, .slice a c.length cc] w fun e w' => Below w.heap.size w w' ∧ e = .returned (chV c o)) ∧
    ∀ W, Below w.heap.size w W → Calls Tryz.prog 6 #[.string s, .slice a c.length cc] W fun e w' => Below W.heap.size W w' ∧
      match ckO c o with
      | .ok (x, k) => ∃ pv, e = .returned (.tuple #[.pointer pv, .int .i64 k, .int .i64 0, .int .i64 0])
      | .error f => ∃ pv, e = .returned (.tuple #[.pointer pv, .int .i64 0, .int .i64 f.why, .int .i64 f.pl]) := by
  have hR := rdOkLV w h2 h3 ht
  have hG : ∀ W W' r, (∀ k, r = some k → w.heap.size ≤ k) → Below w.heap.size w W → W.grownBy W' r → Below w.heap.size w W' := fun W W' r h1 h2 h3 => xbNew h2 h3 (fun n hn => h1 n hn)
  obtain ⟨o, ho⟩ := px_exi oneLV hR s w hG (Below.refl _ _)
  refine ⟨o, ho, ?_, fun W hW => ?_⟩
  · refine (check_any oneLV hR s a cc c w hG (Below.refl _ _) hc hm hz).mono ?_
    rintro e w' ⟨hb, o', ho', rfl⟩
    cases ho'.one oneLV ho
    exact ⟨hb, rfl⟩
  · refine (checkD_any dRdLV trueLV falseLV nzLV s a cc c W (hc.later hW) hm hz).mono ?_
    rintro e w' ⟨hb, o', ho', h⟩
    cases ho'.one oneLV ho
    refine ⟨hb, ?_⟩
    cases hck : ckO c o with
    | error f => rw [hck] at h; exact h
    | ok p =>
      obtain ⟨x, k⟩ := p
      rw [hck] at h
      obtain ⟨b, rfl, _⟩ := h
      exact ⟨_, rfl⟩
end Go.Proofs.YtnmelljaangfiaaGreatDoor.Dc
