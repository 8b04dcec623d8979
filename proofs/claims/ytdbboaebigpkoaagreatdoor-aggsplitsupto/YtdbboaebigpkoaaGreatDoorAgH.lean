import Derived.Test.YtdbboaebigpkoaaGreatDoorAgG
namespace Go.Proofs.YtdbboaebigpkoaaGreatDoor
open Go.RowKit
set_option linter.unusedVariables false
set_option linter.unusedSimpArgs false
set_option maxRecDepth 100000

def tval (o : Tm) : Bool := validV o.v
def errR : Value := .iface 30 (.int .i64 4)
/-- What taking in leaves. -/
def TkPost (I : Nat → World → Value → List Tm → Prop) (l : List Tm) (w : World) (e : Ending) (w' : World) : Prop := Below w.heap.size w w' ∧
  if l.all tval = true then ∃ x, e = .returned (.tuple #[x, .nilIface]) ∧ I w.heap.size w' x l else e = .returned (.tuple #[.nilIface, errR])
set_option maxHeartbeats 2000000 in
theorem taken_any (kind : Int) (hk : 1 ≤ kind ∧ kind ≤ 7) (I : Nat → World → Value → List Tm → Prop) (K : IsWay kind I) (l : List Tm) (a : Option Addr) (c : Nat) (w : World) (hl : TLies w a l) (hg : l.length ≤ 4398046510977 ∧ ∀ o ∈ l, Fits o.v) :
    Calls Tryz.prog 13 #[.int .i64 kind, .slice a l.length c] w (TkPost I l w) := by
  have HL : Hid (TLies w a l) := hl
  have HG : Hid (∀ o ∈ l, Fits o.v) := hg.2
  have hm := hg.1
  have HK : Hid (IsWay kind I) := K
  have HV : Hid ((decide (1 ≤ kind) && decide (kind ≤ 7)) = true) := by unfold Hid; simp [hk.1, hk.2]
  clear hl hg K hk
  go_enter Tryz.func13, Tryz.ntmps13
  go_wp2_with fail
  refine (valid_kind _ _).mono ?_
  rintro e w0 ⟨rfl, hw0⟩
  subst w0
  rw [HV.out]
  go_wp2_with fail
  refine (HK.out.beg _).mono ?_
  rintro e w1 ⟨x, rfl, hI, hb1⟩
  have HI : Hid (I w.heap.size w1 x []) := hI
  have HB1 : Hid (Below w.heap.size w w1) := hb1
  clear hI hb1
  go_wp2_with fail
  go_loopw [17] (fun i w' => ∃ k : Nat, k ≤ l.length ∧ i = .int .i64 k ∧ (l.take k).all tval = true ∧ I w.heap.size w' x (l.take k) ∧ Below w.heap.size w w') (fun i _ => l.length - (intOf i).toNat)
  case atStart => exact ⟨0, Nat.zero_le _, rfl, rfl, HI.out, HB1.out⟩
  case round =>
    clear HI HB1
    obtain ⟨k, hk, rfl, hall, hI, hb⟩ := hrel
    have HB : Hid (Below w.heap.size w wr) := hb
    have HA : Hid ((l.take k).all tval = true) := hall
    have HI : Hid (I w.heap.size wr x (l.take k)) := hI
    have hsz := hb.size
    clear hb hall hI
    by_cases hlt : k < l.length
    · obtain ⟨b, off, rfl, e0, e1, e2, e3⟩ := HL.out k hlt
      replace e0 := cell_later HB.out e0
      replace e1 := cell_later HB.out e1
      replace e2 := cell_later HB.out e2
      replace e3 := cell_later HB.out e3
      have hki : (k : Int) < (l.length : Int) := by omega
      have HF : Hid (Fits l[k].v) := HG.out _ (List.getElem_mem hlt)
      have HT' : Hid _ := take_all tval l k hlt
      have HF' : Hid (tval l[k] = false → l.all tval = false) := all_false tval l k hlt
      have HT2 : Hid (l.take (k + 1) = l.take k ++ [l[k]]) := List.take_succ_eq_append_getElem hlt
      generalize l[k] = o at *
      go_wp2_with fail
      refine (wv_V o.v _ HF.out.2.2).mono ?_
      rintro e w2 ⟨rfl, hb2⟩
      have HB2 : Hid (Below wr.heap.size wr w2) := (bel1 wr _).trans (hb2.mono (by simp))
      have q0 := cell_later (a := ⟨wr.heap.size, 0, none⟩) hb2 (by simp; rfl)
      have q1 := cell_later (a := ⟨wr.heap.size, 1, none⟩) hb2 (by simp; rfl)
      have q2 := cell_later (a := ⟨wr.heap.size, 2, none⟩) hb2 (by simp; rfl)
      have q3 := cell_later (a := ⟨wr.heap.size, 3, none⟩) hb2 (by simp; rfl)
      clear hb2
      cases hv : validV o.v with
      | true =>
        have hv' : tval o = true := hv
        rw [hv', HA.out] at HT'
        have HI2 : Hid (I w.heap.size w2 x (l.take k)) := HK.out.later _ _ _ _ _ HI.out HB2.out
        obtain ⟨t, p, fn, rc, rfl, hM, hC⟩ := HK.out.add w.heap.size w2 x (l.take k) o HI2.out HF.out (by rw [List.length_take]; omega)
        have m1 := hM.meth
        have m2 := hM.nila
        have m3 := hM.ent
        have HC : Hid (Calls Tryz.prog fn #[rc, .agg #[.int .i64 o.t, .int .i64 o.v.k, .int .i64 o.v.n, .string o.v.s]] w2 fun e w' => e = .returned (.tuple #[]) ∧ I w.heap.size w' (.iface t p) (l.take k ++ [o]) ∧ Below w.heap.size w2 w') := hC
        clear hM hC HI HI2 e0 e1 e2 e3
        go_wp2_with fail
        refine HC.out.mono ?_
        rintro e w3 ⟨rfl, hI3, hb3⟩
        have HI3 : Hid (I w.heap.size w3 (.iface t p) (l.take (k + 1))) := by rw [Hid, HT2.out]; exact hI3
        have HB3 : Hid (Below w.heap.size w w3) := (HB.out.trans (HB2.out.mono hsz)).trans hb3
        clear hI3 hb3 HC HT2
        go_wp2
        go_roundw
        case rel => exact ⟨k + 1, by omega, by go_num, HT'.out, HI3.out, HB3.out⟩
        case measure => simp [intOf]; omega
      | false =>
        have hv' : tval o = false := hv
        have HF2 : Hid (l.all tval = false) := HF'.out hv'
        have HB3 : Hid (Below w.heap.size w w2) := HB.out.trans (HB2.out.mono hsz)
        clear e0 e1 e2 e3
        go_wp2
        go_ret2
        refine ⟨HB3.out, ?_⟩
        rw [HF2.out]
        rfl
    · obtain rfl : k = l.length := by omega
      have HA' : Hid (l.all tval = true) := by have := HA.out; rw [List.take_of_length_le (Nat.le_refl _)] at this; exact this
      have HI' : Hid (I w.heap.size wr x l) := by have := HI.out; rw [List.take_of_length_le (Nat.le_refl _)] at this; exact this
      go_wp2
      go_ret2
      refine ⟨HB.out, ?_⟩
      rw [HA'.out]
      exact ⟨x, rfl, HI'.out⟩
end Go.Proofs.YtdbboaebigpkoaaGreatDoor
