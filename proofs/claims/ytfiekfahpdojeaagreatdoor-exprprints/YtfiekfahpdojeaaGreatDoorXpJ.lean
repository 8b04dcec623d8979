import Derived.Test.YtfiekfahpdojeaaGreatDoorXpI
namespace Go.Proofs.YtfiekfahpdojeaaGreatDoor
open Go.RowKit
set_option linter.unusedVariables false
set_option linter.unusedSimpArgs false
set_option maxRecDepth 100000

attribute [local go_sem] bodyPost_pan
/-- What reading a value's text gives. -/
def RdPost (L : ByteArray → Int → Int → ByteArray → Prop) (w : World) (s : ByteArray) (e : Ending) (w' : World) : Prop := Below w.heap.size w w' ∧
  ((∃ k n t, L s k n t ∧ e = .returned (.tuple #[.agg #[.int .i64 k, .int .i64 n, .string t], .nilIface])) ∨
   ((∀ k n t, ¬ L s k n t) ∧ ∃ ty v, e = .returned (.tuple #[.agg #[.int .i64 0, .int .i64 0, .string ⟨#[]⟩], .iface ty v])))
def RdOk (L : ByteArray → Int → Int → ByteArray → Prop) (G : World → Prop) : Prop := ∀ (s : ByteArray) (W : World), s.size ≤ 200 → G W → Calls Tryz.prog 162 #[.string s] W (RdPost L W s)

set_option maxHeartbeats 4000000 in
theorem first_lit {L : ByteArray → Int → Int → ByteArray → Prop} {G : World → Prop} {g E : Nat} (hG : ∀ W W', G W → W.grownBy W' (some g) → G W') (hR : RdOk L G) (t : Tk) (ts : List Tk) (lev : Nat) (w : World) (hf : t.tx.size ≤ 200) (h : PS w g E (t :: ts) lev) (hw : G w) (hl : isLit t) :
    Calls Tryz.prog 161 #[.pointer (some ⟨g, 0, none⟩)] w (PPost L w g E (.D 7) lev (t :: ts)) := by
  have H : Hid (PS w g E (t :: ts) lev) := h
  have HL : Hid (isLit t) := hl
  have HR : Hid (∀ W, w.grownBy W (some g) → Calls Tryz.prog 162 #[.string t.tx] W (RdPost L W t.tx)) := fun W hW => hR t.tx W hf (hG _ _ hw hW)
  have hgl := h.lt
  have hk0 : ((t.kd : Int) == 2) = decide (t.kd = 2) := by rw [Bool.eq_iff_iff]; simp; omega
  have hk1 : ((t.kd : Int) == 3) = decide (t.kd = 3) := by rw [Bool.eq_iff_iff]; simp; omega
  have hk2 : (t.tx.toList == [116, 114, 117, 101]) = decide (t.tx = bTrue) := xl _ _
  have hk3 : (t.tx.toList == [102, 97, 108, 115, 101]) = decide (t.tx = bFalse) := xl _ _
  clear hf h hw hG hR
  unfold isLit at hl
  have hcase : (decide (t.kd = 2) = true) ∨ (decide (t.kd = 2) = false ∧ decide (t.kd = 3) = true) ∨ (decide (t.kd = 2) = false ∧ decide (t.kd = 3) = false ∧ decide (t.tx = bTrue) = true) ∨ (decide (t.kd = 2) = false ∧ decide (t.kd = 3) = false ∧ decide (t.tx = bTrue) = false ∧ decide (t.tx = bFalse) = true) := by
    by_cases a : t.kd = 2
    · exact .inl (decide_eq_true a)
    by_cases b : t.kd = 3
    · exact .inr (.inl ⟨decide_eq_false a, decide_eq_true b⟩)
    by_cases c : t.tx = bTrue
    · exact .inr (.inr (.inl ⟨decide_eq_false a, decide_eq_false b, decide_eq_true c⟩))
    by_cases d : t.tx = bFalse
    · exact .inr (.inr (.inr ⟨decide_eq_false a, decide_eq_false b, decide_eq_false c, decide_eq_true d⟩))
    exact absurd hl (by simp [a, b, c, d])
  clear hl
  go_enter Tryz.func161, Tryz.ntmps161
  go_wp2_with fail
  refine (take_any g E lev (t :: ts) _ H.out).mono ?_
  rintro e w1 ⟨rfl, hg1, hp1⟩
  have B4 : Hid (PS w1 g E ts lev) := hp1
  have B5 : Hid (w.grownBy w1 (some g)) := hg1
  clear hg1 hp1 H
  rw [show hd E (t :: ts) = t from rfl]
  unfold tkV
  generalize decide (t.kd = 2) = d0 at *
  generalize decide (t.kd = 3) = d1 at *
  generalize decide (t.tx = bTrue) = d2 at *
  generalize decide (t.tx = bFalse) = d3 at *
  have hb2 := xbel1 w1 (.cells #[.int .i64 t.pl, .int .i64 t.kd, .string t.tx] 149)
  have C5 : Hid (w.grownBy (w1.alloc (.cells #[.int .i64 t.pl, .int .i64 t.kd, .string t.tx] 149)) (some g)) := xgTrans B5.out (xgBelow hb2)
  have C4 : Hid (PS (w1.alloc (.cells #[.int .i64 t.pl, .int .i64 t.kd, .string t.tx] 149)) g E ts lev) := B4.out.later hb2
  clear hb2 B4 B5
  rcases hcase with rfl | ⟨rfl, rfl⟩ | ⟨rfl, rfl, rfl⟩ | ⟨rfl, rfl, rfl, rfl⟩
  all_goals
    go_wp2_with fail
    refine (HR.out _ C5.out).mono ?_
    rintro e w2 ⟨hb2, hq⟩
    have s0 : w2.cell? ⟨w1.heap.size, 0, none⟩ = some (.int .i64 t.pl) := xcell hb2 (by go_simp)
    have hl2 : w1.heap.size < w2.heap.size := World.block_lt_of_cell? _ _ s0
    have D4 : Hid (PS w2 g E ts lev) := C4.out.later hb2
    have D5 : Hid (w.grownBy w2 (some g)) := xgTrans C5.out (xgBelow hb2)
    clear hb2 C4 C5
    rcases hq with ⟨k, m, s, hLL, rfl⟩ | ⟨hLL, ty, v, rfl⟩
    · have FIN : Hid (∀ w3, Below w2.heap.size w2 w3 → PPost L w g E (.D 7) lev (t :: ts) (.returned (.iface 92 (.agg #[.int .i64 k, .int .i64 m, .string s]))) w3) := fun w3 hb3 => ⟨xgTrans D5.out (xgBelow hb3), .ok (.lit k m s, ts), .lit HL.out hLL, _, rfl, rfl, D4.out.later hb3⟩
      clear hLL D4 D5 HR
      go_wp2_with fail
      go_ret
      exact FIN.out _ (by repeat (first | exact Below.refl _ _ | exact xbel1 _ _))
    · have FIN : Hid (∀ w3, Below w2.heap.size w2 w3 → PPost L w g E (.D 7) lev (t :: ts) (.panicked [{ v := fltV t.pl 1, recovered := false }]) w3) := fun w3 hb3 => ⟨xgTrans D5.out (xgBelow hb3), .error ⟨t.pl, 1⟩, .lbad HL.out hLL, rfl⟩
      clear hLL D4 D5 HR
      go_wp2_with fail
      exact ⟨rfl, FIN.out _ (by first | exact Below.refl _ _ | exact xbel1 _ _)⟩

set_option maxHeartbeats 4000000 in
theorem first_open {L : ByteArray → Int → Int → ByteArray → Prop} {G : World → Prop} {g E : Nat} (hG : ∀ W W', G W → W.grownBy W' (some g) → G W') (t : Tk) (ts : List Tk) (hP : Rdr L G g E 41 0 ts.length) (lev : Nat) (w : World) (hf : Few ts) (h : PS w g E (t :: ts) lev) (hw : G w) (hl : ¬ isLit t) (ho : t.tx = bOpen) :
    Calls Tryz.prog 161 #[.pointer (some ⟨g, 0, none⟩)] w (PPost L w g E (.D 7) lev (t :: ts)) := by
  have H : Hid (PS w g E (t :: ts) lev) := h
  have HL : Hid (¬ isLit t) := hl
  have HO : Hid (t.tx = bOpen) := ho
  have HG : Hid (∀ W W', G W → W.grownBy W' (some g) → G W') := hG
  have HW : Hid (G w) := hw
  have HP : Hid (Rdr L G g E 41 0 ts.length) := hP
  have HF : Hid (Few ts) := hf
  have hgl := h.lt
  have hgw : g ≤ w.heap.size - 1 := by omega
  have hk0 : ((t.kd : Int) == 2) = false := by rw [beq_eq_false_iff_ne]; intro e; exact hl (.inl (by omega))
  have hk1 : ((t.kd : Int) == 3) = false := by rw [beq_eq_false_iff_ne]; intro e; exact hl (.inr (.inl (by omega)))
  have hk2 : (t.tx.toList == [116, 114, 117, 101]) = false := xnl (fun e => hl (.inr (.inr (.inl e))))
  have hk3 : (t.tx.toList == [102, 97, 108, 115, 101]) = false := xnl (fun e => hl (.inr (.inr (.inr e))))
  have hk4 : (t.tx.toList == [40]) = true := by rw [xl]; exact decide_eq_true ho
  clear hf h hw hG hP hl ho
  go_enter Tryz.func161, Tryz.ntmps161
  go_wp2_with fail
  refine (take_any g E lev (t :: ts) _ H.out).mono ?_
  rintro e w1 ⟨rfl, hg1, hp1⟩
  have B4 : Hid (PS w1 g E ts lev) := hp1
  have B5 : Hid (w.grownBy w1 (some g)) := hg1
  clear hg1 hp1 H
  rw [show hd E (t :: ts) = t from rfl]
  unfold tkV
  have hb2 := xbel1 w1 (.cells #[.int .i64 t.pl, .int .i64 t.kd, .string t.tx] 149)
  have C5 : Hid (w.grownBy (w1.alloc (.cells #[.int .i64 t.pl, .int .i64 t.kd, .string t.tx] 149)) (some g)) := xgTrans B5.out (xgBelow hb2)
  have C4 : Hid (PS (w1.alloc (.cells #[.int .i64 t.pl, .int .i64 t.kd, .string t.tx] 149)) g E ts lev) := B4.out.later hb2
  clear hb2 B4 B5
  go_wp2_with fail
  refine (enter_any g E lev ts t _ C4.out).mono ?_
  rintro e w2 ⟨hg2, hp2⟩
  have D5 : Hid (w.grownBy w2 (some g)) := xgTrans C5.out hg2
  clear hg2 C4 C5
  by_cases hlv : lev = 12
  · rw [if_pos hlv] at hp2
    subst hp2
    subst hlv
    exact ⟨rfl, D5.out, .error ⟨t.pl, 4⟩, .odeep HL.out HO.out, rfl⟩
  · rw [if_neg hlv] at hp2
    obtain ⟨rfl, hp2⟩ := hp2
    have D4 : Hid (PS w2 g E ts (lev + 1)) := hp2
    have D6 : Hid (G w2) := HG.out _ _ HW.out D5.out
    have HLV : Hid (lev ≠ 12) := hlv
    clear hlv hp2
    go_wp2_with fail
    refine (HP.out ts (lev + 1) _ (Nat.le_refl _) HF.out D4.out D6.out).mono ?_
    intro e w3 hpp
    rcases hpp.iface with ⟨hg3, x, ts3, t3, p3, hp3, rfl, hn3, hs3⟩ | ⟨hg3, f, hp3, rfl⟩
    · have E3 : Hid (Nd w3 (w.heap.size - 1) x (.iface t3 p3)) := Nd.up (by have := D5.out.size; omega) _ _ hn3
      have E4 : Hid (PS w3 g E ts3 (lev + 1)) := hs3
      have E5 : Hid (w.grownBy w3 (some g)) := xgTrans D5.out hg3
      have EP : Hid (Ps L E (.D 0) (lev + 1) ts (.ok (x, ts3))) := hp3
      clear hn3 hs3 hg3 hp3 hpp D4 D5 D6
      go_wp2_with fail
      refine (want_any g E (lev + 1) ts3 _ _ E4.out).mono ?_
      rintro e w4 ⟨hg4, hp4⟩
      by_cases hsh : (hd E ts3).tx = ⟨#[41]⟩
      · rw [if_pos hsh] at hp4
        obtain ⟨rfl, hp4⟩ := hp4
        cases ts3 with
        | nil => exact absurd hsh (by show ¬ (⟨#[]⟩ : ByteArray) = ⟨#[41]⟩; decide +kernel)
        | cons t4 ts4 =>
          have HSH : Hid (t4.tx = bShut) := hsh
          have F4 : Hid (PS w4 g E ts4 (lev + 1)) := hp4
          have F3 : Hid (Nd w4 (w.heap.size - 1) x (.iface t3 p3)) := Nd.grownB hg4 (fun k hk => by cases hk; exact hgw) _ _ E3.out
          have F5 : Hid (w.grownBy w4 (some g)) := xgTrans E5.out hg4
          clear hsh hp4 hg4 E3 E4 E5
          go_wp2_with fail
          refine (leave_any g E lev ts4 _ F4.out).mono ?_
          rintro e w5 ⟨rfl, hg5, hp5⟩
          have FIN : Hid (PPost L w g E (.D 7) lev (t :: ts) (.returned (.iface t3 p3)) w5) := ⟨xgTrans F5.out hg5, .ok (x, ts4), .ook HL.out HO.out HLV.out EP.out HSH.out, _, rfl, Nd.grownB hg5 (fun k hk => by cases hk; exact hgw) _ _ F3.out, hp5⟩
          clear hg5 hp5 F3 F4 F5
          go_wp2_with fail
          go_ret
          exact FIN.out
      · rw [if_neg hsh] at hp4
        subst hp4
        exact ⟨rfl, xgTrans E5.out hg4, .error ⟨(hd E ts3).pl, 1⟩, .oopen HL.out HO.out HLV.out EP.out hsh, rfl⟩
    · exact ⟨rfl, xgTrans D5.out hg3, .error f, .obad HL.out HO.out HLV.out hp3, rfl⟩

set_option maxHeartbeats 4000000 in
theorem first_named {L : ByteArray → Int → Int → ByteArray → Prop} {G : World → Prop} {g E : Nat} (hL : OneL L) (hG : ∀ W W', G W → W.grownBy W' (some g) → G W') (hG2 : ∀ W W' k, G W → W.grownBy W' (some k) → g < k → G W') (t : Tk) (ts : List Tk) (hP : Rdr L G g E 41 0 ts.length) (lev : Nat) (w : World) (hf : Few (t :: ts)) (h : PS w g E (t :: ts) lev) (hw : G w) (hl : ¬ isLit t) (ho : t.tx ≠ bOpen) :
    Calls Tryz.prog 161 #[.pointer (some ⟨g, 0, none⟩)] w (PPost L w g E (.D 7) lev (t :: ts)) := by
  have H : Hid (PS w g E (t :: ts) lev) := h
  have HL : Hid (¬ isLit t) := hl
  have HO : Hid (t.tx ≠ bOpen) := ho
  have HR : Hid (∀ W, Calls Tryz.prog 74 #[.string t.tx] W fun e w' => e = .returned (.bool (decide (res t.tx))) ∧ w' = W) := fun W => reserved_any t.tx W
  have hk0 : ((t.kd : Int) == 2) = false := by rw [beq_eq_false_iff_ne]; intro e; exact hl (.inl (by omega))
  have hk1 : ((t.kd : Int) == 3) = false := by rw [beq_eq_false_iff_ne]; intro e; exact hl (.inr (.inl (by omega)))
  have hk2 : (t.tx.toList == [116, 114, 117, 101]) = false := xnl (fun e => hl (.inr (.inr (.inl e))))
  have hk3 : (t.tx.toList == [102, 97, 108, 115, 101]) = false := xnl (fun e => hl (.inr (.inr (.inr e))))
  have hk4 : (t.tx.toList == [40]) = false := xnl ho
  by_cases h1 : t.kd = 1
  · have hk5 : ((t.kd : Int) == 1) = true := by rw [h1]; rfl
    by_cases hre : res t.tx
    · have hrd : decide (res t.tx) = true := decide_eq_true hre
      have FIN : Hid (∀ w2, w.grownBy w2 (some g) → PPost L w g E (.D 7) lev (t :: ts) (.panicked [{ v := fltV t.pl 1, recovered := false }]) w2) := fun w2 hg => ⟨hg, .error ⟨t.pl, 1⟩, .none hl ho (fun e => e.2 hre), rfl⟩
      clear hf h hw hG hG2 hP hl ho hre h1 hL
      go_enter Tryz.func161, Tryz.ntmps161
      go_wp2_with fail
      refine (take_any g E lev (t :: ts) _ H.out).mono ?_
      rintro e w1 ⟨rfl, hg1, hp1⟩
      have B4 : Hid (PS w1 g E ts lev) := hp1
      have B5 : Hid (w.grownBy w1 (some g)) := hg1
      clear hg1 hp1 H
      rw [show hd E (t :: ts) = t from rfl]
      unfold tkV
      have hb2 := xbel1 w1 (.cells #[.int .i64 t.pl, .int .i64 t.kd, .string t.tx] 149)
      have C5 : Hid (w.grownBy (w1.alloc (.cells #[.int .i64 t.pl, .int .i64 t.kd, .string t.tx] 149)) (some g)) := xgTrans B5.out (xgBelow hb2)
      have C4 : Hid (PS (w1.alloc (.cells #[.int .i64 t.pl, .int .i64 t.kd, .string t.tx] 149)) g E ts lev) := B4.out.later hb2
      clear hb2 B4 B5
      go_wp2_with fail
      refine (HR.out _).mono ?_
      rintro e w2 ⟨rfl, h2⟩
      have h2 := h2.symm
      subst h2
      rw [hrd]
      go_wp2_with fail
      exact ⟨rfl, FIN.out _ C5.out⟩
    · have hrd : decide (res t.tx) = false := decide_eq_false hre
      have HN : Hid (∀ W, w.grownBy W (some g) → PS W g E ts lev → Calls Tryz.prog 163 #[.pointer (some ⟨g, 0, none⟩), .agg #[.int .i64 t.pl, .int .i64 t.kd, .string t.tx]] W (PPost L W g E (.D 7) lev (t :: ts))) := fun W hW hp => named_any hL hG hG2 hP t ts lev W (Nat.le_refl _) hf hp (hG _ _ hw hW) hl ho h1 hre
      clear hf h hw hG hG2 hP hl ho hre h1 hL
      go_enter Tryz.func161, Tryz.ntmps161
      go_wp2_with fail
      refine (take_any g E lev (t :: ts) _ H.out).mono ?_
      rintro e w1 ⟨rfl, hg1, hp1⟩
      have B4 : Hid (PS w1 g E ts lev) := hp1
      have B5 : Hid (w.grownBy w1 (some g)) := hg1
      clear hg1 hp1 H
      rw [show hd E (t :: ts) = t from rfl]
      unfold tkV
      have hb2 := xbel1 w1 (.cells #[.int .i64 t.pl, .int .i64 t.kd, .string t.tx] 149)
      have C5 : Hid (w.grownBy (w1.alloc (.cells #[.int .i64 t.pl, .int .i64 t.kd, .string t.tx] 149)) (some g)) := xgTrans B5.out (xgBelow hb2)
      have C4 : Hid (PS (w1.alloc (.cells #[.int .i64 t.pl, .int .i64 t.kd, .string t.tx] 149)) g E ts lev) := B4.out.later hb2
      clear hb2 B4 B5
      go_wp2_with fail
      refine (HR.out _).mono ?_
      rintro e w2 ⟨rfl, h2⟩
      have h2 := h2.symm
      subst h2
      rw [hrd]
      go_wp2_with fail
      refine (HN.out _ C5.out C4.out).mono ?_
      intro e w3 hpp
      have HPP : Hid (PPost L w g E (.D 7) lev (t :: ts) e w3) := by
        obtain ⟨hg, o, hp, hq⟩ := hpp
        refine ⟨xgTrans C5.out hg, o, hp, ?_⟩
        cases o with
        | error f => exact hq
        | ok q =>
          obtain ⟨x, ts'⟩ := q
          obtain ⟨v, a1, a2, a3⟩ := hq
          exact ⟨v, a1, Nd.up (by have := C5.out.size; omega) _ _ a2, a3⟩
      rcases hpp.iface with ⟨_, x, ts1, t', p, _, rfl, _, _⟩ | ⟨_, f, _, rfl⟩
      · clear hpp
        go_wp2_with fail
        go_ret
        exact HPP.out
      · exact ⟨rfl, HPP.out⟩
  · have hk5 : ((t.kd : Int) == 1) = false := by rw [beq_eq_false_iff_ne]; omega
    have FIN : Hid (∀ w2, w.grownBy w2 (some g) → PPost L w g E (.D 7) lev (t :: ts) (.panicked [{ v := fltV t.pl 1, recovered := false }]) w2) := fun w2 hg => ⟨hg, .error ⟨t.pl, 1⟩, .none hl ho (fun e => h1 e.1), rfl⟩
    clear hf h hw hG hG2 hP hl ho h1 hL
    go_enter Tryz.func161, Tryz.ntmps161
    go_wp2_with fail
    refine (take_any g E lev (t :: ts) _ H.out).mono ?_
    rintro e w1 ⟨rfl, hg1, hp1⟩
    have B4 : Hid (PS w1 g E ts lev) := hp1
    have B5 : Hid (w.grownBy w1 (some g)) := hg1
    clear hg1 hp1 H
    rw [show hd E (t :: ts) = t from rfl]
    unfold tkV
    have hb2 := xbel1 w1 (.cells #[.int .i64 t.pl, .int .i64 t.kd, .string t.tx] 149)
    have C5 : Hid (w.grownBy (w1.alloc (.cells #[.int .i64 t.pl, .int .i64 t.kd, .string t.tx] 149)) (some g)) := xgTrans B5.out (xgBelow hb2)
    have C4 : Hid (PS (w1.alloc (.cells #[.int .i64 t.pl, .int .i64 t.kd, .string t.tx] 149)) g E ts lev) := B4.out.later hb2
    clear hb2 B4 B5
    go_wp2_with fail
    exact ⟨rfl, FIN.out _ C5.out⟩

set_option maxHeartbeats 4000000 in
theorem first_end {L : ByteArray → Int → Int → ByteArray → Prop} {g E : Nat} (lev : Nat) (w : World) (h : PS w g E [] lev) :
    Calls Tryz.prog 161 #[.pointer (some ⟨g, 0, none⟩)] w (PPost L w g E (.D 7) lev []) := by
  have H : Hid (PS w g E [] lev) := h
  have FIN : Hid (∀ w2, w.grownBy w2 (some g) → PPost L w g E (.D 7) lev [] (.panicked [{ v := fltV E 1, recovered := false }]) w2) := fun w2 hg => ⟨hg, .error ⟨E, 1⟩, .none (ts := []) (by show ¬ isLit ⟨E, 0, ⟨#[]⟩⟩; unfold isLit; simp; decide +kernel) (by show ¬ (⟨#[]⟩ : ByteArray) = bOpen; decide +kernel) (by simp [hd]), rfl⟩
  clear h
  go_enter Tryz.func161, Tryz.ntmps161
  go_wp2_with fail
  refine (take_any g E lev [] _ H.out).mono ?_
  rintro e w1 ⟨rfl, hg1, hp1⟩
  have B5 : Hid (w.grownBy w1 (some g)) := hg1
  clear hg1 hp1 H
  simp only [hd, tkV]
  go_wp2_with fail
  exact ⟨rfl, FIN.out _ (xgTrans B5.out (xgBelow (xbel1 _ _)))⟩
end Go.Proofs.YtfiekfahpdojeaaGreatDoor
