import Derived.Test.YtckdmmfmnhcabaaGreatDoorNuB
namespace Go.Proofs.YtckdmmfmnhcabaaGreatDoor
open Go.RowKit
set_option linter.unusedVariables false
set_option linter.unusedSimpArgs false
set_option maxRecDepth 100000
attribute [local go_sem ↓] neqlV eqlV
attribute [local go_sem] guardV

theorem hidN {p : Prop} (h : p) : Hid p := h
def txN (k : Nat) : ByteArray := [tx1, tx2, tx3, tx4, tx5, tx6, tx7, tx8, tx9, tx10, tx11, tx12].getD k ⟨#[]⟩
def bN (b : Bool) : Int := if b then 1 else 0
/-- The law's memory behind its four literals. -/
def memN (w : World) (a : Int) (b : Bool) (c : ByteArray) : World :=
  (((w.alloc (.cells #[.string ⟨#[97]⟩, .int .i64 1, .string ⟨#[98]⟩, .int .i64 2, .string ⟨#[99]⟩, .int .i64 3, .string ⟨#[122]⟩, .int .i64 1] 49)).alloc (.cells #[.int .i64 2, .int .i64 (bN b), .string ⟨#[]⟩] 42)).alloc
    (.cells #[.int .i64 1, .int .i64 a, .string ⟨#[]⟩, .int .i64 2, .int .i64 (bN b), .string ⟨#[]⟩, .int .i64 3, .int .i64 0, .string c, .int .i64 0, .int .i64 0, .string ⟨#[]⟩] 42)).alloc
    (.cells #[.string tx1, .string tx2, .string tx3, .string tx4, .string tx5, .string tx6, .string tx7, .string tx8, .string tx9, .string tx10, .string tx11, .string tx12] 9)
theorem memN_size (w : World) (a : Int) (b : Bool) (c : ByteArray) : (memN w a b c).heap.size = w.heap.size + 1 + 1 + 1 + 1 := by simp [memN]
theorem memN_below (w : World) (a : Int) (b : Bool) (c : ByteArray) : Below w.heap.size w (memN w a b c) :=
  ((((Below.refl _ _).alloc (Nat.le_refl _) _).alloc (by simp) _).alloc (by simp; omega) _).alloc (by simp; omega) _
theorem cellN (w : World) (cs : Array Value) (t : TypeId) (i : Nat) (v : Value) (h : cs[i]? = some v) : (w.alloc (.cells cs t)).cell? ⟨w.heap.size, i, none⟩ = some v := by
  have hi : i < cs.size := by
    rcases Nat.lt_or_ge i cs.size with h1 | h1
    · exact h1
    · rw [Array.getElem?_eq_none h1] at h; cases h
  have hg : cs.toList[i]? = some v := by simpa using h
  have h1 := Own.new w t cs.size cs rfl
  have h2 := h1.cell i hi
  simpa [hg] using h2
theorem memN_t (w : World) (a : Int) (b : Bool) (c : ByteArray) : (memN w a b c).cell? ⟨w.heap.size + 1, 0, none⟩ = some (.int .i64 2) ∧ (memN w a b c).cell? ⟨w.heap.size + 1, 1, none⟩ = some (.int .i64 (bN b)) ∧ (memN w a b c).cell? ⟨w.heap.size + 1, 2, none⟩ = some (.string ⟨#[]⟩) := by
  unfold memN
  refine ⟨xcell (xbel1 _ _) (xcell (xbel1 _ _) ?_), xcell (xbel1 _ _) (xcell (xbel1 _ _) ?_), xcell (xbel1 _ _) (xcell (xbel1 _ _) ?_)⟩
  · rw [← show (w.alloc (.cells #[.string ⟨#[97]⟩, .int .i64 1, .string ⟨#[98]⟩, .int .i64 2, .string ⟨#[99]⟩, .int .i64 3, .string ⟨#[122]⟩, .int .i64 1] 49)).heap.size = w.heap.size + 1 by simp]; exact cellN _ _ _ 0 _ rfl
  · rw [← show (w.alloc (.cells #[.string ⟨#[97]⟩, .int .i64 1, .string ⟨#[98]⟩, .int .i64 2, .string ⟨#[99]⟩, .int .i64 3, .string ⟨#[122]⟩, .int .i64 1] 49)).heap.size = w.heap.size + 1 by simp]; exact cellN _ _ _ 1 _ rfl
  · rw [← show (w.alloc (.cells #[.string ⟨#[97]⟩, .int .i64 1, .string ⟨#[98]⟩, .int .i64 2, .string ⟨#[99]⟩, .int .i64 3, .string ⟨#[122]⟩, .int .i64 1] 49)).heap.size = w.heap.size + 1 by simp]; exact cellN _ _ _ 2 _ rfl
theorem memN_l (w : World) (a : Int) (b : Bool) (c : ByteArray) (k : Nat) (h : k < 12) : (memN w a b c).cell? ⟨w.heap.size + 1 + 1 + 1, k, none⟩ = some (.string (txN k)) := by
  unfold memN
  rw [← show (((w.alloc (.cells #[.string ⟨#[97]⟩, .int .i64 1, .string ⟨#[98]⟩, .int .i64 2, .string ⟨#[99]⟩, .int .i64 3, .string ⟨#[122]⟩, .int .i64 1] 49)).alloc (.cells #[.int .i64 2, .int .i64 (bN b), .string ⟨#[]⟩] 42)).alloc
    (.cells #[.int .i64 1, .int .i64 a, .string ⟨#[]⟩, .int .i64 2, .int .i64 (bN b), .string ⟨#[]⟩, .int .i64 3, .int .i64 0, .string c, .int .i64 0, .int .i64 0, .string ⟨#[]⟩] 42)).heap.size = w.heap.size + 1 + 1 + 1 by simp]
  refine cellN _ _ _ k _ ?_
  match k, h with
  | 0, _ => rfl
  | 1, _ => rfl
  | 2, _ => rfl
  | 3, _ => rfl
  | 4, _ => rfl
  | 5, _ => rfl
  | 6, _ => rfl
  | 7, _ => rfl
  | 8, _ => rfl
  | 9, _ => rfl
  | 10, _ => rfl
  | 11, _ => rfl
  | k + 12, h => exact absurd h (by omega)
theorem memN_cols (w : World) (a : Int) (b : Bool) (c : ByteArray) : ColsAt (memN w a b c) (some ⟨w.heap.size, 0, none⟩) colsN := by
  intro i h
  have key : ∀ j v, #[Value.string ⟨#[97]⟩, .int .i64 1, .string ⟨#[98]⟩, .int .i64 2, .string ⟨#[99]⟩, .int .i64 3, .string ⟨#[122]⟩, .int .i64 1][j]? = some v → (memN w a b c).cell? ⟨w.heap.size, j, none⟩ = some v := by
    intro j v hj
    unfold memN
    exact xcell (xbel1 _ _) (xcell (xbel1 _ _) (xcell (xbel1 _ _) (cellN _ _ _ j _ hj)))
  refine ⟨w.heap.size, 0, rfl, ?_⟩
  match i, h with
  | 0, _ => exact ⟨key _ _ rfl, key _ _ rfl⟩
  | 1, _ => exact ⟨key _ _ rfl, key _ _ rfl⟩
  | 2, _ => exact ⟨key _ _ rfl, key _ _ rfl⟩
  | 3, _ => exact ⟨key _ _ rfl, key _ _ rfl⟩
  | i + 4, h => exact absurd h (by simp [colsN])
theorem memN_row (w : World) (a : Int) (b : Bool) (c : ByteArray) : VsAt (memN w a b c) (some ⟨w.heap.size + 1 + 1, 0, none⟩) (rowN a b c) := by
  intro i h
  have key : ∀ j v, #[Value.int .i64 1, .int .i64 a, .string ⟨#[]⟩, .int .i64 2, .int .i64 (bN b), .string ⟨#[]⟩, .int .i64 3, .int .i64 0, .string c, .int .i64 0, .int .i64 0, .string ⟨#[]⟩][j]? = some v → (memN w a b c).cell? ⟨w.heap.size + 1 + 1, j, none⟩ = some v := by
    intro j v hj
    unfold memN
    refine xcell (xbel1 _ _) ?_
    rw [← show ((w.alloc (.cells #[.string ⟨#[97]⟩, .int .i64 1, .string ⟨#[98]⟩, .int .i64 2, .string ⟨#[99]⟩, .int .i64 3, .string ⟨#[122]⟩, .int .i64 1] 49)).alloc (.cells #[.int .i64 2, .int .i64 (bN b), .string ⟨#[]⟩] 42)).heap.size = w.heap.size + 1 + 1 by simp]
    exact cellN _ _ _ j _ hj
  refine ⟨w.heap.size + 1 + 1, 0, rfl, ?_⟩
  match i, h with
  | 0, _ => exact ⟨key _ _ rfl, key _ _ rfl, key _ _ rfl⟩
  | 1, _ => cases b <;> exact ⟨key _ _ rfl, key _ _ rfl, key _ _ rfl⟩
  | 2, _ => exact ⟨key _ _ rfl, key _ _ rfl, key _ _ rfl⟩
  | 3, _ => exact ⟨key _ _ rfl, key _ _ rfl, key _ _ rfl⟩
  | i + 4, h => exact absurd h (by simp [rowN])
/-- What Eval leaves of a text. -/
def EvT (w : World) (ca ra : Nat) (s : ByteArray) (v : Vl) : Prop :=
  Calls Tryz.prog 14 #[.string s, .slice (some ⟨ca, 0, none⟩) 4 4, .slice (some ⟨ra, 0, none⟩) 4 4] w fun e w' => Below w.heap.size w w' ∧ e = .returned (.tuple #[.agg #[.int .i64 v.k, .int .i64 v.n, .string v.t], .nilIface])
def EvAll (w : World) (a : Int) (b : Bool) (c : ByteArray) : Prop := ∀ W, Below (memN w a b c).heap.size (memN w a b c) W →
  (∀ k, k < 12 → EvT W w.heap.size (w.heap.size + 1 + 1) (txN k) vNull) ∧ EvT W w.heap.size (w.heap.size + 1 + 1) tx13 (vTru b) ∧ EvT W w.heap.size (w.heap.size + 1 + 1) tx14 (vTru true) ∧ EvT W w.heap.size (w.heap.size + 1 + 1) tx15 (vTru true) ∧ EvT W w.heap.size (w.heap.size + 1 + 1) tx16 (vInt 2)

set_option maxHeartbeats 4000000 in
theorem nulls_ts (a : Int) (c : ByteArray) (w : World) (hc : ¬ (60 : Int) < c.size) (hcc : c.size ≤ 9223372036854775807) (hE : EvAll w a true c) :
    Calls Tryz.prog 7 #[.int .i64 a, .bool true, .string c] w fun e w' => e = .returned (.bool true) ∧ Below w.heap.size w w' := by
  have HE := hidN hE
  have HM := hidN (memN_t w a true c)
  have HL := hidN (memN_l w a true c)
  have HS := hidN (memN_size w a true c)
  have HBW := hidN (memN_below w a true c)
  clear hE
  have hz : eqB 0 0 ⟨#[]⟩ 0 0 ⟨#[]⟩ = true := by decide +kernel
  go_enter Tryz.func7, Tryz.ntmps7
  go_wp2_with fail
  go_loopw [11] (fun i w' => ∃ (k : Nat), k ≤ 12 ∧ i = .int .i64 k ∧ Below (memN w a true c).heap.size (memN w a true c) w') (fun i _ => 12 - (intOf i).toNat)
  case atStart => exact ⟨0, Nat.zero_le _, rfl, Below.refl _ _⟩
  case round =>
    obtain ⟨k, hk, rfl, hb⟩ := hrel
    have HB := hidN hb
    by_cases hlt : k < 12
    · have hki : (k : Int) < 12 := by omega
      have e1 := xcell hb (HL.out k hlt)
      have HEV := hidN ((HE.out _ hb).1 k hlt)
      clear hb
      generalize txN k = s at *
      go_wp2_with fail
      refine HEV.out.mono ?_
      rintro e w1 ⟨hb1, rfl⟩
      have HB1 : Hid (Below (memN w a true c).heap.size (memN w a true c) w1) := HB.out.trans (hb1.mono HB.out.size)
      clear hb1 HB HEV e1
      have HB2 := hidN (HB1.out.trans ((xbel1 w1 (.cells #[.int .i64 0, .int .i64 0, .string ⟨#[]⟩] 42)).mono HB1.out.size))
      unfold vNull
      go_wp2_with fail
      exact ⟨⟨k + 1, by omega, by go_num, HB2.out⟩, by simp [intOf]; omega⟩
    · obtain rfl : k = 12 := by omega
      clear hb hk hlt
      have HE13 : Hid (EvT _ w.heap.size (w.heap.size + 1 + 1) tx13 ⟨2, 1, ⟨#[]⟩⟩) := (HE.out _ HB.out).2.1
      go_wp2_with fail
      refine HE13.out.mono ?_
      rintro e w1 ⟨hb1, rfl⟩
      have HB1 : Hid (Below (memN w a true c).heap.size (memN w a true c) (w1.alloc (.cells #[.int .i64 2, .int .i64 1, .string ⟨#[]⟩] 42))) := (HB.out.trans (hb1.mono HB.out.size)).trans ((xbel1 w1 _).mono (Nat.le_trans HB.out.size hb1.size))
      have HX1 := hidN (Own.new w1 42 3 #[.int .i64 2, .int .i64 1, .string ⟨#[]⟩] rfl)
      have HE14 : Hid (EvT _ w.heap.size (w.heap.size + 1 + 1) tx14 ⟨2, 1, ⟨#[]⟩⟩) := (HE.out _ HB1.out).2.2.1
      clear hb1 HB HE13
      go_wp2_with fail
      refine HE14.out.mono ?_
      rintro e w2 ⟨hb2, rfl⟩
      have HB2 : Hid (Below (memN w a true c).heap.size (memN w a true c) (w2.alloc (.cells #[.int .i64 2, .int .i64 1, .string ⟨#[]⟩] 42))) := (HB1.out.trans (hb2.mono HB1.out.size)).trans ((xbel1 w2 _).mono (Nat.le_trans HB1.out.size hb2.size))
      have HX2 := hidN ((HX1.out.later hb2).later (xbel1 w2 (.cells #[.int .i64 2, .int .i64 1, .string ⟨#[]⟩] 42)))
      have HY2 := hidN (Own.new w2 42 3 #[.int .i64 2, .int .i64 1, .string ⟨#[]⟩] rfl)
      have HE15 : Hid (EvT _ w.heap.size (w.heap.size + 1 + 1) tx15 ⟨2, 1, ⟨#[]⟩⟩) := (HE.out _ HB2.out).2.2.2.1
      clear hb2 HB1 HE14 HX1
      go_wp2_with fail
      refine HE15.out.mono ?_
      rintro e w3 ⟨hb3, rfl⟩
      have HB3 : Hid (Below (memN w a true c).heap.size (memN w a true c) (w3.alloc (.cells #[.int .i64 2, .int .i64 1, .string ⟨#[]⟩] 42))) := (HB2.out.trans (hb3.mono HB2.out.size)).trans ((xbel1 w3 _).mono (Nat.le_trans HB2.out.size hb3.size))
      have HX3 := hidN ((HX2.out.later hb3).later (xbel1 w3 (.cells #[.int .i64 2, .int .i64 1, .string ⟨#[]⟩] 42)))
      have HY3 := hidN ((HY2.out.later hb3).later (xbel1 w3 (.cells #[.int .i64 2, .int .i64 1, .string ⟨#[]⟩] 42)))
      have HZ3 := hidN (Own.new w3 42 3 #[.int .i64 2, .int .i64 1, .string ⟨#[]⟩] rfl)
      have HE16 : Hid (EvT _ w.heap.size (w.heap.size + 1 + 1) tx16 ⟨1, 2, ⟨#[]⟩⟩) := (HE.out _ HB3.out).2.2.2.2
      clear hb3 HB2 HE15 HX2 HY2
      go_wp2_with fail
      refine HE16.out.mono ?_
      rintro e w4 ⟨hb4, rfl⟩
      have HB4 : Hid (Below (memN w a true c).heap.size (memN w a true c) w4) := HB3.out.trans (hb4.mono HB3.out.size)
      have HX4 := hidN (HX3.out.later hb4)
      have HY4 := hidN (HY3.out.later hb4)
      have HZ4 := hidN (HZ3.out.later hb4)
      have x0 : w4.cell? ⟨w1.heap.size, 0, none⟩ = some (.int .i64 2) := HX4.out.cell 0 (by decide)
      have x1 : w4.cell? ⟨w1.heap.size, 1, none⟩ = some (.int .i64 1) := HX4.out.cell 1 (by decide)
      have x2 : w4.cell? ⟨w1.heap.size, 2, none⟩ = some (.string ⟨#[]⟩) := HX4.out.cell 2 (by decide)
      have y0 : w4.cell? ⟨w2.heap.size, 0, none⟩ = some (.int .i64 2) := HY4.out.cell 0 (by decide)
      have y1 : w4.cell? ⟨w2.heap.size, 1, none⟩ = some (.int .i64 1) := HY4.out.cell 1 (by decide)
      have y2 : w4.cell? ⟨w2.heap.size, 2, none⟩ = some (.string ⟨#[]⟩) := HY4.out.cell 2 (by decide)
      have z0 : w4.cell? ⟨w3.heap.size, 0, none⟩ = some (.int .i64 2) := HZ4.out.cell 0 (by decide)
      have z1 : w4.cell? ⟨w3.heap.size, 1, none⟩ = some (.int .i64 1) := HZ4.out.cell 1 (by decide)
      have z2 : w4.cell? ⟨w3.heap.size, 2, none⟩ = some (.string ⟨#[]⟩) := HZ4.out.cell 2 (by decide)
      have t0 : w4.cell? ⟨w.heap.size + 1, 0, none⟩ = some (.int .i64 2) := xcell HB4.out HM.out.1
      have t1 : w4.cell? ⟨w.heap.size + 1, 1, none⟩ = some (.int .i64 1) := xcell HB4.out HM.out.2.1
      have t2 : w4.cell? ⟨w.heap.size + 1, 2, none⟩ = some (.string ⟨#[]⟩) := xcell HB4.out HM.out.2.2
      have hxl := HX4.out.lt
      have hyl := HY4.out.lt
      have hzl := HZ4.out.lt
      have htl : w.heap.size + 1 < w4.heap.size := World.block_lt_of_cell? _ _ t0
      have q1 : eqB 2 1 ⟨#[]⟩ 2 1 ⟨#[]⟩ = true := by decide +kernel
      have q2 : eqB 2 1 ⟨#[]⟩ 2 1 ⟨#[]⟩ = true := by decide +kernel
      have q3 : eqB 1 2 ⟨#[]⟩ 1 2 ⟨#[]⟩ = true := by decide +kernel
      have HB5 : Hid (Below w.heap.size w (((w4.alloc (.cells #[.int .i64 1, .int .i64 2, .string ⟨#[]⟩] 42))).alloc (.cells #[.int .i64 2, .int .i64 1, .string ⟨#[]⟩] 42))) := by
        have h1 := HBW.out.trans (HB4.out.mono HBW.out.size)
        exact (h1.trans ((xbel1 w4 _).mono h1.size)).trans ((xbel1 _ _).mono (Nat.le_trans h1.size (xbel1 w4 _).size))
      generalize hwb : w.heap.size + 1 = tb at *
      clear hb4 HB3 HE16 HX3 HY3 HZ3 HX4 HY4 HZ4 HE HL HS HM
      go_wp2_with fail
      first | (go_quiet (fail); go_wp2_with fail) | skip
      go_ret
      exact ⟨by simp [q1, q2, q3], by first | exact HB5.out | exact Below.drewN' HB5.out | exact HB5.out.drew⟩

set_option maxHeartbeats 4000000 in
theorem nulls_fs (a : Int) (c : ByteArray) (w : World) (hc : ¬ (60 : Int) < c.size) (hcc : c.size ≤ 9223372036854775807) (hE : EvAll w a false c) :
    Calls Tryz.prog 7 #[.int .i64 a, .bool false, .string c] w fun e w' => e = .returned (.bool true) ∧ Below w.heap.size w w' := by
  have HE := hidN hE
  have HM := hidN (memN_t w a false c)
  have HL := hidN (memN_l w a false c)
  have HS := hidN (memN_size w a false c)
  have HBW := hidN (memN_below w a false c)
  clear hE
  have hz : eqB 0 0 ⟨#[]⟩ 0 0 ⟨#[]⟩ = true := by decide +kernel
  go_enter Tryz.func7, Tryz.ntmps7
  go_wp2_with fail
  go_loopw [11] (fun i w' => ∃ (k : Nat), k ≤ 12 ∧ i = .int .i64 k ∧ Below (memN w a false c).heap.size (memN w a false c) w') (fun i _ => 12 - (intOf i).toNat)
  case atStart => exact ⟨0, Nat.zero_le _, rfl, Below.refl _ _⟩
  case round =>
    obtain ⟨k, hk, rfl, hb⟩ := hrel
    have HB := hidN hb
    by_cases hlt : k < 12
    · have hki : (k : Int) < 12 := by omega
      have e1 := xcell hb (HL.out k hlt)
      have HEV := hidN ((HE.out _ hb).1 k hlt)
      clear hb
      generalize txN k = s at *
      go_wp2_with fail
      refine HEV.out.mono ?_
      rintro e w1 ⟨hb1, rfl⟩
      have HB1 : Hid (Below (memN w a false c).heap.size (memN w a false c) w1) := HB.out.trans (hb1.mono HB.out.size)
      clear hb1 HB HEV e1
      have HB2 := hidN (HB1.out.trans ((xbel1 w1 (.cells #[.int .i64 0, .int .i64 0, .string ⟨#[]⟩] 42)).mono HB1.out.size))
      unfold vNull
      go_wp2_with fail
      exact ⟨⟨k + 1, by omega, by go_num, HB2.out⟩, by simp [intOf]; omega⟩
    · obtain rfl : k = 12 := by omega
      clear hb hk hlt
      have HE13 : Hid (EvT _ w.heap.size (w.heap.size + 1 + 1) tx13 ⟨2, 0, ⟨#[]⟩⟩) := (HE.out _ HB.out).2.1
      go_wp2_with fail
      refine HE13.out.mono ?_
      rintro e w1 ⟨hb1, rfl⟩
      have HB1 : Hid (Below (memN w a false c).heap.size (memN w a false c) (w1.alloc (.cells #[.int .i64 2, .int .i64 0, .string ⟨#[]⟩] 42))) := (HB.out.trans (hb1.mono HB.out.size)).trans ((xbel1 w1 _).mono (Nat.le_trans HB.out.size hb1.size))
      have HX1 := hidN (Own.new w1 42 3 #[.int .i64 2, .int .i64 0, .string ⟨#[]⟩] rfl)
      have HE14 : Hid (EvT _ w.heap.size (w.heap.size + 1 + 1) tx14 ⟨2, 1, ⟨#[]⟩⟩) := (HE.out _ HB1.out).2.2.1
      clear hb1 HB HE13
      go_wp2_with fail
      refine HE14.out.mono ?_
      rintro e w2 ⟨hb2, rfl⟩
      have HB2 : Hid (Below (memN w a false c).heap.size (memN w a false c) (w2.alloc (.cells #[.int .i64 2, .int .i64 1, .string ⟨#[]⟩] 42))) := (HB1.out.trans (hb2.mono HB1.out.size)).trans ((xbel1 w2 _).mono (Nat.le_trans HB1.out.size hb2.size))
      have HX2 := hidN ((HX1.out.later hb2).later (xbel1 w2 (.cells #[.int .i64 2, .int .i64 1, .string ⟨#[]⟩] 42)))
      have HY2 := hidN (Own.new w2 42 3 #[.int .i64 2, .int .i64 1, .string ⟨#[]⟩] rfl)
      have HE15 : Hid (EvT _ w.heap.size (w.heap.size + 1 + 1) tx15 ⟨2, 1, ⟨#[]⟩⟩) := (HE.out _ HB2.out).2.2.2.1
      clear hb2 HB1 HE14 HX1
      go_wp2_with fail
      refine HE15.out.mono ?_
      rintro e w3 ⟨hb3, rfl⟩
      have HB3 : Hid (Below (memN w a false c).heap.size (memN w a false c) (w3.alloc (.cells #[.int .i64 2, .int .i64 1, .string ⟨#[]⟩] 42))) := (HB2.out.trans (hb3.mono HB2.out.size)).trans ((xbel1 w3 _).mono (Nat.le_trans HB2.out.size hb3.size))
      have HX3 := hidN ((HX2.out.later hb3).later (xbel1 w3 (.cells #[.int .i64 2, .int .i64 1, .string ⟨#[]⟩] 42)))
      have HY3 := hidN ((HY2.out.later hb3).later (xbel1 w3 (.cells #[.int .i64 2, .int .i64 1, .string ⟨#[]⟩] 42)))
      have HZ3 := hidN (Own.new w3 42 3 #[.int .i64 2, .int .i64 1, .string ⟨#[]⟩] rfl)
      have HE16 : Hid (EvT _ w.heap.size (w.heap.size + 1 + 1) tx16 ⟨1, 2, ⟨#[]⟩⟩) := (HE.out _ HB3.out).2.2.2.2
      clear hb3 HB2 HE15 HX2 HY2
      go_wp2_with fail
      refine HE16.out.mono ?_
      rintro e w4 ⟨hb4, rfl⟩
      have HB4 : Hid (Below (memN w a false c).heap.size (memN w a false c) w4) := HB3.out.trans (hb4.mono HB3.out.size)
      have HX4 := hidN (HX3.out.later hb4)
      have HY4 := hidN (HY3.out.later hb4)
      have HZ4 := hidN (HZ3.out.later hb4)
      have x0 : w4.cell? ⟨w1.heap.size, 0, none⟩ = some (.int .i64 2) := HX4.out.cell 0 (by decide)
      have x1 : w4.cell? ⟨w1.heap.size, 1, none⟩ = some (.int .i64 0) := HX4.out.cell 1 (by decide)
      have x2 : w4.cell? ⟨w1.heap.size, 2, none⟩ = some (.string ⟨#[]⟩) := HX4.out.cell 2 (by decide)
      have y0 : w4.cell? ⟨w2.heap.size, 0, none⟩ = some (.int .i64 2) := HY4.out.cell 0 (by decide)
      have y1 : w4.cell? ⟨w2.heap.size, 1, none⟩ = some (.int .i64 1) := HY4.out.cell 1 (by decide)
      have y2 : w4.cell? ⟨w2.heap.size, 2, none⟩ = some (.string ⟨#[]⟩) := HY4.out.cell 2 (by decide)
      have z0 : w4.cell? ⟨w3.heap.size, 0, none⟩ = some (.int .i64 2) := HZ4.out.cell 0 (by decide)
      have z1 : w4.cell? ⟨w3.heap.size, 1, none⟩ = some (.int .i64 1) := HZ4.out.cell 1 (by decide)
      have z2 : w4.cell? ⟨w3.heap.size, 2, none⟩ = some (.string ⟨#[]⟩) := HZ4.out.cell 2 (by decide)
      have t0 : w4.cell? ⟨w.heap.size + 1, 0, none⟩ = some (.int .i64 2) := xcell HB4.out HM.out.1
      have t1 : w4.cell? ⟨w.heap.size + 1, 1, none⟩ = some (.int .i64 0) := xcell HB4.out HM.out.2.1
      have t2 : w4.cell? ⟨w.heap.size + 1, 2, none⟩ = some (.string ⟨#[]⟩) := xcell HB4.out HM.out.2.2
      have hxl := HX4.out.lt
      have hyl := HY4.out.lt
      have hzl := HZ4.out.lt
      have htl : w.heap.size + 1 < w4.heap.size := World.block_lt_of_cell? _ _ t0
      have q1 : eqB 2 0 ⟨#[]⟩ 2 0 ⟨#[]⟩ = true := by decide +kernel
      have q2 : eqB 2 1 ⟨#[]⟩ 2 1 ⟨#[]⟩ = true := by decide +kernel
      have q3 : eqB 1 2 ⟨#[]⟩ 1 2 ⟨#[]⟩ = true := by decide +kernel
      have HB5 : Hid (Below w.heap.size w (((w4.alloc (.cells #[.int .i64 1, .int .i64 2, .string ⟨#[]⟩] 42))).alloc (.cells #[.int .i64 2, .int .i64 1, .string ⟨#[]⟩] 42))) := by
        have h1 := HBW.out.trans (HB4.out.mono HBW.out.size)
        exact (h1.trans ((xbel1 w4 _).mono h1.size)).trans ((xbel1 _ _).mono (Nat.le_trans h1.size (xbel1 w4 _).size))
      generalize hwb : w.heap.size + 1 = tb at *
      clear hb4 HB3 HE16 HX3 HY3 HZ3 HX4 HY4 HZ4 HE HL HS HM
      go_wp2_with fail
      first | (go_quiet (fail); go_wp2_with fail) | skip
      go_ret
      exact ⟨by simp [q1, q2, q3], by first | exact HB5.out | exact Below.drewN' HB5.out | exact HB5.out.drew⟩

set_option maxHeartbeats 4000000 in
theorem nulls_tl (a : Int) (c : ByteArray) (w : World) (hc : (60 : Int) < c.size) (hcc : c.size ≤ 9223372036854775807) (hE : EvAll w a true (c.extract 0 60)) :
    Calls Tryz.prog 7 #[.int .i64 a, .bool true, .string c] w fun e w' => e = .returned (.bool true) ∧ Below w.heap.size w w' := by
  have HE := hidN hE
  have HM := hidN (memN_t w a true (c.extract 0 60))
  have HL := hidN (memN_l w a true (c.extract 0 60))
  have HS := hidN (memN_size w a true (c.extract 0 60))
  have HBW := hidN (memN_below w a true (c.extract 0 60))
  clear hE
  have hz : eqB 0 0 ⟨#[]⟩ 0 0 ⟨#[]⟩ = true := by decide +kernel
  go_enter Tryz.func7, Tryz.ntmps7
  go_wp2_with fail
  go_loopw [11] (fun i w' => ∃ (k : Nat), k ≤ 12 ∧ i = .int .i64 k ∧ Below (memN w a true (c.extract 0 60)).heap.size (memN w a true (c.extract 0 60)) w') (fun i _ => 12 - (intOf i).toNat)
  case atStart => exact ⟨0, Nat.zero_le _, rfl, Below.refl _ _⟩
  case round =>
    obtain ⟨k, hk, rfl, hb⟩ := hrel
    have HB := hidN hb
    by_cases hlt : k < 12
    · have hki : (k : Int) < 12 := by omega
      have e1 := xcell hb (HL.out k hlt)
      have HEV := hidN ((HE.out _ hb).1 k hlt)
      clear hb
      generalize txN k = s at *
      go_wp2_with fail
      refine HEV.out.mono ?_
      rintro e w1 ⟨hb1, rfl⟩
      have HB1 : Hid (Below (memN w a true (c.extract 0 60)).heap.size (memN w a true (c.extract 0 60)) w1) := HB.out.trans (hb1.mono HB.out.size)
      clear hb1 HB HEV e1
      have HB2 := hidN (HB1.out.trans ((xbel1 w1 (.cells #[.int .i64 0, .int .i64 0, .string ⟨#[]⟩] 42)).mono HB1.out.size))
      unfold vNull
      go_wp2_with fail
      exact ⟨⟨k + 1, by omega, by go_num, HB2.out⟩, by simp [intOf]; omega⟩
    · obtain rfl : k = 12 := by omega
      clear hb hk hlt
      have HE13 : Hid (EvT _ w.heap.size (w.heap.size + 1 + 1) tx13 ⟨2, 1, ⟨#[]⟩⟩) := (HE.out _ HB.out).2.1
      go_wp2_with fail
      refine HE13.out.mono ?_
      rintro e w1 ⟨hb1, rfl⟩
      have HB1 : Hid (Below (memN w a true (c.extract 0 60)).heap.size (memN w a true (c.extract 0 60)) (w1.alloc (.cells #[.int .i64 2, .int .i64 1, .string ⟨#[]⟩] 42))) := (HB.out.trans (hb1.mono HB.out.size)).trans ((xbel1 w1 _).mono (Nat.le_trans HB.out.size hb1.size))
      have HX1 := hidN (Own.new w1 42 3 #[.int .i64 2, .int .i64 1, .string ⟨#[]⟩] rfl)
      have HE14 : Hid (EvT _ w.heap.size (w.heap.size + 1 + 1) tx14 ⟨2, 1, ⟨#[]⟩⟩) := (HE.out _ HB1.out).2.2.1
      clear hb1 HB HE13
      go_wp2_with fail
      refine HE14.out.mono ?_
      rintro e w2 ⟨hb2, rfl⟩
      have HB2 : Hid (Below (memN w a true (c.extract 0 60)).heap.size (memN w a true (c.extract 0 60)) (w2.alloc (.cells #[.int .i64 2, .int .i64 1, .string ⟨#[]⟩] 42))) := (HB1.out.trans (hb2.mono HB1.out.size)).trans ((xbel1 w2 _).mono (Nat.le_trans HB1.out.size hb2.size))
      have HX2 := hidN ((HX1.out.later hb2).later (xbel1 w2 (.cells #[.int .i64 2, .int .i64 1, .string ⟨#[]⟩] 42)))
      have HY2 := hidN (Own.new w2 42 3 #[.int .i64 2, .int .i64 1, .string ⟨#[]⟩] rfl)
      have HE15 : Hid (EvT _ w.heap.size (w.heap.size + 1 + 1) tx15 ⟨2, 1, ⟨#[]⟩⟩) := (HE.out _ HB2.out).2.2.2.1
      clear hb2 HB1 HE14 HX1
      go_wp2_with fail
      refine HE15.out.mono ?_
      rintro e w3 ⟨hb3, rfl⟩
      have HB3 : Hid (Below (memN w a true (c.extract 0 60)).heap.size (memN w a true (c.extract 0 60)) (w3.alloc (.cells #[.int .i64 2, .int .i64 1, .string ⟨#[]⟩] 42))) := (HB2.out.trans (hb3.mono HB2.out.size)).trans ((xbel1 w3 _).mono (Nat.le_trans HB2.out.size hb3.size))
      have HX3 := hidN ((HX2.out.later hb3).later (xbel1 w3 (.cells #[.int .i64 2, .int .i64 1, .string ⟨#[]⟩] 42)))
      have HY3 := hidN ((HY2.out.later hb3).later (xbel1 w3 (.cells #[.int .i64 2, .int .i64 1, .string ⟨#[]⟩] 42)))
      have HZ3 := hidN (Own.new w3 42 3 #[.int .i64 2, .int .i64 1, .string ⟨#[]⟩] rfl)
      have HE16 : Hid (EvT _ w.heap.size (w.heap.size + 1 + 1) tx16 ⟨1, 2, ⟨#[]⟩⟩) := (HE.out _ HB3.out).2.2.2.2
      clear hb3 HB2 HE15 HX2 HY2
      go_wp2_with fail
      refine HE16.out.mono ?_
      rintro e w4 ⟨hb4, rfl⟩
      have HB4 : Hid (Below (memN w a true (c.extract 0 60)).heap.size (memN w a true (c.extract 0 60)) w4) := HB3.out.trans (hb4.mono HB3.out.size)
      have HX4 := hidN (HX3.out.later hb4)
      have HY4 := hidN (HY3.out.later hb4)
      have HZ4 := hidN (HZ3.out.later hb4)
      have x0 : w4.cell? ⟨w1.heap.size, 0, none⟩ = some (.int .i64 2) := HX4.out.cell 0 (by decide)
      have x1 : w4.cell? ⟨w1.heap.size, 1, none⟩ = some (.int .i64 1) := HX4.out.cell 1 (by decide)
      have x2 : w4.cell? ⟨w1.heap.size, 2, none⟩ = some (.string ⟨#[]⟩) := HX4.out.cell 2 (by decide)
      have y0 : w4.cell? ⟨w2.heap.size, 0, none⟩ = some (.int .i64 2) := HY4.out.cell 0 (by decide)
      have y1 : w4.cell? ⟨w2.heap.size, 1, none⟩ = some (.int .i64 1) := HY4.out.cell 1 (by decide)
      have y2 : w4.cell? ⟨w2.heap.size, 2, none⟩ = some (.string ⟨#[]⟩) := HY4.out.cell 2 (by decide)
      have z0 : w4.cell? ⟨w3.heap.size, 0, none⟩ = some (.int .i64 2) := HZ4.out.cell 0 (by decide)
      have z1 : w4.cell? ⟨w3.heap.size, 1, none⟩ = some (.int .i64 1) := HZ4.out.cell 1 (by decide)
      have z2 : w4.cell? ⟨w3.heap.size, 2, none⟩ = some (.string ⟨#[]⟩) := HZ4.out.cell 2 (by decide)
      have t0 : w4.cell? ⟨w.heap.size + 1, 0, none⟩ = some (.int .i64 2) := xcell HB4.out HM.out.1
      have t1 : w4.cell? ⟨w.heap.size + 1, 1, none⟩ = some (.int .i64 1) := xcell HB4.out HM.out.2.1
      have t2 : w4.cell? ⟨w.heap.size + 1, 2, none⟩ = some (.string ⟨#[]⟩) := xcell HB4.out HM.out.2.2
      have hxl := HX4.out.lt
      have hyl := HY4.out.lt
      have hzl := HZ4.out.lt
      have htl : w.heap.size + 1 < w4.heap.size := World.block_lt_of_cell? _ _ t0
      have q1 : eqB 2 1 ⟨#[]⟩ 2 1 ⟨#[]⟩ = true := by decide +kernel
      have q2 : eqB 2 1 ⟨#[]⟩ 2 1 ⟨#[]⟩ = true := by decide +kernel
      have q3 : eqB 1 2 ⟨#[]⟩ 1 2 ⟨#[]⟩ = true := by decide +kernel
      have HB5 : Hid (Below w.heap.size w (((w4.alloc (.cells #[.int .i64 1, .int .i64 2, .string ⟨#[]⟩] 42))).alloc (.cells #[.int .i64 2, .int .i64 1, .string ⟨#[]⟩] 42))) := by
        have h1 := HBW.out.trans (HB4.out.mono HBW.out.size)
        exact (h1.trans ((xbel1 w4 _).mono h1.size)).trans ((xbel1 _ _).mono (Nat.le_trans h1.size (xbel1 w4 _).size))
      generalize hwb : w.heap.size + 1 = tb at *
      clear hb4 HB3 HE16 HX3 HY3 HZ3 HX4 HY4 HZ4 HE HL HS HM
      go_wp2_with fail
      first | (go_quiet (fail); go_wp2_with fail) | skip
      go_ret
      exact ⟨by simp [q1, q2, q3], by first | exact HB5.out | exact Below.drewN' HB5.out | exact HB5.out.drew⟩

set_option maxHeartbeats 4000000 in
theorem nulls_fl (a : Int) (c : ByteArray) (w : World) (hc : (60 : Int) < c.size) (hcc : c.size ≤ 9223372036854775807) (hE : EvAll w a false (c.extract 0 60)) :
    Calls Tryz.prog 7 #[.int .i64 a, .bool false, .string c] w fun e w' => e = .returned (.bool true) ∧ Below w.heap.size w w' := by
  have HE := hidN hE
  have HM := hidN (memN_t w a false (c.extract 0 60))
  have HL := hidN (memN_l w a false (c.extract 0 60))
  have HS := hidN (memN_size w a false (c.extract 0 60))
  have HBW := hidN (memN_below w a false (c.extract 0 60))
  clear hE
  have hz : eqB 0 0 ⟨#[]⟩ 0 0 ⟨#[]⟩ = true := by decide +kernel
  go_enter Tryz.func7, Tryz.ntmps7
  go_wp2_with fail
  go_loopw [11] (fun i w' => ∃ (k : Nat), k ≤ 12 ∧ i = .int .i64 k ∧ Below (memN w a false (c.extract 0 60)).heap.size (memN w a false (c.extract 0 60)) w') (fun i _ => 12 - (intOf i).toNat)
  case atStart => exact ⟨0, Nat.zero_le _, rfl, Below.refl _ _⟩
  case round =>
    obtain ⟨k, hk, rfl, hb⟩ := hrel
    have HB := hidN hb
    by_cases hlt : k < 12
    · have hki : (k : Int) < 12 := by omega
      have e1 := xcell hb (HL.out k hlt)
      have HEV := hidN ((HE.out _ hb).1 k hlt)
      clear hb
      generalize txN k = s at *
      go_wp2_with fail
      refine HEV.out.mono ?_
      rintro e w1 ⟨hb1, rfl⟩
      have HB1 : Hid (Below (memN w a false (c.extract 0 60)).heap.size (memN w a false (c.extract 0 60)) w1) := HB.out.trans (hb1.mono HB.out.size)
      clear hb1 HB HEV e1
      have HB2 := hidN (HB1.out.trans ((xbel1 w1 (.cells #[.int .i64 0, .int .i64 0, .string ⟨#[]⟩] 42)).mono HB1.out.size))
      unfold vNull
      go_wp2_with fail
      exact ⟨⟨k + 1, by omega, by go_num, HB2.out⟩, by simp [intOf]; omega⟩
    · obtain rfl : k = 12 := by omega
      clear hb hk hlt
      have HE13 : Hid (EvT _ w.heap.size (w.heap.size + 1 + 1) tx13 ⟨2, 0, ⟨#[]⟩⟩) := (HE.out _ HB.out).2.1
      go_wp2_with fail
      refine HE13.out.mono ?_
      rintro e w1 ⟨hb1, rfl⟩
      have HB1 : Hid (Below (memN w a false (c.extract 0 60)).heap.size (memN w a false (c.extract 0 60)) (w1.alloc (.cells #[.int .i64 2, .int .i64 0, .string ⟨#[]⟩] 42))) := (HB.out.trans (hb1.mono HB.out.size)).trans ((xbel1 w1 _).mono (Nat.le_trans HB.out.size hb1.size))
      have HX1 := hidN (Own.new w1 42 3 #[.int .i64 2, .int .i64 0, .string ⟨#[]⟩] rfl)
      have HE14 : Hid (EvT _ w.heap.size (w.heap.size + 1 + 1) tx14 ⟨2, 1, ⟨#[]⟩⟩) := (HE.out _ HB1.out).2.2.1
      clear hb1 HB HE13
      go_wp2_with fail
      refine HE14.out.mono ?_
      rintro e w2 ⟨hb2, rfl⟩
      have HB2 : Hid (Below (memN w a false (c.extract 0 60)).heap.size (memN w a false (c.extract 0 60)) (w2.alloc (.cells #[.int .i64 2, .int .i64 1, .string ⟨#[]⟩] 42))) := (HB1.out.trans (hb2.mono HB1.out.size)).trans ((xbel1 w2 _).mono (Nat.le_trans HB1.out.size hb2.size))
      have HX2 := hidN ((HX1.out.later hb2).later (xbel1 w2 (.cells #[.int .i64 2, .int .i64 1, .string ⟨#[]⟩] 42)))
      have HY2 := hidN (Own.new w2 42 3 #[.int .i64 2, .int .i64 1, .string ⟨#[]⟩] rfl)
      have HE15 : Hid (EvT _ w.heap.size (w.heap.size + 1 + 1) tx15 ⟨2, 1, ⟨#[]⟩⟩) := (HE.out _ HB2.out).2.2.2.1
      clear hb2 HB1 HE14 HX1
      go_wp2_with fail
      refine HE15.out.mono ?_
      rintro e w3 ⟨hb3, rfl⟩
      have HB3 : Hid (Below (memN w a false (c.extract 0 60)).heap.size (memN w a false (c.extract 0 60)) (w3.alloc (.cells #[.int .i64 2, .int .i64 1, .string ⟨#[]⟩] 42))) := (HB2.out.trans (hb3.mono HB2.out.size)).trans ((xbel1 w3 _).mono (Nat.le_trans HB2.out.size hb3.size))
      have HX3 := hidN ((HX2.out.later hb3).later (xbel1 w3 (.cells #[.int .i64 2, .int .i64 1, .string ⟨#[]⟩] 42)))
      have HY3 := hidN ((HY2.out.later hb3).later (xbel1 w3 (.cells #[.int .i64 2, .int .i64 1, .string ⟨#[]⟩] 42)))
      have HZ3 := hidN (Own.new w3 42 3 #[.int .i64 2, .int .i64 1, .string ⟨#[]⟩] rfl)
      have HE16 : Hid (EvT _ w.heap.size (w.heap.size + 1 + 1) tx16 ⟨1, 2, ⟨#[]⟩⟩) := (HE.out _ HB3.out).2.2.2.2
      clear hb3 HB2 HE15 HX2 HY2
      go_wp2_with fail
      refine HE16.out.mono ?_
      rintro e w4 ⟨hb4, rfl⟩
      have HB4 : Hid (Below (memN w a false (c.extract 0 60)).heap.size (memN w a false (c.extract 0 60)) w4) := HB3.out.trans (hb4.mono HB3.out.size)
      have HX4 := hidN (HX3.out.later hb4)
      have HY4 := hidN (HY3.out.later hb4)
      have HZ4 := hidN (HZ3.out.later hb4)
      have x0 : w4.cell? ⟨w1.heap.size, 0, none⟩ = some (.int .i64 2) := HX4.out.cell 0 (by decide)
      have x1 : w4.cell? ⟨w1.heap.size, 1, none⟩ = some (.int .i64 0) := HX4.out.cell 1 (by decide)
      have x2 : w4.cell? ⟨w1.heap.size, 2, none⟩ = some (.string ⟨#[]⟩) := HX4.out.cell 2 (by decide)
      have y0 : w4.cell? ⟨w2.heap.size, 0, none⟩ = some (.int .i64 2) := HY4.out.cell 0 (by decide)
      have y1 : w4.cell? ⟨w2.heap.size, 1, none⟩ = some (.int .i64 1) := HY4.out.cell 1 (by decide)
      have y2 : w4.cell? ⟨w2.heap.size, 2, none⟩ = some (.string ⟨#[]⟩) := HY4.out.cell 2 (by decide)
      have z0 : w4.cell? ⟨w3.heap.size, 0, none⟩ = some (.int .i64 2) := HZ4.out.cell 0 (by decide)
      have z1 : w4.cell? ⟨w3.heap.size, 1, none⟩ = some (.int .i64 1) := HZ4.out.cell 1 (by decide)
      have z2 : w4.cell? ⟨w3.heap.size, 2, none⟩ = some (.string ⟨#[]⟩) := HZ4.out.cell 2 (by decide)
      have t0 : w4.cell? ⟨w.heap.size + 1, 0, none⟩ = some (.int .i64 2) := xcell HB4.out HM.out.1
      have t1 : w4.cell? ⟨w.heap.size + 1, 1, none⟩ = some (.int .i64 0) := xcell HB4.out HM.out.2.1
      have t2 : w4.cell? ⟨w.heap.size + 1, 2, none⟩ = some (.string ⟨#[]⟩) := xcell HB4.out HM.out.2.2
      have hxl := HX4.out.lt
      have hyl := HY4.out.lt
      have hzl := HZ4.out.lt
      have htl : w.heap.size + 1 < w4.heap.size := World.block_lt_of_cell? _ _ t0
      have q1 : eqB 2 0 ⟨#[]⟩ 2 0 ⟨#[]⟩ = true := by decide +kernel
      have q2 : eqB 2 1 ⟨#[]⟩ 2 1 ⟨#[]⟩ = true := by decide +kernel
      have q3 : eqB 1 2 ⟨#[]⟩ 1 2 ⟨#[]⟩ = true := by decide +kernel
      have HB5 : Hid (Below w.heap.size w (((w4.alloc (.cells #[.int .i64 1, .int .i64 2, .string ⟨#[]⟩] 42))).alloc (.cells #[.int .i64 2, .int .i64 1, .string ⟨#[]⟩] 42))) := by
        have h1 := HBW.out.trans (HB4.out.mono HBW.out.size)
        exact (h1.trans ((xbel1 w4 _).mono h1.size)).trans ((xbel1 _ _).mono (Nat.le_trans h1.size (xbel1 w4 _).size))
      generalize hwb : w.heap.size + 1 = tb at *
      clear hb4 HB3 HE16 HX3 HY3 HZ3 HX4 HY4 HZ4 HE HL HS HM
      go_wp2_with fail
      first | (go_quiet (fail); go_wp2_with fail) | skip
      go_ret
      exact ⟨by simp [q1, q2, q3], by first | exact HB5.out | exact Below.drewN' HB5.out | exact HB5.out.drew⟩

/-- What is looked at of a text. -/
def cutN60 (c : ByteArray) : ByteArray := if (60 : Int) < c.size then c.extract 0 60 else c
theorem cutN60_size (c : ByteArray) : (cutN60 c).size ≤ 60 := by
  unfold cutN60
  split
  · rw [ByteArray.size_extract]; omega
  · omega
theorem nulls_walk (a : Int) (b : Bool) (c : ByteArray) (w : World) (hcc : c.size ≤ 9223372036854775807) (hE : EvAll w a b (cutN60 c)) :
    Calls Tryz.prog 7 #[.int .i64 a, .bool b, .string c] w fun e w' => e = .returned (.bool true) ∧ Below w.heap.size w w' := by
  by_cases hc : (60 : Int) < c.size
  · unfold cutN60 at hE
    rw [if_pos hc] at hE
    cases b with
    | true => exact nulls_tl a c w hc hcc hE
    | false => exact nulls_fl a c w hc hcc hE
  · unfold cutN60 at hE
    rw [if_neg hc] at hE
    cases b with
    | true => exact nulls_ts a c w hc hcc hE
    | false => exact nulls_fs a c w hc hcc hE
end Go.Proofs.YtckdmmfmnhcabaaGreatDoor
