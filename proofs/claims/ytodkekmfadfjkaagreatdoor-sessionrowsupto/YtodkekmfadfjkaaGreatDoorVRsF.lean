import Derived.Test.YtodkekmfadfjkaaGreatDoorVRsE
import Derived.Test.YtodkekmfadfjkaaGreatDoorVRsD
namespace Go.Proofs.YtodkekmfadfjkaaGreatDoor.Vl
open Go.RowKit
set_option linter.unusedVariables false
set_option maxRecDepth 100000

theorem parse16_tot (x y : UInt8) (w : World) :
    Calls Tryz.prog 80 #[.string ⟨#[x, y]⟩, .int .i64 16, .int .i64 8] w (P16 (Lib.bytesWorld w 5 ⟨#[x, y]⟩)) := by
  have hx := UInt8.toNat_lt x
  have hy := UInt8.toNat_lt y
  have lx : bits .or .u8 (x.toNat : Int) 32 = ((x.toNat ||| 32 : Nat) : Int) := u8_or_nat x.toNat 32 hx (by decide)
  have ly : bits .or .u8 (y.toNat : Int) 32 = ((y.toNat ||| 32 : Nat) : Int) := u8_or_nat y.toNat 32 hy (by decide)
  have bx : x.toNat ||| 32 < 256 := Nat.or_lt_two_pow (n := 8) (by omega) (by decide)
  have by_ : y.toNat ||| 32 < 256 := Nat.or_lt_two_pow (n := 8) (by omega) (by decide)
  have hcv := Lib.run_convert_string_bytes w 9 46 5 ⟨#[x, y]⟩ Tryz.underlying9 Tryz.underlying46 Tryz.underlying5
  have c0 := Lib.bytesWorld_cell w 5 ⟨#[x, y]⟩ 0 (by show (0 : Nat) < 2; omega)
  have c1 := Lib.bytesWorld_cell w 5 ⟨#[x, y]⟩ 1 (by show (1 : Nat) < 2; omega)
  rcases letter x.toNat hx with h1 | h1
  · rcases letter y.toNat hy with h2 | h2
    · exact parse16_ok ⟨#[x, y]⟩ x.toNat y.toNat _ _ _ w _ rfl (by simp) hcv c0 c1 hx hy lx ly bx by_ h1 h2
    · exact parse16_no2 ⟨#[x, y]⟩ x.toNat y.toNat _ _ _ w _ rfl (by simp) hcv c0 c1 hx hy lx ly bx by_ h1 h2
  · exact parse16_no1 ⟨#[x, y]⟩ x.toNat y.toNat _ _ w _ rfl (by simp) hcv c0 c1 hx lx bx h1

/-- What reading two letters gives. -/
def PU (w : World) (e : Ending) (w' : World) : Prop := Below w.heap.size w w' ∧ ((∃ v : Nat, v < 256 ∧ e = .returned (.tuple #[.int .u64 (v : Int), .nilIface])) ∨ ∃ N, e = .returned (.tuple #[.int .u64 0, .iface 129 (.pointer (some ⟨N, 0, none⟩))]))
theorem parseUint_tot (x y : UInt8) (w : World) (hs : Sen w) :
    Calls Tryz.prog 72 #[.string ⟨#[x, y]⟩, .int .i64 16, .int .i64 8] w (PU w) := by
  have HS : Hid (Sen w) := hs
  clear hs
  obtain ⟨s, hse⟩ : ∃ s : ByteArray, s = ⟨#[x, y]⟩ := ⟨_, rfl⟩
  have hsz : s.size = 2 := by rw [hse]; rfl
  have HP := parse16_tot x y w
  rw [← hse] at HP ⊢
  have HP' : Hid (Calls Tryz.prog 80 #[.string s, .int .i64 16, .int .i64 8] w (P16 (Lib.bytesWorld w 5 s))) := HP
  clear HP hse
  go_enter Tryz.func72, Tryz.ntmps72
  go_wp2_with fail
  refine HP'.out.mono ?_
  rintro e w1 ⟨rfl, hc⟩
  have hb := below_bytes w 5 s
  rcases hc with ⟨v, hv, rfl⟩ | rfl
  · have FIN : Hid (PU w (.returned (.tuple #[.int .u64 (v : Int), .nilIface])) (Lib.bytesWorld w 5 s)) := ⟨hb, .inl ⟨v, hv, rfl⟩⟩
    clear hb
    generalize Lib.bytesWorld w 5 s = w1 at *
    go_wp2
    go_ret2
    exact FIN.out
  · obtain ⟨ev, hev1, hev2⟩ := HS.out.later hb
    have HB : Hid (Below w.heap.size w (Lib.bytesWorld w 5 s)) := hb
    clear hb
    generalize Lib.bytesWorld w 5 s = w1 at *
    have HT : Hid (Calls Tryz.prog 75 #[.string ⟨#[80, 97, 114, 115, 101, 85, 105, 110, 116]⟩, .string s, .int .i64 16, .int .i64 8, .iface 128 (.int .i64 2)] w1 fun e w' => ∃ N, e = .returned (.iface 129 (.pointer (some ⟨N, 0, none⟩))) ∧ Below w1.heap.size w1 w') := by
      refine (Any.strconv_toError_syntax (ρ := Tryz.laysC174_ren) { Tryz.laysC174 with } ⟨#[80, 97, 114, 115, 101, 85, 105, 110, 116]⟩ s 16 8 ev w1 (by omega) hev1 hev2).mono ?_
      rintro e w' ⟨N, rfl, _, _, hb⟩
      exact ⟨N, rfl, hb⟩
    go_wp2_with fail
    refine HT.out.mono ?_
    rintro e w2 ⟨N, rfl, hb2⟩
    have FIN : Hid (PU w (.returned (.tuple #[.int .u64 0, .iface 129 (.pointer (some ⟨N, 0, none⟩))])) w2) := ⟨HB.out.trans (hb2.mono HB.out.size), .inr ⟨N, rfl⟩⟩
    clear hb2
    go_wp2
    go_ret2
    exact FIN.out

theorem slice_pair (s : ByteArray) (k : Nat) (h : k + 2 < s.size) (w : World) :
    (Instr.slice 9 (.string s) (some (.int .i64 ((k : Int) + 1))) (some (.int .i64 ((k : Int) + 3))) none).run Tryz.prog w = .ok (.string ⟨#[s[k + 1], s[k + 2]]⟩) w := by
  have hlen : s.data.toList.length = s.size := by simp
  have g : ∀ i (hi : i < s.size), s.data.toList[i]'(by omega) = s[i] := fun i hi => by simp [ByteArray.getElem_eq_getElem_data]
  have e : s.data.toList = s.data.toList.take k ++ s[k] :: s[k + 1] :: s[k + 2] :: s.data.toList.drop (k + 3) := by
    conv => lhs; rw [← List.take_append_drop k s.data.toList, List.drop_eq_getElem_cons (by omega), List.drop_eq_getElem_cons (by omega), List.drop_eq_getElem_cons (by omega)]
    rw [g k (by omega), g (k + 1) (by omega), g (k + 2) (by omega)]
  exact slice_two s k _ _ _ _ _ e (by rw [List.length_take]; omega) w
end Go.Proofs.YtodkekmfadfjkaaGreatDoor.Vl
