import Derived.Test.YtodkekmfadfjkaaGreatDoorSrC
import Derived.Test.YtodkekmfadfjkaaGreatDoorSrQ
import Derived.Test.YtodkekmfadfjkaaGreatDoorVRsI
import Derived.Test.YtodkekmfadfjkaaGreatDoorVlR
import Derived.Test.YtodkekmfadfjkaaGreatDoorVlS
namespace Go.Proofs.YtodkekmfadfjkaaGreatDoor
open Go.RowKit
set_option linter.unusedVariables false
set_option linter.unusedSimpArgs false
set_option maxRecDepth 100000

theorem slF (l : List UInt8) (i : Nat) (hi : i ≤ l.length) (w : World) : (Instr.slice 9 (.string ⟨l.toArray⟩) (some (.int .i64 (i : Int))) none none).run Tryz.prog w = .ok (.string ⟨(l.drop i).toArray⟩) w := by
  rw [run_slice_string_from_if w 9 ⟨l.toArray⟩ .i64 (i : Int) Tryz.underlying9]
  have hz : (⟨l.toArray⟩ : ByteArray).size = l.length := rfl
  rw [if_pos ⟨by omega, by rw [hz]; omega⟩]
  congr 2
  apply ByteArray.ext
  apply Array.toList_inj.1
  rw [ByteArray.data_extract, Array.toList_extract]
  simp [List.extract, hz]
  exact List.take_of_length_le (by simp)
theorem slT (l : List UInt8) (i : Nat) (hi : i ≤ l.length) (w : World) : (Instr.slice 9 (.string ⟨l.toArray⟩) none (some (.int .i64 (i : Int))) none).run Tryz.prog w = .ok (.string ⟨(l.take i).toArray⟩) w := by
  rw [run_slice_string_to_if w 9 ⟨l.toArray⟩ .i64 (i : Int) Tryz.underlying9]
  have hz : (⟨l.toArray⟩ : ByteArray).size = l.length := rfl
  rw [if_pos ⟨by omega, by rw [hz]; omega⟩]
  congr 2
  apply ByteArray.ext
  apply Array.toList_inj.1
  rw [ByteArray.data_extract, Array.toList_extract]
  simp [List.extract]
theorem slF1 (l : List UInt8) (i : Nat) (hi : i + 1 ≤ l.length) (w : World) : (Instr.slice 9 (.string ⟨l.toArray⟩) (some (.int .i64 ((i : Int) + 1))) none none).run Tryz.prog w = .ok (.string ⟨(l.drop (i + 1)).toArray⟩) w := by
  have q := slF l (i + 1) hi w
  rw [show ((i + 1 : Nat) : Int) = (i : Int) + 1 by omega] at q
  exact q
theorem slM (l : List UInt8) (i j : Nat) (hi : i ≤ j) (hj : j ≤ l.length) (w : World) : (Instr.slice 9 (.string ⟨l.toArray⟩) (some (.int .i64 (i : Int))) (some (.int .i64 (j : Int))) none).run Tryz.prog w = .ok (.string ⟨((l.drop i).take (j - i)).toArray⟩) w := by
  have hz : (⟨l.toArray⟩ : ByteArray).size = l.length := rfl
  rw [run_slice_string w 9 ⟨l.toArray⟩ .i64 .i64 (i : Int) (j : Int) Tryz.underlying9 (by omega) (by omega) (by rw [hz]; omega)]
  rw [Int.toNat_natCast, Int.toNat_natCast]
  congr 2
  apply ByteArray.ext
  apply Array.toList_inj.1
  rw [ByteArray.data_extract, Array.toList_extract]
/-- strings.Cut at a colon. -/
theorem cut_any (l : List UInt8) (w : World) (hs : l.length ≤ 4294967296) :
    Calls Tryz.prog 22 #[.string ⟨l.toArray⟩, .string ⟨#[58]⟩] w fun e w' => (∃ n, w' = w.drewN n) ∧ ∃ a b : List UInt8, ∃ f : Bool, e = .returned (.tuple #[.string ⟨a.toArray⟩, .string ⟨b.toArray⟩, .bool f]) ∧ 58 ∉ a ∧ ((l = a ++ 58 :: b) ∨ (l = a ∧ b = [])) := by
  have HI : Hid (∀ W, Calls Tryz.prog 56 #[.string ⟨l.toArray⟩, .string ⟨#[58]⟩] W fun e w' => e = .returned (.int .i64 (Lib.indexByte l 58)) ∧ w' = W) := fun W => Tryz.stringslite_Index_one ⟨l.toArray⟩ 58 W
  have HC : Hid (Calls Tryz.prog 38 #[.string ⟨l.toArray⟩, .string ⟨#[58]⟩] w fun e w' => (∃ n, w' = w.drewN n) ∧ ∃ a b : List UInt8, ∃ f : Bool, e = .returned (.tuple #[.string ⟨a.toArray⟩, .string ⟨b.toArray⟩, .bool f]) ∧ 58 ∉ a ∧ ((l = a ++ 58 :: b) ∨ (l = a ∧ b = []))) := by
    rcases ib_cases l 58 with ⟨e, h⟩ | ⟨a, b, e, h, q⟩
    · rw [e] at HI
      go_enter Tryz.func38, Tryz.ntmps38
      go_wp2_with fail
      refine (HI.out _).mono ?_
      rintro e w' ⟨rfl, hw⟩
      replace hw := hw.symm; subst hw
      go_wp2_with fail
      go_ret3
      exact ⟨⟨0, rfl⟩, l, [], false, rfl, h, .inr ⟨rfl, rfl⟩⟩
    · rw [q] at HI
      have hal : a.length + 1 ≤ l.length := by rw [e]; simp
      have s1 := slT l a.length (by omega)
      have s2 := slF1 l a.length (by omega)
      have ha : IntKind.i64.wrap ((a.length : Int) + 1) = (a.length : Int) + 1 := wi64 (by omega) (by omega)
      have hp : (0 : Int) ≤ (a.length : Int) := by omega
      have HZ : Hid (l.take a.length = a ∧ l.drop (a.length + 1) = b ∧ 58 ∉ a ∧ l = a ++ 58 :: b) := ⟨by rw [e]; simp, by rw [e]; simp, h, e⟩
      clear q h e
      go_enter Tryz.func38, Tryz.ntmps38
      go_wp2_with fail
      refine (HI.out _).mono ?_
      rintro e w' ⟨rfl, hw⟩
      replace hw := hw.symm; subst hw
      go_wp2_with fail
      go_quiet (fail)
      go_wp2_with fail
      go_ret3
      exact ⟨⟨_, rfl⟩, _, _, true, rfl, by rw [HZ.out.1]; exact HZ.out.2.2.1, .inl (by rw [HZ.out.1, HZ.out.2.1]; exact HZ.out.2.2.2)⟩
  clear HI
  go_enter Tryz.func22, Tryz.ntmps22
  go_wp2_with fail
  refine HC.out.mono ?_
  rintro e w' ⟨⟨n, rfl⟩, a, b, f, rfl, h1, h2⟩
  have HZ := hidMk (And.intro h1 h2)
  clear h1 h2 HC
  go_wp2_with fail
  go_ret3
  exact ⟨⟨n, rfl⟩, a, b, f, rfl, HZ.out.1, HZ.out.2⟩
/-- The program's cutter of values. -/
theorem cutV_any (l : List UInt8) (w : World) (hs : l.length ≤ 4294967296) :
    Calls Tryz.prog 24 #[.string ⟨l.toArray⟩] w fun e w' => (∃ n, w' = w.drewN n) ∧ e = .returned (.tuple #[.string ⟨(cutV l).1.toArray⟩, .string ⟨(cutV l).2.toArray⟩]) := by
  have HI : Hid (∀ W, Calls Tryz.prog 40 #[.string ⟨l.toArray⟩, .int .u8 44] W fun e w' => e = .returned (.int .i64 (Lib.indexByte l 44)) ∧ w' = W) := fun W => Tryz.strings_IndexByte ⟨l.toArray⟩ 44 W
  have HH : Hid (∀ W, Calls Tryz.prog 41 #[.string ⟨l.toArray⟩, .string ⟨#[39]⟩] W fun e w' => e = .returned (.bool (Lib.hasPrefix l [39])) ∧ w' = W) := fun W => Tryz.strings_HasPrefix ⟨l.toArray⟩ ⟨#[39]⟩ W
  have hz : (⟨l.toArray⟩ : ByteArray).size = l.length := rfl
  rcases Bool.eq_false_or_eq_true (Lib.hasPrefix l [39]) with hp | hp
  · have hl1 : 1 ≤ l.length := by
      cases l with
      | nil => simp [Lib.hasPrefix, List.isPrefixOf] at hp
      | cons => simp
    rw [hp] at HH
    have s0 : ∀ W, (Instr.slice 9 (.string ⟨l.toArray⟩) (some (.int .i64 1)) none none).run Tryz.prog W = .ok (.string ⟨(l.drop 1).toArray⟩) W := fun W => slF l 1 hl1 W
    have HJ : Hid (∀ W, Calls Tryz.prog 40 #[.string ⟨(l.drop 1).toArray⟩, .int .u8 39] W fun e w' => e = .returned (.int .i64 (Lib.indexByte (l.drop 1) 39)) ∧ w' = W) := fun W => Tryz.strings_IndexByte ⟨(l.drop 1).toArray⟩ 39 W
    have hI : -1 ≤ Lib.indexByte (l.drop 1) 39 ∧ Lib.indexByte (l.drop 1) 39 ≤ 4294967296 := by
      rcases ib_cases (l.drop 1) 39 with ⟨e, -⟩ | ⟨a, b, e, -, q⟩
      · omega
      · have := congrArg List.length e
        simp at this
        omega
    have HE : Hid (cutE l = Lib.indexByte (l.drop 1) 39 + 2) := by unfold Hid cutE; rw [if_pos hp]
    generalize l.drop 1 = T at *
    generalize Lib.indexByte T 39 = I at *
    generalize Lib.indexByte l 44 = I' at *
    obtain ⟨e, he⟩ : ∃ e : Nat, I + 2 = (e : Int) := ⟨(I + 2).toNat, by omega⟩
    have hw2 : IntKind.i64.wrap (I + 2) = (e : Int) := (wi64 (by omega) (by omega)).trans he
    have hn : ¬ (e : Int) < 0 := by omega
    rw [he] at HE
    have he2 : (e : Int) ≤ 4294967298 := by omega
    clear hp hI he
    by_cases hge : (l.length : Int) ≤ (e : Int)
    · have HR : Hid (cutV l = (l, [])) := by unfold Hid cutV; rw [HE.out, if_pos (.inr hge)]
      have hge' : ¬ (e : Int) < (l.length : Int) := by omega
      go_enter Tryz.func24, Tryz.ntmps24
      go_wp2_with fail
      refine (HI.out _).mono ?_
      rintro e w' ⟨rfl, hw⟩
      replace hw := hw.symm; subst hw
      go_wp2_with fail
      refine (HH.out _).mono ?_
      rintro e w' ⟨rfl, hw⟩
      replace hw := hw.symm; subst hw
      go_wp2_with fail
      refine (HJ.out _).mono ?_
      rintro e w' ⟨rfl, hw⟩
      replace hw := hw.symm; subst hw
      go_wp2_with fail
      go_ret2
      exact ⟨⟨0, rfl⟩, by rw [HR.out]; rfl⟩
    · have HR : Hid (cutV l = (l.take e, l.drop (e + 1))) := by unfold Hid cutV; rw [HE.out, if_neg (by omega), Int.toNat_natCast]
      have hlt : (e : Int) < (l.length : Int) := by omega
      have s1 := slT l e (by omega)
      have s2 := slF1 l e (by omega)
      have ha : IntKind.i64.wrap ((e : Int) + 1) = (e : Int) + 1 := wi64 (by omega) (by omega)
      go_enter Tryz.func24, Tryz.ntmps24
      go_wp2_with fail
      refine (HI.out _).mono ?_
      rintro e w' ⟨rfl, hw⟩
      replace hw := hw.symm; subst hw
      go_wp2_with fail
      refine (HH.out _).mono ?_
      rintro e w' ⟨rfl, hw⟩
      replace hw := hw.symm; subst hw
      go_wp2_with fail
      refine (HJ.out _).mono ?_
      rintro e w' ⟨rfl, hw⟩
      replace hw := hw.symm; subst hw
      go_wp2_with fail
      go_quiet (fail)
      go_wp2_with fail
      go_ret2
      exact ⟨⟨_, rfl⟩, by rw [HR.out]; rfl⟩
  · rw [hp] at HH
    have HE : Hid (cutE l = Lib.indexByte l 44) := by unfold Hid cutE; rw [if_neg (by rw [hp]; decide)]
    have hI : Lib.indexByte l 44 = -1 ∨ ∃ e : Nat, Lib.indexByte l 44 = (e : Int) ∧ e < l.length := by
      rcases ib_cases l 44 with ⟨e, -⟩ | ⟨a, b, e, -, q⟩
      · exact .inl e
      · exact .inr ⟨a.length, q, by have := congrArg List.length e; simp at this; omega⟩
    rcases hI with e | ⟨e, hI, hlt⟩
    · rw [e] at HE HI
      have HR : Hid (cutV l = (l, [])) := by unfold Hid cutV; rw [HE.out, if_pos (.inl (by decide))]
      clear hp e
      go_enter Tryz.func24, Tryz.ntmps24
      go_wp2_with fail
      refine (HI.out _).mono ?_
      rintro e w' ⟨rfl, hw⟩
      replace hw := hw.symm; subst hw
      go_wp2_with fail
      refine (HH.out _).mono ?_
      rintro e w' ⟨rfl, hw⟩
      replace hw := hw.symm; subst hw
      go_wp2_with fail
      go_ret2
      exact ⟨⟨0, rfl⟩, by rw [HR.out]; rfl⟩
    · rw [hI] at HE HI
      have hlt' : (e : Int) < (l.length : Int) := by omega
      have hn : ¬ (e : Int) < 0 := by omega
      have hge : ¬ (l.length : Int) ≤ (e : Int) := by omega
      have HR : Hid (cutV l = (l.take e, l.drop (e + 1))) := by unfold Hid cutV; rw [HE.out, if_neg (by omega), Int.toNat_natCast]
      have s1 := slT l e (by omega)
      have s2 := slF1 l e (by omega)
      have ha : IntKind.i64.wrap ((e : Int) + 1) = (e : Int) + 1 := wi64 (by omega) (by omega)
      clear hp hI
      go_enter Tryz.func24, Tryz.ntmps24
      go_wp2_with fail
      refine (HI.out _).mono ?_
      rintro e w' ⟨rfl, hw⟩
      replace hw := hw.symm; subst hw
      go_wp2_with fail
      refine (HH.out _).mono ?_
      rintro e w' ⟨rfl, hw⟩
      replace hw := hw.symm; subst hw
      go_wp2_with fail
      go_quiet (fail)
      go_wp2_with fail
      go_ret2
      exact ⟨⟨_, rfl⟩, by rw [HR.out]; rfl⟩
end Go.Proofs.YtodkekmfadfjkaaGreatDoor
