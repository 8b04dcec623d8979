import Derived.Test.YtodkekmfadfjkaaGreatDoorVShwQ
import Derived.Deep.AppendLies
import Derived.Laws.OwnMore
import Derived.OwnWalk
import Derived.WideShapes
import Derived.Laws.IdiomStrings
namespace Go.Proofs.YtodkekmfadfjkaaGreatDoor.Vl
open Go.RowKit
set_option linter.unusedVariables false
attribute [local go_sem ↓] Go.wp_at_zero Go.wp_at_succ

def u8v (c : UInt8) : Value := .int .u8 (c.toNat : Int)

theorem bare_any (c : UInt8) (w : World) : Calls Tryz.prog 55 #[.int .u8 (c.toNat : Int)] w fun e w' => e = .returned (.bool (bareB c)) ∧ w' = w := by
  have t1 : (0 : Int) ≤ (c.toNat : Int) := by omega
  have t2 : (c.toNat : Int) ≤ 255 := by have := UInt8.toNat_lt c; omega
  rcases bare_cases c with ⟨hb, c1, c2, c3, c4⟩ | ⟨hb, c1⟩ | ⟨hb, c1, c2⟩ | ⟨hb, c1, c2, c3⟩ | ⟨hb, c1, c2, c3, c4⟩
  · have HB : Hid (bareB c = true) := hb
    have d3 : ((c.toNat : Int) != 39) = true := by rw [bne, c3]; rfl
    have d4 : ((c.toNat : Int) != 92) = true := by rw [bne, c4]; rfl
    clear hb c3 c4
    go_enter Tryz.func55, Tryz.ntmps55
    go_wp2
    go_ret
    exact ⟨by rw [HB.out]; rfl, rfl⟩
  · have HB : Hid (bareB c = false) := hb
    clear hb
    go_enter Tryz.func55, Tryz.ntmps55
    go_wp2
    go_ret
    exact ⟨by rw [HB.out]; rfl, rfl⟩
  · have HB : Hid (bareB c = false) := hb
    clear hb
    go_enter Tryz.func55, Tryz.ntmps55
    go_wp2
    go_ret
    exact ⟨by rw [HB.out]; rfl, rfl⟩
  · have HB : Hid (bareB c = false) := hb
    have d3 : ((c.toNat : Int) != 39) = false := by rw [bne, c3]; rfl
    clear hb c3
    go_enter Tryz.func55, Tryz.ntmps55
    go_wp2
    go_ret
    exact ⟨by rw [HB.out]; rfl, rfl⟩
  · have HB : Hid (bareB c = false) := hb
    have d3 : ((c.toNat : Int) != 39) = true := by rw [bne, c3]; rfl
    have d4 : ((c.toNat : Int) != 92) = false := by rw [bne, c4]; rfl
    clear hb c3 c4
    go_enter Tryz.func55, Tryz.ntmps55
    go_wp2
    go_ret
    exact ⟨by rw [HB.out]; rfl, rfl⟩

theorem and15 (n : Nat) (h : n < 256) : bits .and .u8 (n : Int) 15 = (n : Int) % 16 := by
  revert n; decide +kernel
theorem index_nat (d : Nat) (h1 : d < 16) (w : World) :
    (Instr.index 9 (.string ⟨#[48, 49, 50, 51, 52, 53, 54, 55, 56, 57, 97, 98, 99, 100, 101, 102]⟩) (.int .u8 (d : Int))).run Tryz.prog w = .ok (u8v (hexd d)) w := by
  have : d = 0 ∨ d = 1 ∨ d = 2 ∨ d = 3 ∨ d = 4 ∨ d = 5 ∨ d = 6 ∨ d = 7 ∨ d = 8 ∨ d = 9 ∨ d = 10 ∨ d = 11 ∨ d = 12 ∨ d = 13 ∨ d = 14 ∨ d = 15 := by omega
  rcases this with rfl | rfl | rfl | rfl | rfl | rfl | rfl | rfl | rfl | rfl | rfl | rfl | rfl | rfl | rfl | rfl
  all_goals (show Sem.run Tryz.prog _ w = _; kernel_rfl)
theorem index_hi (c : UInt8) (w : World) :
    (Instr.index 9 (.string ⟨#[48, 49, 50, 51, 52, 53, 54, 55, 56, 57, 97, 98, 99, 100, 101, 102]⟩) (.int .u8 ((c.toNat : Int) / 16))).run Tryz.prog w = .ok (.int .u8 ((hexd (c.toNat / 16)).toNat : Int)) w :=
  index_nat (c.toNat / 16) (by have := UInt8.toNat_lt c; omega) w
theorem index_lo (c : UInt8) (w : World) :
    (Instr.index 9 (.string ⟨#[48, 49, 50, 51, 52, 53, 54, 55, 56, 57, 97, 98, 99, 100, 101, 102]⟩) (.int .u8 ((c.toNat : Int) % 16))).run Tryz.prog w = .ok (.int .u8 ((hexd (c.toNat % 16)).toNat : Int)) w :=
  index_nat (c.toNat % 16) (by omega) w
attribute [local go_sem ↓] index_hi index_lo

theorem info5 : (Tryz.prog.info? 5).map (fun i => (i.zero, i.size, i.bytes)) = some (some (.int .u8 0), 1, 1) := by kernel_rfl

theorem conv_own {w1 : World} {B g n cap : Nat} (l : List UInt8) (h : w1.ownsRow B 5 1 (.slice (some ⟨g, 0, none⟩) n cap) n (l.map u8v)) :
    (convert 46 9 (.slice (some ⟨g, 0, none⟩) n cap)).run Tryz.prog w1 = .ok (.string ⟨l.toArray⟩) w1 := by
  have hn : l.length = n := by have := h.1; simpa using this
  subst hn
  refine run_convert_bytes_back w1 46 9 5 ⟨g, 0, none⟩ cap l Tryz.underlying46 Tryz.underlying5 Tryz.underlying9 ?_
  intro j hj
  have := h.cellAt j (by omega)
  rw [Go.WideShapes.add_plain, Nat.zero_add, this]
  simp [hj, u8v]

set_option maxRecDepth 100000 in
set_option maxHeartbeats 1000000 in
theorem quoted_any (t : ByteArray) (w : World) (h : t.size ≤ 60) :
    Calls Tryz.prog 35 #[.string t] w fun e w' => e = .returned (.string ⟨(39 :: escAll t.data.toList ++ [39]).toArray⟩) ∧ Below w.heap.size w w' := by
  obtain ⟨i0, hi0, hz0, hz1, hz2⟩ := info_parts info5
  go_enter Tryz.func35, Tryz.ntmps35
  go_wp2
  go_loopw [3, 9] (fun v i w' => ∃ k : Nat, k ≤ t.size ∧ i = .int .i64 k ∧ w'.ownsRow w.heap.size 5 1 v (1 + (escAll (t.data.toList.take k)).length) ((39 :: escAll (t.data.toList.take k)).map u8v) ∧ Below w.heap.size w w') (fun _ i _ => t.size - (intOf i).toNat)
  case atStart => exact ⟨0, Nat.zero_le _, rfl, World.ownsRow_lit w #[.int .u8 39] 1 (Nat.le_refl _) (by decide) rfl, (Below.refl _ _).alloc (Nat.le_refl _) _⟩
  case round =>
    obtain ⟨k, hk, rfl, hown, hb⟩ := hrel
    have hbs := hb.size
    by_cases hlt : k < t.size
    · have hi : (k : Int) < (t.size : Int) := by omega
      have hl := escAll_len (t.data.toList.take k)
      have hll : (t.data.toList.take k).length ≤ k := List.length_take_le _ _
      have HX : (escAll (t.data.toList.take k)).length ≤ 180 := by omega
      have HE : Hid (escAll (t.data.toList.take (k + 1)) = escAll (t.data.toList.take k) ++ esc t[k]) := by unfold Hid; rw [take_snoc t k hlt, escAll_snoc]
      clear hl hll
      generalize hXX : escAll (t.data.toList.take k) = X at *
      clear hXX
      have t1 : (0 : Int) ≤ (t[k].toNat : Int) := by omega
      have t2 : (t[k].toNat : Int) ≤ 255 := by have := UInt8.toNat_lt t[k]; omega
      cases hbr : bareB t[k] with
      | true =>
        have HE' : Hid (escAll (t.data.toList.take (k + 1)) = X ++ [t[k]]) := by unfold Hid; rw [HE.out]; unfold esc; rw [if_pos hbr]
        have HO : Hid (wr.ownsRow w.heap.size 5 1 u3 (1 + X.length) ((39 :: X).map u8v)) := hown
        clear HE hown
        go_wp2_with (first
          | (go_at_call 55; refine (bare_any _ _).mono ?_; rw [hbr]; rintro e w2 ⟨rfl, hw2⟩; have hw3 := hw2.symm; subst hw3)
          | (at_builtin; refine wpList_append_own _ rfl _ _ 46 rfl w.heap.size 5 i0 (.int .u8 0) 1 1 Tryz.underlying46 hi0 hz0 hz1 hz2 rfl (by decide) _ _ _ rfl (HO.out.alloc _) ⟨wr.heap.size, 0, none⟩ 1 1 [u8v t[k]] rfl rfl ?c1 ?c2 ?c3 ?c4 ?c5 ?_))
        case c1 =>
          intro j u hj
          match j, hj with
          | 0, hj => simp at hj; subst hj; simp [Addr.add, u8v]
        case c2 => intro u hu; simp at hu; subst hu; rfl
        case c3 => unfold maxLen; omega
        case c4 => omega
        case c5 => simp; omega
        · intro v' w1 hown' hgrow _
          have hB : Below w.heap.size w w1 := (hb.alloc hbs _).grown hgrow (by simp; omega) (fun j hj => (HO.out.lt j hj).1)
          have HO' : Hid (w1.ownsRow w.heap.size 5 1 v' (1 + (X ++ [t[k]]).length) ((39 :: (X ++ [t[k]])).map u8v)) := by unfold Hid; simpa [Nat.add_assoc] using hown'
          clear hown' hgrow HO hb
          go_wp2
          go_roundw
          case rel => exact ⟨k + 1, by omega, by go_num, by rw [HE'.out]; exact HO'.out, hB⟩
          case measure => simp [intOf]; omega
      | false =>
        have HE' : Hid (escAll (t.data.toList.take (k + 1)) = X ++ [92, hexd (t[k].toNat / 16), hexd (t[k].toNat % 16)]) := by unfold Hid; rw [HE.out]; unfold esc; rw [if_neg (by simp [hbr])]
        have HO : Hid (wr.ownsRow w.heap.size 5 1 u3 (1 + X.length) ((39 :: X).map u8v)) := hown
        have ha := and15 t[k].toNat (UInt8.toNat_lt _)
        clear HE hown
        go_wp2_with (first | (go_at_call 55; refine (bare_any _ _).mono ?_; rw [hbr]; rintro e w2 ⟨rfl, hw2⟩; have hw3 := hw2.symm; subst hw3) | (at_builtin; fail))
        go_region_held3 (fun _ => True) (trivial) ((refine step_append_lies _ (by rfl) _ _ 46 (by rfl) w.heap.size 5 i0 (.int .u8 0) 1 1 Tryz.underlying46 hi0 hz0 hz1 hz2 rfl (by decide) u3 (1 + X.length) ((39 :: X).map u8v) (by rfl) (HO.out.drew.alloc _) ⟨wr.heap.size, 0, none⟩ 3 3 [u8v 92, u8v (hexd (t[k].toNat / 16)), u8v (hexd (t[k].toNat % 16))] (by rfl) (by rfl) (by intro j u hj; match j, hj with | 0, hj => (simp at hj; subst hj; simp [Addr.add, u8v]) | 1, hj => (simp at hj; subst hj; simp [Addr.add, u8v]) | 2, hj => (simp at hj; subst hj; simp [Addr.add, u8v])) (by intro u hu; simp at hu; rcases hu with rfl | rfl | rfl <;> rfl) (by decide) (by unfold maxLen; omega) (by omega) (by simp; omega) _ rfl ?_; intro g cap w1 hown' hgrow hat hlt1))
        all_goals
          have hB : Below w.heap.size w w1 := (hb.drew.alloc hbs _).grown hgrow (by simp; omega) (fun j hj => (HO.out.lt j hj).1)
          have HO' : Hid (w1.ownsRow w.heap.size 5 1 (Value.slice (some ⟨g, 0, none⟩) (1 + X.length + 3) cap) (1 + (X ++ [92, hexd (t[k].toNat / 16), hexd (t[k].toNat % 16)]).length) ((39 :: (X ++ [92, hexd (t[k].toNat / 16), hexd (t[k].toNat % 16)])).map u8v)) := by unfold Hid; simpa [Nat.add_assoc] using hown'
          clear hown' hgrow HO hb hat
          go_wp2
          go_roundw
          case rel => exact ⟨k + 1, by omega, by go_num, by rw [HE'.out]; exact HO'.out, hB⟩
          case measure => simp [intOf]; omega
    · have HF : Hid (escAll (t.data.toList.take k) = escAll t.data.toList) := by unfold Hid; rw [List.take_of_length_le (by simp; omega)]
      have hl := escAll_len (t.data.toList.take k)
      have hll : (t.data.toList.take k).length ≤ k := List.length_take_le _ _
      have HX : (escAll (t.data.toList.take k)).length ≤ 180 := by omega
      clear hl hll
      generalize hXX : escAll (t.data.toList.take k) = X at *
      clear hXX
      have HO : Hid (wr.ownsRow w.heap.size 5 1 u3 (1 + X.length) ((39 :: X).map u8v)) := hown
      clear hown
      go_wp2_with (first
          | (at_builtin; refine wpList_append_lies _ rfl _ _ 46 rfl w.heap.size 5 i0 (.int .u8 0) 1 1 Tryz.underlying46 hi0 hz0 hz1 hz2 rfl (by decide) u3 (1 + X.length) ((39 :: X).map u8v) rfl (HO.out.alloc _) ⟨wr.heap.size, 0, none⟩ 1 1 [u8v 39] rfl rfl (by intro j u hj; match j, hj with | 0, hj => (simp at hj; subst hj; simp [Addr.add, u8v])) (by intro u hu; simp at hu; subst hu; rfl) (by decide) (by unfold maxLen; omega) (by omega) (by simp; omega) _ rfl ?_; intro g cap w1 hown' hgrow hat hlt1; have hcv := conv_own (39 :: (X ++ [39])) (by simpa using hown')))
      have hB : Below w.heap.size w w1 := (hb.alloc hbs _).grown hgrow (by simp; omega) (fun j hj => (HO.out.lt j hj).1)
      go_ret
      exact ⟨ret_str' (by rw [← HF.out]), hB⟩
end Go.Proofs.YtodkekmfadfjkaaGreatDoor.Vl
