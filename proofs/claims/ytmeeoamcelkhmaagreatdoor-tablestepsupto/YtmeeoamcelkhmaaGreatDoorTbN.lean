import Derived.Test.YtmeeoamcelkhmaaGreatDoorTbM
namespace Go.Proofs.YtmeeoamcelkhmaaGreatDoor
open Go.RowKit Go.Maps
set_option linter.unusedVariables false
set_option linter.unusedSimpArgs false
set_option maxRecDepth 100000

theorem infoF : (Tryz.prog.info? 45).map (fun i => (i.zero, i.size, i.bytes)) = some (some (.agg #[.int .i64 0, .string ⟨#[]⟩, .int .i64 0, .slice none 0 0]), 4, 56) := by kernel_rfl
theorem szF (W : World) : (sizeOf (Tryz.prog.elem 25)).run Tryz.prog W = .ok 4 W := by
  rw [show Tryz.prog.elem 25 = 45 by kernel_rfl]; exact Tryz.sizeOf45 W
theorem slF_hi (g n c k : Nat) (hk : k ≤ c) (W : World) :
    (Instr.slice 25 (.slice (some ⟨g, 0, none⟩) n c) none (some (.int .i64 (k : Int))) none).run Tryz.prog W = .ok (.slice (some ⟨g, 0, none⟩) k c) W := by
  rw [run_slice_h (P := Tryz.prog) W 25 (some ⟨g, 0, none⟩) n c (Tryz.underlying25.trans (by kernel_rfl)) .i64 _ (by omega) (by omega), Int.toNat_natCast, szF]
  simp only [Result.andThen, sliced, Option.map]
  rw [show ∀ j, (Addr.mk g 0 none).add j = Addr.mk g (0 + j) none from fun j => WideShapes.add_plain ..]
  simp
theorem slF_lo (g n c k o : Nat) (hk : k + 1 ≤ n) (hn : n ≤ c) (ho : o = if c = k + 1 then 0 else (k + 1) * 4) (W : World) :
    (Instr.slice 25 (.slice (some ⟨g, 0, none⟩) n c) (some (.int .i64 ((k : Int) + 1))) none none).run Tryz.prog W = .ok (.slice (some ⟨g, o, none⟩) (n - (k + 1)) (c - (k + 1))) W := by
  rw [run_slice_l (P := Tryz.prog) W 25 (some ⟨g, 0, none⟩) n c (Tryz.underlying25.trans (by kernel_rfl)) .i64 _ (by omega) (by omega), show ((k : Int) + 1).toNat = k + 1 by omega, szF]
  simp only [Result.andThen, sliced, Option.map]
  rw [show ∀ j, (Addr.mk g 0 none).add j = Addr.mk g (0 + j) none from fun j => WideShapes.add_plain .., ho]
  split <;> simp
theorem atF (v : Value) (lo hi : Option Value) (W : World) : (Instr.sliceAt 25 v lo hi none).run Tryz.prog W = (Instr.slice 25 v lo hi none).run Tryz.prog W :=
  run_sliceAt_slice W 25 _ _ _ _ (Tryz.underlying25.trans (by kernel_rfl))
theorem one_cellsL (f : Hp) : ∀ u ∈ cellsL f, u.oneCell' = true := by
  intro u hu; simp [cellsL] at hu; rcases hu with rfl | rfl | rfl | rfl <;> rfl
theorem flatF_len (fs : List Hp) : (fs.flatMap cellsL).length = fs.length * 4 := by
  induction fs with
  | nil => rfl
  | cons f fs ih => rw [List.flatMap_cons, List.length_append, ih, List.length_cons]; simp [cellsL]; omega
theorem flatF_one (fs : List Hp) : ∀ u ∈ fs.flatMap cellsL, u.oneCell' = true := fun u hu => by
  obtain ⟨f, _, hf⟩ := List.mem_flatMap.1 hu
  exact one_cellsL f u hf
/-- The cells of a part of the list. -/
theorem LH.part {w : World} {B g c : Nat} {fs : List Hp} (h : LH w B (.slice (some ⟨g, 0, none⟩) fs.length c) fs) (lo n : Nat) (hn : lo + n ≤ fs.length) : ∀ j u, (((fs.drop lo).take n).flatMap cellsL)[j]? = some u → w.cell? (Addr.add ⟨g, lo * 4, none⟩ j) = some u := by
  intro j u hj
  have hjl := (List.getElem?_eq_some_iff.1 hj).1
  rw [flatF_len, List.length_take, List.length_drop] at hjl
  have hd : j = j / 4 * 4 + j % 4 := by omega
  have h3 : j / 4 < ((fs.drop lo).take n).length := by rw [List.length_take, List.length_drop]; omega
  rw [WideShapes.add_plain]
  rw [hd, flat_at cellsL 4 (fun _ => rfl) _ (j / 4) (j % 4) h3 (Nat.mod_lt _ (by decide))] at hj
  rw [World.ownsRow.cellAt h (lo * 4 + j) (by omega), show lo * 4 + j = (lo + j / 4) * 4 + j % 4 by omega, flat_at cellsL 4 (fun _ => rfl) fs (lo + j / 4) (j % 4) (by omega) (Nat.mod_lt _ (by decide)), ← hj]
  simp

set_option maxHeartbeats 4000000 in
theorem without_any (w : World) (B : Nat) (x : Value) (fs : List Hp) (k : Nat) (h : LH w B x fs) (hn : fs.length ≤ 1099511627776) (hk : k < fs.length) :
    Calls Tryz.prog 10 #[x, .int .i64 (k : Int)] w fun e w' => ∃ x', e = .returned x' ∧ LH w' w.heap.size x' (fs.take k ++ fs.drop (k + 1)) ∧ Below w.heap.size w w' := by
  obtain ⟨i0, hi0, hz0, hz1, hz2⟩ := info_parts infoF
  obtain ⟨a, c, rfl, hcase⟩ := h.form
  obtain ⟨g, rfl, hBg, hgl, hc, -⟩ : ∃ g, a = some ⟨g, 0, none⟩ ∧ B ≤ g ∧ g < w.heap.size ∧ fs.length ≤ c ∧ True := by
    rcases hcase with ⟨h1, -⟩ | ⟨g, h1, h2, h3, h4⟩
    · rw [h1] at hk; simp at hk
    · exact ⟨g, h1, h2, h3, h4, trivial⟩
  have HL := hidMk h
  obtain ⟨o, ho⟩ : ∃ o, o = if c = k + 1 then 0 else (k + 1) * 4 := ⟨_, rfl⟩
  have s1 : (Instr.slice 25 (.slice (some ⟨g, 0, none⟩) fs.length c) none (some (.int .i64 (k : Int))) none).run Tryz.prog w = .ok (.slice (some ⟨g, 0, none⟩) k c) w := slF_hi g fs.length c k (by omega) w
  have s2 := atF (.slice (some ⟨g, 0, none⟩) fs.length c) none (some (.int .i64 (k : Int))) w
  rw [s1] at s2
  have S3 : Hid (∀ W, (Instr.slice 25 (.slice (some ⟨g, 0, none⟩) fs.length c) (some (.int .i64 ((k : Int) + 1))) none none).run Tryz.prog W = .ok (.slice (some ⟨g, o, none⟩) (fs.length - (k + 1)) (c - (k + 1))) W) := slF_lo g fs.length c k o hk hc ho
  have HO := hidMk ho
  clear h hcase ho
  have htk : (fs.take k).length = k := by rw [List.length_take]; omega
  have hdk : (fs.drop (k + 1)).length = fs.length - (k + 1) := List.length_drop
  go_enter Tryz.func10, Tryz.ntmps10
  go_wp2_with (first
    | (at_builtin; refine wpList_append_own_at _ rfl _ _ 25 rfl w.heap.size 45 i0 (.agg #[.int .i64 0, .string ⟨#[]⟩, .int .i64 0, .slice none 0 0]) 4 56 Tryz.underlying25 hi0 hz0 hz1 hz2 rfl (by decide) (.slice none 0 0) 0 [] rfl (World.ownsRow_nil _ _ _ _) ⟨g, 0, none⟩ k c ((fs.take k).flatMap cellsL) rfl ?c0 ?c1 ?c2 ?c3 ?c4 ?c5 ?_))
  case c0 => rw [flatF_len, htk]
  case c1 =>
    have := HL.out.part 0 k (by omega)
    rw [List.drop_zero, Nat.zero_mul] at this
    exact this
  case c2 => exact flatF_one _
  case c3 => unfold maxLen; omega
  case c4 => omega
  case c5 => exact Nat.le_refl _
  intro v1 w1 hown hgrow _ hat
  have hb1 : Below w.heap.size w w1 := ⟨hgrow.os, hgrow.tape, hgrow.output, hgrow.size, fun i hi => hgrow.block i hi (by simp [Value.ownBlock])⟩
  have HL1 : Hid (LH w1 B (.slice (some ⟨g, 0, none⟩) fs.length c) fs) := own_later HL.out hb1
  have HOW := hidMk hown
  have HB1 := hidMk hb1
  have hs1 := hb1.size
  have s3 := S3.out w1
  have s4 := atF (.slice (some ⟨g, 0, none⟩) fs.length c) (some (.int .i64 ((k : Int) + 1))) none w1
  rw [s3] at s4
  obtain ⟨a1, c1, rfl⟩ := row_form hown
  have HFAR : Hid (∀ j, (Value.slice a1 k c1).ownBlock = some j → w.heap.size ≤ j) := fun j hj => (World.ownsRow.lt HOW.out j hj).1
  clear hown hgrow hat hb1 S3
  have hkk : IntKind.i64.wrap ((k : Int) + 1) = (k : Int) + 1 := wi64 (by omega) (by omega)
  go_wp2_with (first
    | (at_builtin; refine wpList_append_own_at _ rfl _ _ 25 rfl w.heap.size 45 i0 (.agg #[.int .i64 0, .string ⟨#[]⟩, .int .i64 0, .slice none 0 0]) 4 56 Tryz.underlying25 hi0 hz0 hz1 hz2 rfl (by decide) _ k ((fs.take k).flatMap cellsL) rfl HOW.out ⟨g, o, none⟩ (fs.length - (k + 1)) (c - (k + 1)) ((fs.drop (k + 1)).flatMap cellsL) rfl ?c0 ?c1 ?c2 ?c3 ?c4 ?c5 ?_))
  case c0 => rw [flatF_len, hdk]
  case c1 =>
    by_cases hck : c = k + 1
    · have : fs.drop (k + 1) = [] := List.drop_eq_nil_of_le (by omega)
      rw [this]; intro j u hj; cases hj
    · have := HL1.out.part (k + 1) (fs.length - (k + 1)) (by omega)
      rw [HO.out, if_neg hck]
      rw [List.take_of_length_le (by rw [hdk]; exact Nat.le_refl _)] at this
      exact this
  case c2 => exact flatF_one _
  case c3 => unfold maxLen; omega
  case c4 => omega
  case c5 => omega
  intro v2 w2 hown hgrow _ hat
  have HX : Hid (LH w2 w.heap.size v2 (fs.take k ++ fs.drop (k + 1))) := by
    unfold Hid LH
    rw [List.length_append, htk, hdk, List.flatMap_append]; exact hown
  have HB2 : Hid (Below w.heap.size w w2) := HB1.out.trans ⟨hgrow.os, hgrow.tape, hgrow.output, hgrow.size, fun i hi => hgrow.block i (by omega) (fun e => by have := HFAR.out i e.symm; omega)⟩
  clear hown hgrow hat
  go_wp2_with fail
  go_ret
  exact ⟨v2, rfl, HX.out, HB2.out⟩
end Go.Proofs.YtmeeoamcelkhmaaGreatDoor
