import Derived.Test.YtodkekmfadfjkaaGreatDoorSrA
import Derived.Test.YtodkekmfadfjkaaGreatDoorSrP
namespace Go.Proofs.YtodkekmfadfjkaaGreatDoor
open Go.RowKit
set_option linter.unusedVariables false
set_option linter.unusedSimpArgs false
set_option maxRecDepth 100000

theorem cells_app (l m : List UInt8) : Lib.byteCells l ++ Lib.byteCells m = Lib.byteCells (l ++ m) := by simp [Lib.byteCells]
theorem Bu.later {B b : Nat} {bs : List Value} {w w' : World} (h : BuA B b bs w) (hb : Below w.heap.size w w') : BuA B b bs w' := by
  obtain ⟨h1, v, h2, h3, h4⟩ := h
  exact ⟨h1, v, by rw [hb.block b (lt_heap h2)]; exact h2, own_later h3 hb, h4⟩
theorem bu_later {B b : Nat} {bs : List Value} {w w' : World} (h : Bu B b bs w) (hb : Below w.heap.size w w') : Bu B b bs w' := by
  rcases h with ⟨h1, v, h2, h3, h4⟩ | ⟨h1, v, h2, h3, h4⟩
  · exact .inl ⟨h1, v, by rw [hb.block b (lt_heap h2)]; exact h2, own_later h3 hb, h4⟩
  · exact .inr ⟨h1, v, by rw [hb.block b (lt_heap h2)]; exact h2, own_later h3 hb, h4⟩
theorem heap_new (w : World) (o : Obj) : (w.alloc o).heap[w.heap.size]? = some o := by unfold World.alloc; simp
theorem bu_new (w : World) : Bu w.heap.size w.heap.size [] (w.alloc (.cells #[.pointer none, .slice none 0 0] 48)) :=
  .inl ⟨Nat.le_refl _, .slice none 0 0, heap_new _ _, World.ownsRow_nil _ _ _ _, by simp [Value.ownBlock]⟩
theorem cells_kp {b i : Nat} {w w' : World} {cs : Array Value} {T : TypeId} {fr : Nat × Nat} (h : Kp b w w') (h1 : i ≠ b) (h2 : T ≠ 5) (h3 : w.heap[i]? = some (.cells cs T fr)) (j : Nat) : w'.cell? ⟨i, j, none⟩ = w.cell? ⟨i, j, none⟩ := by
  apply World.cell?_of_block
  rw [h i cs T fr h1 h2 h3, h3]

set_option maxHeartbeats 4000000 in
theorem show_run (t : Int) (vs : List V) (a : Option Addr) (c : Nat) (w : World) (hl : VLies w a vs) (hf : ∀ v ∈ vs, FitV v) (hn : vs.length ≤ 1073741824) (ht0 : -9223372036854775808 ≤ t) (ht1 : t ≤ 9223372036854775807) (ht : Vl.Tab w) :
    Calls Tryz.prog 9 #[.agg #[.int .i64 t, .slice a vs.length c]] w fun e w' => e = .returned (.string ⟨(showR t vs).toArray⟩) ∧ Below w.heap.size w w' := by
  have HL := hidMk hl
  have HF := hidMk hf
  have HT := hidMk ht
  have HTL := hidMk (tl_len vs hf)
  have HIL := hidMk (Lib.itoa_length_le t ht0 ht1)
  have HFI : Hid (∀ W, Below w.heap.size w W → Calls Tryz.prog 17 #[.int .i64 t, .int .i64 10] W fun e w' => e = .returned (.string ⟨(Lib.itoa t).toArray⟩) ∧ Below W.heap.size W w') := fun W hW => by
    refine (Tryz.strconv_FormatInt_10 t ht0 ht1 W (HT.out.later hW)).mono ?_
    rintro e w' ⟨rfl, k, os, rfl⟩
    exact ⟨rfl, Vl.below_grow W k os⟩
  have HB0 := hidMk (bu_new (w.alloc (.cells #[.int .i64 t, .slice a vs.length c] 24)))
  rw [show (w.alloc (.cells #[.int .i64 t, .slice a vs.length c] 24)).heap.size = w.heap.size + 1 by simp] at HB0
  have HBL := hidMk (Vl.bel2 w (.cells #[.int .i64 t, .slice a vs.length c] 24) (.cells #[.pointer none, .slice none 0 0] 48))
  have HR0 := hidMk (show ((w.alloc (.cells #[.int .i64 t, .slice a vs.length c] 24)).alloc (.cells #[.pointer none, .slice none 0 0] 48)).heap[w.heap.size]? = some (.cells #[.int .i64 t, .slice a vs.length c] 24 (0, 0)) from by rw [(bel1 _ _).block _ (by simp)]; exact heap_new _ _)
  clear hl hf ht
  go_enter Tryz.func9, Tryz.ntmps9
  go_wp2_with fail
  generalize (w.alloc (.cells #[.int .i64 t, .slice a vs.length c] 24)).alloc (.cells #[.pointer none, .slice none 0 0] 48) = W0 at *
  refine (HFI.out W0 HBL.out).mono ?_
  rintro e w1 ⟨rfl, b1⟩
  have HB1 : Hid (Bu (w.heap.size + 1) (w.heap.size + 1) [] w1) := bu_later HB0.out b1
  have HW1 := hidMk (HBL.out.trans (b1.mono HBL.out.size))
  have HR1 : Hid (w1.heap[w.heap.size]? = some (.cells #[.int .i64 t, .slice a vs.length c] 24 (0, 0))) := by rw [Hid, b1.block _ (lt_heap HR0.out)]; exact HR0.out
  have hz0 := lt_heap HR1.out
  have hsI : (⟨(Lib.itoa t).toArray⟩ : ByteArray).size = (Lib.itoa t).length := rfl
  clear b1 HB0 HBL HR0 HFI
  go_wp2_with fail
  refine (wrStr (w.heap.size + 1) (w.heap.size + 1) [] ⟨(Lib.itoa t).toArray⟩ w1 HB1.out (by rw [hsI, List.length_nil]; have := HIL.out; omega) (by omega)).mono ?_
  rintro e w2 ⟨rfl, h2, b2, k2⟩
  have HB2 := hidMk h2
  have HW2 := hidMk (HW1.out.trans (b2.mono (by omega)))
  have HR2 := hidMk (k2 _ _ _ _ (by omega) (by decide) HR1.out)
  have hz2 := HW2.out.size
  have hz2' := lt_heap HR2.out
  clear h2 b2 k2 HR1 HW1 HB1
  go_wp2_with fail
  refine (wrByte (w.heap.size + 1) (w.heap.size + 1) _ 58 w2 (.inr HB2.out) (by rw [List.nil_append, Lib.strCells_length, hsI]; have := HIL.out; omega) (by omega)).mono ?_
  rintro e w3 ⟨rfl, h3, b3, k3⟩
  have HB3 : Hid (BuA (w.heap.size + 1) (w.heap.size + 1) (Lib.byteCells (Lib.itoa t ++ 58 :: tl (vs.take 0))) w3) := by
    have q := h3
    rw [List.nil_append, Lib.strCells_eq, show ([Value.int .u8 58] : List Value) = Lib.byteCells [58] from rfl, cells_app] at q
    exact q
  have HW3 := hidMk (HW2.out.trans (b3.mono (by omega)))
  have HR3 := hidMk (k3 _ _ _ _ (by omega) (by decide) HR2.out)
  have x1 : w3.cell? ⟨w.heap.size, 1, none⟩ = some (.slice a vs.length c) := by rw [Lib.cell_of_heap HR3.out]; rfl
  clear h3 b3 k3 HR2 HW2 HB2
  go_wp2_with fail
  go_loopw [14] (fun i wr => ∃ k : Nat, k ≤ vs.length ∧ i = .int .i64 k ∧ BuA (w.heap.size + 1) (w.heap.size + 1) (Lib.byteCells (Lib.itoa t ++ 58 :: tl (vs.take k))) wr ∧ Below w.heap.size w wr) (fun i _ => vs.length - (intOf i).toNat)
  case atStart => exact ⟨0, Nat.zero_le _, rfl, HB3.out, HW3.out⟩
  case round =>
    obtain ⟨k, hk, rfl, hbu, hw⟩ := hrel
    have HBU := hidMk hbu
    have HW := hidMk hw
    have hsz := hw.size
    have hbl : w.heap.size + 1 < wr.heap.size := by obtain ⟨-, v, q, -⟩ := hbu; exact lt_heap q
    clear hbu hw
    by_cases hlt : k < vs.length
    · obtain ⟨b, off, rfl, e1, e2, e3⟩ := (HL.out.later HW.out) k hlt
      have hki : (k : Int) < (vs.length : Int) := by omega
      have HFK := hidMk (HF.out _ (List.getElem_mem hlt))
      have HLN : Hid ((Lib.itoa t ++ 58 :: tl (vs.take k)).length ≤ 21 + 1 + 202 * 1073741824) := by
        rw [Hid, List.length_append, List.length_cons]
        have q1 := tl_len (vs.take k) (fun v hv => HF.out v (List.mem_of_mem_take hv))
        have q2 := HIL.out
        rw [List.length_take] at q1
        omega
      have HNE : Hid (wr.heap.size ≠ w.heap.size + 1) := by rw [Hid]; omega
      have HHA : Hid ((wr.alloc (.cells #[.int .i64 vs[k].k, .int .i64 vs[k].n, .string vs[k].s] 39)).heap[wr.heap.size]? = some (.cells #[.int .i64 vs[k].k, .int .i64 vs[k].n, .string vs[k].s] 39 (0, 0))) := heap_new _ _
      have HBA := hidMk (Bu.later HBU.out (bel1 wr (.cells #[.int .i64 vs[k].k, .int .i64 vs[k].n, .string vs[k].s] 39)))
      have HWA := hidMk (HW.out.alloc HW.out.size (.cells #[.int .i64 vs[k].k, .int .i64 vs[k].n, .string vs[k].s] 39))
      by_cases hk0 : k = 0
      · have hk0' : ¬ (0 : Int) < (k : Int) := by omega
        have HSP : Hid (sep (vs.take k) = []) := by rw [hk0]; rfl
        clear hk0
        go_wp2_with fail
        generalize wr.alloc (.cells #[.int .i64 vs[k].k, .int .i64 vs[k].n, .string vs[k].s] 39) = w4 at *
        have HBU4 := hidMk HBA.out
        have HW4 := hidMk HWA.out
        have HH4 := hidMk HHA.out
        clear HBA HWA HHA e1 e2 e3 HBU
        refine (wrByte (w.heap.size + 1) (w.heap.size + 1) _ 32 _ (.inr HBU4.out) (by rw [Lib.byteCells_length]; exact by have := HLN.out; omega) (by have := lt_heap HH4.out; omega)).mono ?_
        rintro e w5 ⟨rfl, h5, b5, k5⟩
        have HH5 := hidMk (k5 _ _ _ _ HNE.out (by decide) HH4.out)
        have HBU5 := hidMk h5
        have HW5 := hidMk (HW4.out.trans (b5.mono (by omega)))
        have e1 : w5.cell? ⟨wr.heap.size, 0, none⟩ = some (.int .i64 vs[k].k) := by rw [Lib.cell_of_heap HH5.out]; rfl
        have e2 : w5.cell? ⟨wr.heap.size, 1, none⟩ = some (.int .i64 vs[k].n) := by rw [Lib.cell_of_heap HH5.out]; rfl
        have e3 : w5.cell? ⟨wr.heap.size, 2, none⟩ = some (.string vs[k].s) := by rw [Lib.cell_of_heap HH5.out]; rfl
        have HSH := hidMk (Vl.show_any vs[k].k vs[k].n vs[k].s w5 HFK.out.1 HFK.out.2.1 HFK.out.2.2 (HT.out.later HW5.out))
        rw [show Vl.showB vs[k].k vs[k].n vs[k].s = shB vs[k] from rfl] at HSH
        clear h5 b5 k5 HBU4 HW4 HH4
        go_wp2_with fail
        refine HSH.out.mono ?_
        rintro e w6 ⟨rfl, b6⟩
        have HBU6 := hidMk (Bu.later HBU5.out b6)
        have HW6 := hidMk (HW5.out.trans (b6.mono HW5.out.size))
        have hs6 : (shB vs[k]).size ≤ 200 := sh_len vs[k] HFK.out
        clear b6 HSH HBU5 HW5 e1 e2 e3 HH5
        go_wp2_with fail
        refine (wrStr (w.heap.size + 1) (w.heap.size + 1) _ (shB vs[k]) _ (.inr HBU6.out) (by rw [List.length_append, Lib.byteCells_length]; exact by have := HLN.out; simp at this ⊢; omega) (by obtain ⟨-, v, q, -⟩ := HBU6.out; have := lt_heap q; omega)).mono ?_
        rintro e w7 ⟨rfl, h7, b7, k7⟩
        have HBU7 : Hid (BuA (w.heap.size + 1) (w.heap.size + 1) (Lib.byteCells (Lib.itoa t ++ 58 :: tl (vs.take (k + 1)))) w7) := by
          rw [List.take_succ_eq_append_getElem hlt, tl_snoc]
          have q := h7
          rw [Lib.strCells_eq, show ([Value.int .u8 32] : List Value) = Lib.byteCells [32] from rfl, cells_app, cells_app] at q
          rw [Hid]
          rw [HSP.out, List.nil_append]
          have e : Lib.itoa t ++ 58 :: tl (vs.take k) ++ [32] ++ (shB vs[k]).data.toList = Lib.itoa t ++ 58 :: (tl (vs.take k) ++ 32 :: sh vs[k]) := by simp [sh]
          rw [e] at q
          exact q
        have HW7 := hidMk (HW6.out.trans (b7.mono (by omega)))
        clear h7 b7 k7 HBU6 HW6
        go_wp2_with fail
        go_roundw
        case rel => exact ⟨k + 1, by omega, by go_num, HBU7.out, HW7.out⟩
        case measure => simp [intOf]; omega
      · have hk0' : (0 : Int) < (k : Int) := by omega
        have HSP : Hid (sep (vs.take k) = [44]) := by
          rw [Hid, sep, if_neg]
          simp [List.isEmpty_iff]
          exact ⟨hk0, fun h => by rw [h] at hlt; simp at hlt⟩
        clear hk0
        go_wp2_with fail
        generalize wr.alloc (.cells #[.int .i64 vs[k].k, .int .i64 vs[k].n, .string vs[k].s] 39) = wA at *
        refine (wrByte (w.heap.size + 1) (w.heap.size + 1) _ 44 _ (.inr HBA.out) (by rw [Lib.byteCells_length]; have := HLN.out; omega) (by have := HWA.out.size; have := lt_heap HHA.out; omega)).mono ?_
        rintro e w4 ⟨rfl, h4, b4, k4⟩
        have HH4 := hidMk (k4 _ _ _ _ HNE.out (by decide) HHA.out)
        have HBU4 : Hid (BuA (w.heap.size + 1) (w.heap.size + 1) (Lib.byteCells (Lib.itoa t ++ 58 :: tl (vs.take k) ++ [44])) w4) := by
          have q := h4
          rw [show ([Value.int .u8 44] : List Value) = Lib.byteCells [44] from rfl, cells_app] at q
          exact q
        have HW4 := hidMk (HWA.out.trans (b4.mono (by omega)))
        clear h4 b4 k4 HBA HWA HHA e1 e2 e3 HBU
        go_wp2_with fail
        refine (wrByte (w.heap.size + 1) (w.heap.size + 1) _ 32 _ (.inr HBU4.out) (by rw [Lib.byteCells_length]; exact by have := HLN.out; simp at this ⊢; omega) (by have := lt_heap HH4.out; omega)).mono ?_
        rintro e w5 ⟨rfl, h5, b5, k5⟩
        have HH5 := hidMk (k5 _ _ _ _ HNE.out (by decide) HH4.out)
        have HBU5 := hidMk h5
        have HW5 := hidMk (HW4.out.trans (b5.mono (by omega)))
        have e1 : w5.cell? ⟨wr.heap.size, 0, none⟩ = some (.int .i64 vs[k].k) := by rw [Lib.cell_of_heap HH5.out]; rfl
        have e2 : w5.cell? ⟨wr.heap.size, 1, none⟩ = some (.int .i64 vs[k].n) := by rw [Lib.cell_of_heap HH5.out]; rfl
        have e3 : w5.cell? ⟨wr.heap.size, 2, none⟩ = some (.string vs[k].s) := by rw [Lib.cell_of_heap HH5.out]; rfl
        have HSH := hidMk (Vl.show_any vs[k].k vs[k].n vs[k].s w5 HFK.out.1 HFK.out.2.1 HFK.out.2.2 (HT.out.later HW5.out))
        rw [show Vl.showB vs[k].k vs[k].n vs[k].s = shB vs[k] from rfl] at HSH
        clear h5 b5 k5 HBU4 HW4 HH4
        go_wp2_with fail
        refine HSH.out.mono ?_
        rintro e w6 ⟨rfl, b6⟩
        have HBU6 := hidMk (Bu.later HBU5.out b6)
        have HW6 := hidMk (HW5.out.trans (b6.mono HW5.out.size))
        have hs6 : (shB vs[k]).size ≤ 200 := sh_len vs[k] HFK.out
        clear b6 HSH HBU5 HW5 e1 e2 e3 HH5
        go_wp2_with fail
        refine (wrStr (w.heap.size + 1) (w.heap.size + 1) _ (shB vs[k]) _ (.inr HBU6.out) (by rw [List.length_append, Lib.byteCells_length]; exact by have := HLN.out; simp at this ⊢; omega) (by obtain ⟨-, v, q, -⟩ := HBU6.out; have := lt_heap q; omega)).mono ?_
        rintro e w7 ⟨rfl, h7, b7, k7⟩
        have HBU7 : Hid (BuA (w.heap.size + 1) (w.heap.size + 1) (Lib.byteCells (Lib.itoa t ++ 58 :: tl (vs.take (k + 1)))) w7) := by
          rw [List.take_succ_eq_append_getElem hlt, tl_snoc]
          have q := h7
          rw [Lib.strCells_eq, show ([Value.int .u8 32] : List Value) = Lib.byteCells [32] from rfl, cells_app, cells_app] at q
          rw [Hid]
          rw [HSP.out]
          have e : Lib.itoa t ++ 58 :: tl (vs.take k) ++ [44] ++ [32] ++ (shB vs[k]).data.toList = Lib.itoa t ++ 58 :: (tl (vs.take k) ++ ([44] ++ 32 :: sh vs[k])) := by simp [sh]
          rw [e] at q
          exact q
        have HW7 := hidMk (HW6.out.trans (b7.mono (by omega)))
        clear h7 b7 k7 HBU6 HW6
        go_wp2_with fail
        go_roundw
        case rel => exact ⟨k + 1, by omega, by go_num, HBU7.out, HW7.out⟩
        case measure => simp [intOf]; omega
    · obtain rfl : k = vs.length := by omega
      have hki : ¬ ((vs.length : Nat) : Int) < (vs.length : Int) := by omega
      have HBE := hidMk HBU.out
      rw [List.take_of_length_le (Nat.le_refl _)] at HBE
      go_wp2_with fail
      refine (Tryz.Builder_String_any (w.heap.size + 1) (w.heap.size + 1) (Lib.itoa t ++ 58 :: tl vs) wr (.inr HBE.out) (by omega)).mono ?_
      rintro e w8 ⟨rfl, b8⟩
      have HW8 := hidMk (HW.out.trans (b8.mono (by omega)))
      clear b8
      go_wp2_with fail
      go_ret
      exact ⟨rfl, HW8.out⟩
end Go.Proofs.YtodkekmfadfjkaaGreatDoor
