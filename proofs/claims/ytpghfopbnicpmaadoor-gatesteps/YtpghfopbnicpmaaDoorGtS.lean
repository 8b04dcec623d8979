import Derived.Test.YtpghfopbnicpmaaDoorGtF
namespace Go.Proofs.YtpghfopbnicpmaaDoor
open Go.RowKit
set_option linter.unusedVariables false
set_option linter.unusedSimpArgs false
set_option maxRecDepth 100000

/-- '==' of two values. -/
def eqB (k1 n1 : Int) (s1 : ByteArray) (k2 n2 : Int) (s2 : ByteArray) : Bool := k1 == k2 && (n1 == n2 && s1.toList == s2.toList)

theorem eqVal (k1 n1 : Int) (s1 : ByteArray) (k2 n2 : Int) (s2 : ByteArray) (w : World) :
    (Op.equalIn 10000 48 (.agg #[.int .i64 k1, .int .i64 n1, .string s1]) (.agg #[.int .i64 k2, .int .i64 n2, .string s2])).run Tryd.prog w = .ok (eqB k1 n1 s1 k2 n2 s2) w := by
  have u24 := Tryd.underlying46
  have u2 := Tryd.underlying2
  have u9 := Tryd.underlying9
  have a24 := Tryd.isAgg46
  have z24 := Tryd.sizeOf46
  have a2 := Tryd.isAgg2
  have z2 := Tryd.sizeOf2
  have a9 := Tryd.isAgg9
  have z9 := Tryd.sizeOf9
  have hS : Tryd.prog.underlying 48 = some (.struct (Tryd.prog.fieldsOf 48)) := by kernel_rfl
  rw [show (10000 : Nat) = 9999 + 1 from rfl, run_equalIn_agg w 9999 48 _ _ hS (by kernel_rfl)]
  simp only [Program.fieldsOf, Tryd.underlying48]
  go_simp
  unfold eqB
  by_cases h1 : k1 = k2 <;> by_cases h2 : n1 = n2 <;> by_cases h3 : s1.toList = s2.toList <;> simp [h1, h2, h3]
theorem guardVal : Tryd.prog.eqGuardType Tryd.prog.depth 48 = false := by kernel_rfl
theorem neqVal (k1 n1 : Int) (s1 : ByteArray) (k2 n2 : Int) (s2 : ByteArray) (w : World) :
    (binOp .neq 48 (.agg #[.int .i64 k1, .int .i64 n1, .string s1]) (.agg #[.int .i64 k2, .int .i64 n2, .string s2])).run Tryd.prog w = .ok (.bool (!eqB k1 n1 s1 k2 n2 s2)) w := by
  rw [run_neq_struct, eqVal]; rfl
theorem eqlVal (k1 n1 : Int) (s1 : ByteArray) (k2 n2 : Int) (s2 : ByteArray) (w : World) :
    (binOp .eql 48 (.agg #[.int .i64 k1, .int .i64 n1, .string s1]) (.agg #[.int .i64 k2, .int .i64 n2, .string s2])).run Tryd.prog w = .ok (.bool (eqB k1 n1 s1 k2 n2 s2)) w := by
  rw [run_eql_struct, eqVal]; rfl

attribute [local go_sem ↓] neqVal eqlVal
attribute [local go_sem] guardVal

theorem bel3 (w : World) (o1 o2 o3 : Obj) : Below w.heap.size w (((w.alloc o1).alloc o2).alloc o3) := (((Below.refl _ _).alloc (Nat.le_refl _) _).alloc (by simp) _).alloc (by simp; omega) _
theorem eqB_self (v : V) : eqB v.k v.n v.s v.k v.n v.s = true := by unfold eqB; simp

set_option maxHeartbeats 2000000 in
/-- Lists of the same values are the same. -/
theorem same_any (vs : List V) (a1 : Option Addr) (c1 : Nat) (a2 : Option Addr) (c2 : Nat) (w : World) (h1 : VLies w a1 vs) (h2 : VLies w a2 vs) (hl : vs.length ≤ 4398046511104) :
    Calls Tryd.prog 13 #[.slice a1 vs.length c1, .slice a2 vs.length c2] w fun e w' => e = .returned (.bool true) ∧ ∃ m, w' = w.drewN m := by
  have H1 : Hid (VLies w a1 vs) := h1
  have H2 : Hid (VLies w a2 vs) := h2
  clear h1 h2
  go_enter Tryd.func13, Tryd.ntmps13
  go_wp2
  go_loopw [5] (fun i w' => ∃ k : Nat, k ≤ vs.length ∧ i = .int .i64 k ∧ ∃ m, w' = w.drewN m) (fun i _ => vs.length - (intOf i).toNat)
  case atStart => exact ⟨0, Nat.zero_le _, rfl, 0, rfl⟩
  case round =>
    obtain ⟨k, hk, rfl, m, rfl⟩ := hrel
    by_cases hlt : k < vs.length
    · have hki : (k : Int) < (vs.length : Int) := by omega
      obtain ⟨b, o, rfl, e1, e2, e3⟩ := H1.out k hlt
      obtain ⟨b', o', rfl, g1, g2, g3⟩ := H2.out k hlt
      have he := eqB_self vs[k]
      go_wp2
      go_quiet (fail)
      go_wp2
      go_roundw
      case rel => exact ⟨k + 1, by omega, by go_num, _, rfl⟩
      case measure => simp [intOf]; omega
    · obtain rfl : k = vs.length := by omega
      go_wp2
      go_ret
      exact ⟨rfl, m, rfl⟩

set_option maxHeartbeats 4000000 in
/-- The document's Copy. -/
theorem copy_any (t : Int) (a : Option Addr) (vs : List V) (c : Nat) (w : World) (h : VLies w a vs) (hl : vs.length ≤ 4398046511104) :
    Calls Tryd.prog 9 #[.agg #[.int .i64 t, .slice a vs.length c]] w fun e w' => ∃ a' c', e = .returned (.agg #[.int .i64 t, .slice a' vs.length c']) ∧ OV w' w.heap.size (.slice a' vs.length c') vs ∧ Below w.heap.size w w' := by
  obtain ⟨i0, hi0, hz0, hz1, hz2⟩ := info_parts infoV
  have HV : Hid (VLies w a vs) := h
  clear h
  go_enter Tryd.func9, Tryd.ntmps9
  go_wp2
  go_loopw [4] (fun i w' => ∃ (k : Nat) (x : Value), k ≤ vs.length ∧ i = .int .i64 k ∧ Own w' w.heap.size 34 2 [.int .i64 t, .slice a vs.length c] ∧ Own w' (w.heap.size + 1) 34 2 [.int .i64 0, .slice none 0 0] ∧ Own w' (w.heap.size + 1 + 1) 34 2 [.int .i64 t, x] ∧ OV w' (w.heap.size + 1 + 1 + 1) x (vs.take k) ∧ Below w.heap.size w w') (fun i _ => vs.length - (intOf i).toNat)
  case atStart =>
    have h1 := Own.new w 34 2 #[.int .i64 t, .slice a vs.length c] rfl
    have h2 := Own.new (w.alloc (.cells #[.int .i64 t, .slice a vs.length c] 34)) 34 2 #[.int .i64 0, .slice none 0 0] rfl
    have h3 := Own.new ((w.alloc (.cells #[.int .i64 t, .slice a vs.length c] 34)).alloc (.cells #[.int .i64 0, .slice none 0 0] 34)) 34 2 #[.int .i64 t, .slice none 0 0] rfl
    refine ⟨0, .slice none 0 0, Nat.zero_le _, rfl, (h1.later (bel1 _ _)).later (bel1 _ _), ?_, ?_, World.ownsRow_nil _ _ _ _, bel3 _ _ _ _⟩
    · simpa using h2.later (bel1 _ _)
    · simpa using h3
  case round =>
    obtain ⟨k, x, hk, rfl, hO1, hO2, hO3, hOV, hb⟩ := hrel
    have hcl : (vs.take k).length = k := by rw [List.length_take]; omega
    obtain ⟨ax, cx, rfl, hVL, hax⟩ := hOV.form
    rw [hcl] at hO3 hOV
    have HO1 : Hid (Own wr w.heap.size 34 2 [.int .i64 t, .slice a vs.length c]) := hO1
    have HO2 : Hid (Own wr (w.heap.size + 1) 34 2 [.int .i64 0, .slice none 0 0]) := hO2
    have HO3 : Hid (Own wr (w.heap.size + 1 + 1) 34 2 [.int .i64 t, .slice ax k cx]) := hO3
    have HOV : Hid (OV wr (w.heap.size + 1 + 1 + 1) (.slice ax k cx) (vs.take k)) := hOV
    have HB : Hid (Below w.heap.size w wr) := hb
    have c1 : wr.cell? ⟨w.heap.size, 1, none⟩ = some (.slice a vs.length c) := by rw [hO1.cell 1 (by decide)]; rfl
    have c3 : wr.cell? ⟨w.heap.size + 1 + 1, 1, none⟩ = some (.slice ax k cx) := by rw [hO3.cell 1 (by decide)]; rfl
    have s3 : wr.frozen? ⟨w.heap.size + 1 + 1, 1, none⟩ = false := hO3.soft 1
    have hs := hO3.lt
    by_cases hlt : k < vs.length
    · have hki : (k : Int) < (vs.length : Int) := by omega
      obtain ⟨b, o, rfl, e1, e2, e3⟩ := HV.out.later HB.out k hlt
      have hob := World.block_lt_of_cell? wr _ e1
      have hbw : b < w.heap.size := by
        obtain ⟨b', o', e', e1', -⟩ := HV.out k hlt
        cases e'
        exact World.block_lt_of_cell? w _ e1'
      have hne : ∀ m, (Value.slice ax k cx).ownBlock = some m → w.heap.size + 1 + 1 + 1 ≤ m := fun m hm => (World.ownsRow.lt hOV m hm).1
      have hOV' : wr.ownsRow (w.heap.size + 1 + 1 + 1) 48 3 (.slice ax k cx) k ((vs.take k).flatMap cellsV) := by
        have := hOV
        unfold OV at this
        rw [hcl] at this
        exact this
      have HOV' : Hid (wr.ownsRow (w.heap.size + 1 + 1 + 1) 48 3 (.slice ax k cx) k ((vs.take k).flatMap cellsV)) := hOV'
      have HNE : Hid (∀ m, (Value.slice ax k cx).ownBlock = some m → w.heap.size + 1 + 1 + 1 ≤ m) := hne
      clear hO1 hO2 hO3 hOV hb hVL hax hOV' hne
      have HT : Hid ((vs.take k).flatMap cellsV ++ cellsV vs[k] = (vs.take (k + 1)).flatMap cellsV) := by
        rw [Hid, List.take_succ_eq_append_getElem hlt, List.flatMap_append]; simp
      generalize hv : vs[k] = v at *
      go_wp2_with fail
      go_region_law
        ((refine step_append_lies _ (by rfl) _ _ _ (by rfl) (w.heap.size + 1 + 1 + 1) 48 i0 _ 3 32 Tryd.underlying32 hi0 hz0 hz1 hz2 rfl (by omega) (.slice ax k cx) k ((vs.take k).flatMap cellsV) (by rfl) ((HOV'.out.alloc _).drew)
            ⟨wr.heap.size, 0, none⟩ 1 1 (cellsV v) (by rfl) (by rfl) (World.news_of_block (cs := #[.int .i64 v.k, .int .i64 v.n, .string v.s]) (t := 48) (fr := (0, 0)) (heap_alloc_new wr _)) (one_cellsV v)
            (by omega) (by unfold maxLen; omega) (by omega) (by simp; omega) (wr.heap.size + 1) (by simp) ?_; intro gg cap w1 hown1 hgrow hat hlt1
          have s3' : w1.frozen? ⟨w.heap.size + 1 + 1, 1, none⟩ = false := (hgrow.frozen_far ⟨w.heap.size + 1 + 1, 1, none⟩ (by simp; omega) (fun e => by have h : _ ≤ w.heap.size + 1 + 1 := HNE.out _ e.symm; omega)).trans (((HO3.out.later (bel1 _ _)).later ((Below.refl _ _).drew)).soft 1)
          have c3' : w1.cell? ⟨w.heap.size + 1 + 1, 1, none⟩ = some (.slice ax k cx) := (hgrow.cell_far ⟨w.heap.size + 1 + 1, 1, none⟩ (by simp; omega) (fun e => by have h : _ ≤ w.heap.size + 1 + 1 := HNE.out _ e.symm; omega)).trans (((HO3.out.later (bel1 _ _)).later ((Below.refl _ _).drew)).cell 1 (by decide))))
      all_goals
        have hb2 : Below wr.heap.size wr (wr.alloc (.cells #[.int .i64 v.k, .int .i64 v.n, .string v.s] 48)).drew := (bel1 _ _).drew
        have hg1 : wr.grownBy w1 (Value.slice ax k cx).ownBlock := grown_trans (grown_below hb2) hgrow
        have hO3 := HO3.out.grown hg1 (fun e => by have := HNE.out _ e.symm; omega)
        have hO2 := HO2.out.grown hg1 (fun e => by have := HNE.out _ e.symm; omega)
        have hO1 := HO1.out.grown hg1 (fun e => by have := HNE.out _ e.symm; omega)
        obtain ⟨hO3', hg3⟩ := hO3.put 1 (.slice (some ⟨gg, 0, none⟩) (k + 1) cap)
        have hOV1 : OV w1 (w.heap.size + 1 + 1 + 1) (.slice (some ⟨gg, 0, none⟩) (k + 1) cap) (vs.take (k + 1)) := by
          unfold OV
          rw [← HT.out, List.length_take, Nat.min_eq_left (by omega)]
          exact hown1
        have hB1 : Below w.heap.size w w1 := HB.out.grown hg1 HB.out.size (fun m hm => by have := HNE.out m hm; omega)
        have HW : Hid (∃ (k' : Nat) (x : Value), k' ≤ vs.length ∧ Value.int .i64 ((k : Int) + 1) = .int .i64 k' ∧ Own (w1.setCell ⟨w.heap.size + 1 + 1, 1, none⟩ (.slice (some ⟨gg, 0, none⟩) (k + 1) cap)) w.heap.size 34 2 [.int .i64 t, .slice (some ⟨b, o, none⟩) vs.length c] ∧ Own (w1.setCell ⟨w.heap.size + 1 + 1, 1, none⟩ (.slice (some ⟨gg, 0, none⟩) (k + 1) cap)) (w.heap.size + 1) 34 2 [.int .i64 0, .slice none 0 0] ∧ Own (w1.setCell ⟨w.heap.size + 1 + 1, 1, none⟩ (.slice (some ⟨gg, 0, none⟩) (k + 1) cap)) (w.heap.size + 1 + 1) 34 2 [.int .i64 t, x] ∧ OV (w1.setCell ⟨w.heap.size + 1 + 1, 1, none⟩ (.slice (some ⟨gg, 0, none⟩) (k + 1) cap)) (w.heap.size + 1 + 1 + 1) x (vs.take k') ∧ Below w.heap.size w (w1.setCell ⟨w.heap.size + 1 + 1, 1, none⟩ (.slice (some ⟨gg, 0, none⟩) (k + 1) cap))) :=
          ⟨k + 1, .slice (some ⟨gg, 0, none⟩) (k + 1) cap, by omega, by simp, hO1.grown hg3 (by simp; omega), hO2.grown hg3 (by simp), hO3', hOV1.grown hg3 (fun m hm => by cases hm; omega), hB1.grown hg3 hB1.size (fun m hm => by cases hm; omega)⟩
        clear hb2 hg1 hO3 hO2 hO1 hO3' hg3 hOV1 hB1 hown1 hgrow hat hlt1 s3' c3'
        go_wp2
        go_roundw
        case rel => exact HW.out
        case measure => simp [intOf]; omega
    · obtain rfl : k = vs.length := by omega
      have c30 : wr.cell? ⟨w.heap.size + 1 + 1, 0, none⟩ = some (.int .i64 t) := by rw [HO3.out.cell 0 (by decide)]; rfl
      have c20 : wr.cell? ⟨w.heap.size + 1, 0, none⟩ = some (.int .i64 0) := by rw [HO2.out.cell 0 (by decide)]; rfl
      have c21 : wr.cell? ⟨w.heap.size + 1, 1, none⟩ = some (.slice none 0 0) := by rw [HO2.out.cell 1 (by decide)]; rfl
      have s20 : wr.frozen? ⟨w.heap.size + 1, 0, none⟩ = false := HO2.out.soft 0
      have s21 : wr.frozen? ⟨w.heap.size + 1, 1, none⟩ = false := HO2.out.soft 1
      have HE : Hid (OV wr (w.heap.size + 1 + 1 + 1) (.slice ax vs.length cx) vs) := by
        have := hOV
        rw [List.take_of_length_le (Nat.le_refl _)] at this
        exact this
      clear hO1 hO2 hO3 hOV hb hVL hax
      go_wp2
      refine bodyPost_ret (v := .agg #[.int .i64 t, .slice ax vs.length cx]) (by simp [results, Tryd.results9, go_sem, c20, c21]) rfl ⟨ax, cx, rfl, ?_, ?_⟩
      · refine OV.base (B := w.heap.size + 1 + 1 + 1) ?_ (by omega)
        repeat (first | exact HE.out | refine OV.grown ?_ (grown_set _ _ _) (fun k hk => by cases hk; simp))
      · repeat (first | exact HB.out | refine Below.grown ?_ (grown_set _ _ _) (by have := HB.out.size; simp; omega) (fun k hk => by cases hk; simp))
end Go.Proofs.YtpghfopbnicpmaaDoor
