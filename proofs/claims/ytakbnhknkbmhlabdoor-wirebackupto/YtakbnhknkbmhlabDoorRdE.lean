import Derived.Test.YtakbnhknkbmhlabDoorRdD
namespace Go.Proofs.YtakbnhknkbmhlabDoor
open Go.RowKit
set_option linter.unusedVariables false
set_option maxRecDepth 100000

theorem info58 : (Tryd.prog.info? 58).map (fun i => (i.zero, i.size, i.bytes)) = some (some (.agg #[.int .i64 0, .int .i64 0, .string ⟨#[]⟩]), 3, 32) := by kernel_rfl
theorem info55 : (Tryd.prog.info? 55).map (fun i => (i.zero, i.size, i.bytes)) = some (some (.agg #[.int .i64 0, .slice none 0 0]), 2, 32) := by kernel_rfl
def cellsV (v : V) : List Value := [.int .i64 v.k, .int .i64 v.n, .string v.s]
/-- Values in a row of one's own. -/
def OV (w : World) (B : Nat) (x : Value) (vs : List V) : Prop := w.ownsRow B 58 3 x vs.length (vs.flatMap cellsV)
theorem flat_at {α β : Type} (f : α → List β) (m : Nat) (hf : ∀ a, (f a).length = m) : ∀ (l : List α) (i j : Nat) (hi : i < l.length), j < m → (l.flatMap f)[i * m + j]? = (f l[i])[j]?
  | a :: l, 0, j, _, hj => by
    rw [List.flatMap_cons, Nat.zero_mul, Nat.zero_add, List.getElem?_append_left (by rw [hf]; exact hj)]; rfl
  | a :: l, i + 1, j, hi, hj => by
    have ih := flat_at f m hf l i j (by simpa using hi) hj
    rw [List.flatMap_cons, List.getElem?_append_right (by rw [hf, Nat.add_mul]; omega), hf, show (i + 1) * m + j - m = i * m + j by rw [Nat.add_mul]; omega, ih]
    rfl
theorem OV.form {w : World} {B : Nat} {x : Value} {vs : List V} (h : OV w B x vs) : ∃ a c, x = .slice a vs.length c ∧ VLies w a vs ∧ ∀ y, a = some y → B ≤ y.block ∧ y.block < w.heap.size := by
  rcases h.2 with ⟨h1, h2⟩ | ⟨g, c, cur, h1, h2, h3, -⟩
  · refine ⟨none, 0, by rw [h1, h2], fun i hi => absurd hi (by omega), fun y hy => by cases hy⟩
  · refine ⟨some ⟨g, 0, none⟩, c, h1, fun i hi => ?_, fun y hy => ?_⟩
    · rw [h1] at h
      have key : ∀ j, j < 3 → w.cell? ⟨g, i * 3 + j, none⟩ = (cellsV vs[i])[j]? := fun j hj => by
        rw [World.ownsRow.cellAt h (i * 3 + j) (by omega), flat_at cellsV 3 (fun _ => rfl) vs i j hi hj]
      exact ⟨g, 0, rfl, by rw [Nat.zero_add]; exact key 0 (by decide), by rw [Nat.zero_add]; exact key 1 (by decide), by rw [Nat.zero_add]; exact key 2 (by decide)⟩
    · cases hy
      rcases Nat.lt_or_ge g w.heap.size with h | h
      · exact ⟨h2, h⟩
      · rw [Array.getElem?_eq_none h] at h3; cases h3
theorem OV.grown {w w' : World} {B : Nat} {x : Value} {vs : List V} {r : Option Nat} (h : OV w B x vs) (hg : w.grownBy w' r) (hr : ∀ k, r = some k → k < B) : OV w' B x vs :=
  own_grown h hg fun k hk e => by have h1 := (World.ownsRow.lt h k hk).1; have h2 := hr k e.symm; omega
theorem OV.later {w w' : World} {B : Nat} {x : Value} {vs : List V} (h : OV w B x vs) (hb : Below w.heap.size w w') : OV w' B x vs := own_later h hb
theorem VLies.grown {w w' : World} {a : Option Addr} {vs : List V} {r : Option Nat} (h : VLies w a vs) (hg : w.grownBy w' r) (hne : ∀ x, a = some x → some x.block ≠ r) : VLies w' a vs := fun i hi => by
  obtain ⟨b, off, e, h1, h2, h3⟩ := h i hi
  have hn := hne ⟨b, off, none⟩ e
  exact ⟨b, off, e, hg.cell h1 hn, hg.cell h2 hn, hg.cell h3 hn⟩

/-- What reading a row gives. -/
def RowPost (w : World) (g : Nat) (L : List UInt8) (e : Ending) (w' : World) : Prop := ∃ (r : Rw) (av : Option Addr) (cv : Nat) (ok : Bool) (L' : List UInt8), e = .returned (.tuple #[.agg #[.int .i64 r.t, .slice av r.vs.length cv], .bool ok]) ∧ w.grownBy w' (some g) ∧ Rd w' g L' ∧ L'.length ≤ L.length ∧
      (ok = true → validR r = true ∧ GoodR r ∧ L = encRow r ++ L' ∧ VLies w' av r.vs ∧ ∀ y, av = some y → w.heap.size ≤ y.block ∧ y.block < w'.heap.size) ∧
      (ok = false → ∀ r' s, validR r' = true → GoodR r' → L ≠ encRow r' ++ s)

theorem goodV_in {v : V} (h : GoodV v) : InI v.n ∧ InI (v.s.size : Int) := ⟨⟨h.1, h.2.1⟩, ⟨by omega, by have := h.2.2; omega⟩⟩

set_option maxHeartbeats 8000000 in
theorem row_any (g : Nat) (L : List UInt8) (w : World) (hR : Rd w g L) (hL : L.length ≤ 549755813888) :
    Calls Tryd.prog 39 #[.pointer (some ⟨g, 0, none⟩)] w (RowPost w g L) := by
  obtain ⟨i0, hi0, hz0, hz1, hz2⟩ := info_parts info58
  have HR : Hid (Rd w g L) := hR
  have hgl := hR.lt
  have hO2 := Own.new w 55 2 #[.int .i64 0, .slice none 0 0] rfl
  have HO2 : Hid (Own (w.alloc (.cells #[.int .i64 0, .slice none 0 0] 55)) w.heap.size 55 2 [.int .i64 0, .slice none 0 0]) := hO2
  clear hR hO2
  go_enter Tryd.func39, Tryd.ntmps39
  go_wp2_with fail
  refine (num_any g L _ (HR.out.later (bel1 _ _))).mono ?_
  rintro e w1 ⟨t, ok, L1, rfl, hin, hg1, hR1, hl1, hy, hn⟩
  have hO2 := HO2.out.grown hg1 (by simp; omega)
  have HO21 : Hid (Own w1 w.heap.size 55 2 [.int .i64 0, .slice none 0 0]) := hO2
  have HG1 : Hid (w.grownBy w1 (some g)) := grown_trans (grown_below (bel1 _ _)) hg1
  have HR1 : Hid (Rd w1 g L1) := hR1
  have HY : Hid (ok = true → L = encInt t ++ L1) := hy
  have HN : Hid (ok = false → ∀ m s, InI m → L ≠ encInt m ++ s) := hn
  have HT : Hid (InI t) := hin
  have e0 := hO2.cell 0 (by decide)
  have e1 := hO2.cell 1 (by decide)
  have q0 := hO2.soft 0
  have q1 := hO2.soft 1
  simp at e0 e1
  clear hO2 HO2 hg1 hR1 hy hn hin HR
  cases ok with
  | false =>
    have HC : Hid (∀ r' s, validR r' = true → GoodR r' → L ≠ encRow r' ++ s) := fun r' s _ hg h => by
      unfold encRow at h
      rw [List.append_assoc] at h
      exact HN.out rfl _ _ ⟨hg.1, hg.2.1⟩ h
    go_wp2
    exact bodyPost_ret (v := .tuple #[.agg #[.int .i64 0, .slice none 0 0], .bool false]) (by simp [results, Tryd.results39, go_sem, e0, e1]) rfl
      ⟨⟨0, []⟩, none, 0, false, L1, rfl, by repeat (first | exact HG1.out | refine grown_new ?_ (grown_set _ _ _) (fun k hk => by cases hk; simp)), by repeat (first | exact HR1.out | refine Rd.grown ?_ (grown_set _ _ _) (fun k hk => by cases hk; simp; omega)), hl1, (fun h => by cases h), fun _ => HC.out⟩
  | true =>
    have HE1 : Hid (L = encInt t ++ L1) := HY.out rfl
    clear HY HN e0 e1 q0 q1
    go_wp2_with fail
    refine (num_any g L1 w1 HR1.out).mono ?_
    rintro e w2 ⟨n, ok, L2, rfl, hin, hg2, hR2, hl2, hy, hn⟩
    have hO2 := HO21.out.grown hg2 (by simp; omega)
    have HO22 : Hid (Own w2 w.heap.size 55 2 [.int .i64 0, .slice none 0 0]) := hO2
    have HG2 : Hid (w.grownBy w2 (some g)) := grown_trans HG1.out hg2
    have HR2 : Hid (Rd w2 g L2) := hR2
    have HY : Hid (ok = true → L1 = encInt n ++ L2) := hy
    have HN : Hid (ok = false → ∀ m s, InI m → L1 ≠ encInt m ++ s) := hn
    have e0 := hO2.cell 0 (by decide)
    have e1 := hO2.cell 1 (by decide)
    have q0 := hO2.soft 0
    have q1 := hO2.soft 1
    have hs2 : w.heap.size < w2.heap.size := hO2.lt
    have hl12 : L2.length ≤ L.length := Nat.le_trans hl2 hl1
    simp at e0 e1
    clear hO2 HO21 hg2 hR2 hy hn hin HR1 HG1
    by_cases hbad : ok = false ∨ (ok = true ∧ (n < 0 ∨ (¬ n < 0 ∧ 8 < n)))
    · have HC : Hid (∀ r' s, validR r' = true → GoodR r' → L ≠ encRow r' ++ s) := fun r' s hv hg h => by
        rw [HE1.out] at h
        unfold encRow at h
        rw [List.append_assoc] at h
        obtain ⟨-, h2⟩ := encInt_pf h
        rw [List.append_assoc] at h2
        have hv8 : r'.vs.length ≤ 8 := by unfold validR at hv; simp at hv; exact hv.2.2
        rcases hbad with hb | ⟨hb, hb2⟩
        · exact HN.out hb _ _ ⟨by omega, by omega⟩ h2
        · rw [HY.out hb] at h2
          obtain ⟨h3, -⟩ := encInt_pf h2
          omega
      have fin : ∀ w3, Rd w3 g L2 → w.grownBy w3 (some g) → RowPost w g L (.returned (.tuple #[.agg #[.int .i64 0, .slice none 0 0], .bool false])) w3 := fun w3 hr hg => ⟨⟨0, []⟩, none, 0, false, L2, rfl, hg, hr, hl12, (fun h => by cases h), fun _ => HC.out⟩
      have FIN : Hid (∀ w3, Rd w3 g L2 → w.grownBy w3 (some g) → RowPost w g L (.returned (.tuple #[.agg #[.int .i64 0, .slice none 0 0], .bool false])) w3) := fin
      clear fin
      rcases hbad with rfl | ⟨rfl, hb1 | ⟨hb1, hb2⟩⟩
      all_goals
        go_wp2
        exact bodyPost_ret (v := .tuple #[.agg #[.int .i64 0, .slice none 0 0], .bool false]) (by simp [results, Tryd.results39, go_sem, e0, e1]) rfl
          (FIN.out _ (by repeat (first | exact HR2.out | refine Rd.grown ?_ (grown_set _ _ _) (fun k hk => by cases hk; simp; omega))) (by repeat (first | exact HG2.out | refine grown_new ?_ (grown_set _ _ _) (fun k hk => by cases hk; simp))))
    · cases ok with
      | false => exact absurd (.inl rfl) hbad
      | true =>
        have hn0 : ¬ n < 0 := fun h => hbad (.inr ⟨rfl, .inl h⟩)
        have hn8 : ¬ 8 < n := fun h => hbad (.inr ⟨rfl, .inr ⟨hn0, h⟩⟩)
        have HE2 : Hid (L = encInt t ++ (encInt n ++ L2)) := by rw [Hid, HE1.out, HY.out rfl]
        clear HY HN HE1 hbad e0 e1 q0 q1
        obtain ⟨m, rfl⟩ : ∃ m : Nat, n = (m : Int) := ⟨n.toNat, by omega⟩
        have hm8 : m ≤ 8 := by omega
        have HO7 : Hid (Own (w2.alloc (.cells #[.int .i64 t, .slice none 0 0] 55)) w2.heap.size 55 2 [.int .i64 t, .slice none 0 0]) := Own.new w2 55 2 #[.int .i64 t, .slice none 0 0] rfl
        go_wp2
        go_loopw [37] (fun i w' => ∃ (vs : List V) (Lj : List UInt8) (x : Value), vs.length ≤ m ∧ i = .int .i64 vs.length ∧ L2 = vs.flatMap encVal ++ Lj ∧ (∀ v ∈ vs, FormV v ∧ InI v.n ∧ v.s.size ≤ L.length) ∧ Rd w' g Lj ∧ Lj.length ≤ L.length ∧ Own w' w.heap.size 55 2 [.int .i64 0, .slice none 0 0] ∧ Own w' w2.heap.size 55 2 [.int .i64 t, x] ∧ OV w' (w2.heap.size + 1) x vs ∧ w.grownBy w' (some g)) (fun i _ => m - (intOf i).toNat)
        case atStart =>
          exact ⟨[], L2, .slice none 0 0, Nat.zero_le _, rfl, rfl, (fun v hv => by cases hv), HR2.out.later (bel1 _ _), hl12, HO22.out.later (bel1 _ _), HO7.out, World.ownsRow_nil _ _ _ _, grown_trans HG2.out (grown_below (bel1 _ _))⟩
        case round =>
          obtain ⟨vs, Lj, x, hvm, rfl, hD, hF, hRj, hlj, hO2j, hO7j, hOV, hGj⟩ := hrel
          obtain ⟨ax, cx, rfl, hVL, hax⟩ := hOV.form
          have HD : Hid (L2 = vs.flatMap encVal ++ Lj) := hD
          have HF : Hid (∀ v ∈ vs, FormV v ∧ InI v.n ∧ v.s.size ≤ L.length) := hF
          have HRj : Hid (Rd wr g Lj) := hRj
          have HO2j : Hid (Own wr w.heap.size 55 2 [.int .i64 0, .slice none 0 0]) := hO2j
          have HO7j : Hid (Own wr w2.heap.size 55 2 [.int .i64 t, .slice ax vs.length cx]) := hO7j
          have HOV : Hid (OV wr (w2.heap.size + 1) (.slice ax vs.length cx) vs) := hOV
          have HGj : Hid (w.grownBy wr (some g)) := hGj
          have HVL : Hid (VLies wr ax vs) := hVL
          have HAX : Hid (∀ y, ax = some y → w2.heap.size + 1 ≤ y.block ∧ y.block < wr.heap.size) := hax
          have hs7 : w2.heap.size < wr.heap.size := hO7j.lt
          clear hD hF hRj hO2j hO7j hOV hGj hVL hax HO7 HO22 HG2 HR2
          by_cases hlt : vs.length < m
          · have hlti : (vs.length : Int) < (m : Int) := by omega
            go_wp2_with fail
            refine (value_any g Lj wr HRj.out).mono ?_
            rintro e w3 ⟨v, ok, L3, rfl, hg3, hR3, hl3, hvn, hvs, hy, hn⟩
            have hO2 := HO2j.out.grown hg3 (by simp; omega)
            have hO7 := HO7j.out.grown hg3 (by simp; omega)
            have HO23 : Hid (Own w3 w.heap.size 55 2 [.int .i64 0, .slice none 0 0]) := hO2
            have HO73 : Hid (Own w3 w2.heap.size 55 2 [.int .i64 t, .slice ax vs.length cx]) := hO7
            have HOV3 : Hid (OV w3 (w2.heap.size + 1) (.slice ax vs.length cx) vs) := HOV.out.grown hg3 (fun k hk => by cases hk; omega)
            have HG3 : Hid (w.grownBy w3 (some g)) := grown_trans HGj.out hg3
            have HR3 : Hid (Rd w3 g L3) := hR3
            have hs3 : w2.heap.size < w3.heap.size := hO7.lt
            have hs23 : w.heap.size < w3.heap.size := hO2.lt
            have hvs' : v.s.size ≤ L.length := Nat.le_trans hvs hlj
            have hl3' : L3.length ≤ L.length := Nat.le_trans hl3 hlj
            have HY : Hid (ok = true → FormV v ∧ Lj = encVal v ++ L3) := hy
            have HN : Hid (ok = false → ∀ u r, FormV u → InI u.n → InI (u.s.size : Int) → Lj ≠ encVal u ++ r) := hn
            have HVN : Hid (InI v.n) := hvn
            have e0 := hO2.cell 0 (by decide)
            have e1 := hO2.cell 1 (by decide)
            have q0 := hO2.soft 0
            have q1 := hO2.soft 1
            have k1 := hO7.cell 1 (by decide)
            simp at e0 e1 k1
            clear hg3 hR3 hy hn hvn hO2 hO7 HO2j HO7j HOV HGj HRj HVL HAX
            cases ok with
            | false =>
              have HC : Hid (∀ r' s, validR r' = true → GoodR r' → L ≠ encRow r' ++ s) := fun r' s hv hg h => by
                rw [HE2.out] at h
                unfold encRow at h
                rw [List.append_assoc] at h
                obtain ⟨-, h2⟩ := encInt_pf h
                rw [List.append_assoc] at h2
                obtain ⟨h3, h4⟩ := encInt_pf h2
                rw [HD.out] at h4
                obtain ⟨u, hu, s', h5⟩ := flat_next encVal_PF vs r'.vs Lj s (fun v hv => (HF.out v hv).1) (formR_of_valid hv) (by omega) h4
                have hgu := goodV_in (hg.2.2.2 u hu)
                exact HN.out rfl u s' (formR_of_valid hv u hu) hgu.1 hgu.2 h5
              go_wp2
              exact bodyPost_ret (v := .tuple #[.agg #[.int .i64 0, .slice none 0 0], .bool false]) (by simp [results, Tryd.results39, go_sem, e0, e1, hs23]) rfl
                ⟨⟨0, []⟩, none, 0, false, L3, rfl, by repeat (first | exact HG3.out | refine grown_new ?_ (grown_set _ _ _) (fun k hk => by cases hk; simp) | refine grown_trans ?_ (grown_below (bel1 _ _))), by repeat (first | exact HR3.out | refine Rd.grown ?_ (grown_set _ _ _) (fun k hk => by cases hk; simp; omega) | refine Rd.later ?_ (bel1 _ _)), hl3', (fun h => by cases h), fun _ => HC.out⟩
            | true =>
              have HF3 : Hid (∀ u ∈ vs ++ [v], FormV u ∧ InI u.n ∧ u.s.size ≤ L.length) := fun u hu => by
                rcases List.mem_append.1 hu with h | h
                · exact HF.out u h
                · rw [List.mem_singleton.1 h]; exact ⟨(HY.out rfl).1, HVN.out, hvs'⟩
              have HD3 : Hid (L2 = (vs ++ [v]).flatMap encVal ++ L3) := by
                rw [Hid, HD.out, (HY.out rfl).2, List.flatMap_append]; simp
              go_wp2_with (first
                | (at_builtin; refine wpList_append_own_at _ rfl _ _ 53 rfl (w2.heap.size + 1) 58 i0 (.agg #[.int .i64 0, .int .i64 0, .string ⟨#[]⟩]) 3 32 Tryd.underlying53 hi0 hz0 hz1 hz2 rfl (by decide) _ vs.length (vs.flatMap cellsV) rfl ((World.ownsRow.alloc HOV3.out _).alloc _) ⟨w3.heap.size + 1, 0, none⟩ 1 1 (cellsV v) rfl rfl ?c1 ?c2 ?c3 ?c4 ?c5 ?_))
              case c1 =>
                intro j u hj
                match j, hj with
                | 0, hj => simp [cellsV] at hj; subst hj; simp [Addr.add]
                | 1, hj => simp [cellsV] at hj; subst hj; simp [Addr.add]
                | 2, hj => simp [cellsV] at hj; subst hj; simp [Addr.add]
              case c2 => intro u hu; simp [cellsV] at hu; rcases hu with rfl | rfl | rfl <;> rfl
              case c3 => unfold maxLen; omega
              case c4 => omega
              case c5 => simp; omega
              · intro v' w5 hown' hgrow _ hat
                have hne : ∀ k, (Value.slice ax vs.length cx).ownBlock = some k → w2.heap.size + 1 ≤ k := fun k hk => (World.ownsRow.lt HOV3.out k hk).1
                have hb2 : Below w3.heap.size w3 ((w3.alloc (.cells #[.int .i64 v.k, .int .i64 v.n, .string v.s] 58)).alloc (.cells #[.int .i64 v.k, .int .i64 v.n, .string v.s] 58)) := (bel1 _ _).alloc (by simp) _
                have hO7 := (HO73.out.later hb2).grown hgrow (fun e => by have := hne _ e.symm; omega)
                have hO2 := (HO23.out.later hb2).grown hgrow (fun e => by have := hne _ e.symm; omega)
                have hRR := (HR3.out.later hb2).grown hgrow (fun k hk => by have := hne k hk; omega)
                have hGG : w.grownBy w5 (some g) := grown_new (grown_trans HG3.out (grown_below hb2)) hgrow (fun k hk => by have := hne k hk; omega)
                have hOV5 : OV w5 (w2.heap.size + 1) v' (vs ++ [v]) := by
                  unfold OV
                  rw [List.length_append, List.flatMap_append]
                  simpa using hown'
                obtain ⟨a5, c5, hv5, -, -⟩ := hOV5.form
                rw [show (vs ++ [v]).length = vs.length + 1 by simp] at hv5
                subst hv5
                obtain ⟨hO7', hg7⟩ := hO7.put 1 (.slice a5 (vs.length + 1) c5)
                have k1' := hO7.cell 1 (by decide)
                have k2' := hO7.soft 1
                have HW : Hid (∀ w6, w6 = w5.setCell ⟨w2.heap.size, 1, none⟩ (.slice a5 (vs.length + 1) c5) → ∃ (us : List V) (Lj : List UInt8) (x : Value), us.length ≤ m ∧ Value.int .i64 (((vs ++ [v]).length : Nat) : Int) = .int .i64 us.length ∧ L2 = us.flatMap encVal ++ Lj ∧ (∀ v ∈ us, FormV v ∧ InI v.n ∧ v.s.size ≤ L.length) ∧ Rd w6 g Lj ∧ Lj.length ≤ L.length ∧ Own w6 w.heap.size 55 2 [.int .i64 0, .slice none 0 0] ∧ Own w6 w2.heap.size 55 2 [.int .i64 t, x] ∧ OV w6 (w2.heap.size + 1) x us ∧ w.grownBy w6 (some g)) := by
                  rintro w6 rfl
                  refine ⟨vs ++ [v], L3, _, by simp; omega, rfl, HD3.out, HF3.out, hRR.grown hg7 (fun k hk => by cases hk; omega), hl3', hO2.grown hg7 (by simp; omega), hO7', hOV5.grown hg7 (fun k hk => by cases hk; omega), grown_new hGG hg7 (fun k hk => by cases hk; omega)⟩
                simp at k1'
                clear hown' hgrow hat hne hb2 hO7 hO2 hRR hGG hOV5 hO7' hg7 HO23 HO73 HOV3 HG3 HR3 HD HF HY HN
                go_wp2
                go_roundw
                case rel =>
                  have := HW.out _ rfl
                  rw [List.length_append] at this
                  exact this
                case measure => simp [intOf]; omega
          · have hmv : vs.length = m := by omega
            have HGR : Hid (GoodR ⟨t, vs⟩) := ⟨HT.out.1, HT.out.2, by simp only; omega, fun v hv => ⟨(HF.out v hv).2.1.1, (HF.out v hv).2.1.2, by have := (HF.out v hv).2.2; omega⟩⟩
            have HEQ : Hid (L = encRow ⟨t, vs⟩ ++ Lj) := by
              rw [Hid, HE2.out, HD.out]
              unfold encRow
              rw [← hmv]
              simp only [List.append_assoc]
            have HFR : Hid (FormR ⟨t, vs⟩) := fun v hv => (HF.out v hv).1
            have k0 := HO7j.out.cell 0 (by decide)
            have k1 := HO7j.out.cell 1 (by decide)
            have e0 := HO2j.out.cell 0 (by decide)
            have e1 := HO2j.out.cell 1 (by decide)
            have q0 := HO2j.out.soft 0
            have q1 := HO2j.out.soft 1
            have hs2r := HO2j.out.lt
            simp at e0 e1 k0 k1
            have FIN : Hid (∀ (ok : Bool) w3, ok = validR ⟨t, vs⟩ → Rd w3 g Lj → w.grownBy w3 (some g) → VLies w3 ax vs → wr.heap.size ≤ w3.heap.size → RowPost w g L (.returned (.tuple #[.agg #[.int .i64 t, .slice ax vs.length cx], .bool ok])) w3) := fun ok w3 hok hr hg hv hsz =>
              ⟨⟨t, vs⟩, ax, cx, ok, Lj, rfl, hg, hr, hlj, fun h => ⟨by rw [← hok]; exact h, HGR.out, HEQ.out, hv, fun y hy => by have := HAX.out y hy; omega⟩, fun h r' s hv' hg' he => by
                rw [HEQ.out] at he
                obtain ⟨h1, -⟩ := encRow_PF _ _ _ _ HFR.out (formR_of_valid hv') he
                rw [h1, hv'] at hok
                rw [h] at hok
                cases hok⟩
            have HSO : Hid (∀ W : World, Below wr.heap.size wr W → W.cell? ⟨w.heap.size, 0, none⟩ = some (.int .i64 0) ∧ W.cell? ⟨w.heap.size, 1, none⟩ = some (.slice none 0 0) ∧ W.frozen? ⟨w.heap.size, 0, none⟩ = false ∧ W.frozen? ⟨w.heap.size, 1, none⟩ = false) := fun W hb => by
              have h := HO2j.out.later hb
              exact ⟨by rw [h.cell 0 (by decide)]; rfl, by rw [h.cell 1 (by decide)]; rfl, h.soft 0, h.soft 1⟩
            clear e0 e1 q0 q1
            subst hmv
            have hcall : ∀ W, Below wr.heap.size wr W → Calls Tryd.prog 46 #[.agg #[.int .i64 t, .slice ax vs.length cx]] W fun e w' => e = .returned (.bool (validR ⟨t, vs⟩)) ∧ Below W.heap.size W w' := fun W hb => validRow_any ⟨t, vs⟩ ax cx W (HVL.out.later hb) HGR.out
            have HCALL : Hid _ := hcall
            have hne1 : ¬ w.heap.size = w2.heap.size := by omega
            have hne2 : ¬ w2.heap.size = w.heap.size := by omega
            clear hcall
            go_wp2
            go_region_held3 (fun w' => w'.cell? ⟨w2.heap.size, 0, none⟩ = some (.int .i64 t) ∧ w'.cell? ⟨w2.heap.size, 1, none⟩ = some (.slice ax vs.length cx))
              (first | go_keep | (go_split_ands; exact ⟨cell_later ‹_› ‹_›, cell_later ‹_› ‹_›⟩))
              (first | (go_at_call 46; refine (HCALL.out _ (by exact (Below.refl _ _).drew)).mono ?_; rintro e w4 ⟨rfl, hbb⟩; have hb4 : Below wr.heap.size wr w4 := (Below.refl _ _).drew.trans hbb; obtain ⟨z0, z1, z2, z3⟩ := HSO.out w4 hb4; have y0 := cell_later hb4 k0; have y1 := cell_later hb4 k1))
            have hR4 := HRj.out.later hb4
            have hG4 : w.grownBy w4 (some g) := grown_trans HGj.out (grown_below hb4)
            have hV4 := HVL.out.later hb4
            have hsz4 := hb4.size
            have HR4 : Hid (Rd w4 g Lj) := hR4
            have HG4 : Hid (w.grownBy w4 (some g)) := hG4
            have HV4 : Hid (VLies w4 ax vs) := hV4
            clear hR4 hG4 hV4 hbb hb4
            go_wp2
            refine bodyPost_ret (v := .tuple #[.agg #[.int .i64 t, .slice ax vs.length cx], .bool (validR ⟨t, vs⟩)]) (by simp [results, Tryd.results39, go_sem, z0, z1]) rfl (FIN.out _ _ rfl ?_ ?_ ?_ ?_)
            · repeat (first | exact HR4.out | refine Rd.grown ?_ (grown_set _ _ _) (fun k hk => by cases hk; simp; omega))
            · repeat (first | exact HG4.out | refine grown_new ?_ (grown_set _ _ _) (fun k hk => by cases hk; simp))
            · repeat (first | exact HV4.out | refine VLies.grown ?_ (grown_set _ _ _) (fun y hy e => by have := (HAX.out y hy).1; have e' := Option.some.inj e; simp at e'; omega))
            · simp; omega
end Go.Proofs.YtakbnhknkbmhlabDoor
