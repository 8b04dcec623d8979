import Derived.Test.YtobhccmnlmlapaaGreatDoorQRdD
namespace Go.Proofs.YtobhccmnlmlapaaGreatDoor.Wr
open Go.RowKit
set_option linter.unusedVariables false
set_option maxRecDepth 100000

theorem info58 : (Tryz.prog.info? 48).map (fun i => (i.zero, i.size, i.bytes)) = some (some (.agg #[.int .i64 0, .int .i64 0, .string ⟨#[]⟩]), 3, 32) := by kernel_rfl
theorem info55 : (Tryz.prog.info? 122).map (fun i => (i.zero, i.size, i.bytes)) = some (some (.agg #[.int .i64 0, .slice none 0 0]), 2, 32) := by kernel_rfl
def cellsV (v : V) : List Value := [.int .i64 v.k, .int .i64 v.n, .string v.s]
/-- Values in a row of one's own. -/
def OV (w : World) (B : Nat) (x : Value) (vs : List V) : Prop := w.ownsRow B 48 3 x vs.length (vs.flatMap cellsV)
theorem flat_at {α β : Type} (f : α → List β) (m : Nat) (hf : ∀ a, (f a).length = m) : ∀ (l : List α) (i j : Nat) (hi : i < l.length), j < m → (l.flatMap f)[i * m + j]? = (f l[i])[j]?
  | a :: l, 0, j, _, hj => by
    rw [List.flatMap_cons, Nat.zero_mul, Nat.zero_add, List.getElem?_append_left (by rw [hf]; exact hj)]; rfl
  | a :: l, i + 1, j, hi, hj => by
    have ih := flat_at f m hf l i j (by simpa using hi) hj
    rw [List.flatMap_cons, List.getElem?_append_right (by rw [hf, Nat.add_mul]; omega), hf, show (i + 1) * m + j - m = i * m + j by rw [Nat.add_mul]; omega, ih]
    rfl
theorem OV.form {w : World} {B : Nat} {x : Value} {vs : List V} (h : OV w B x vs) : ∃ a c, x = .slice a vs.length c ∧ VLies w a vs ∧ ∀ y, a = some y → B ≤ y.block ∧ y.block < w.heap.size := by
  rcases h.2 with ⟨h1, h2⟩ | ⟨g, c, cur, h1, h2, h3, -⟩
  · refine ⟨none, 0, by rw [h1, h2], fun i hi => absurd hi (by omega), fun y hy => by cases hy⟩
  · refine ⟨some ⟨g, 0, none⟩, c, h1, fun i hi => ?_, fun y hy => ?_⟩
    · rw [h1] at h
      have key : ∀ j, j < 3 → w.cell? ⟨g, i * 3 + j, none⟩ = (cellsV vs[i])[j]? := fun j hj => by
        rw [World.ownsRow.cellAt h (i * 3 + j) (by omega), flat_at cellsV 3 (fun _ => rfl) vs i j hi hj]
      exact ⟨g, 0, rfl, by rw [Nat.zero_add]; exact key 0 (by decide), by rw [Nat.zero_add]; exact key 1 (by decide), by rw [Nat.zero_add]; exact key 2 (by decide)⟩
    · cases hy
      rcases Nat.lt_or_ge g w.heap.size with h | h
      · exact ⟨h2, h⟩
      · rw [Array.getElem?_eq_none h] at h3; cases h3
theorem OV.grown {w w' : World} {B : Nat} {x : Value} {vs : List V} {r : Option Nat} (h : OV w B x vs) (hg : w.grownBy w' r) (hr : ∀ k, r = some k → k < B) : OV w' B x vs :=
  own_grown h hg fun k hk e => by have h1 := (World.ownsRow.lt h k hk).1; have h2 := hr k e.symm; omega
theorem OV.later {w w' : World} {B : Nat} {x : Value} {vs : List V} (h : OV w B x vs) (hb : Below w.heap.size w w') : OV w' B x vs := own_later h hb
theorem VLies.grown {w w' : World} {a : Option Addr} {vs : List V} {r : Option Nat} (h : VLies w a vs) (hg : w.grownBy w' r) (hne : ∀ x, a = some x → some x.block ≠ r) : VLies w' a vs := fun i hi => by
  obtain ⟨b, off, e, h1, h2, h3⟩ := h i hi
  have hn := hne ⟨b, off, none⟩ e
  exact ⟨b, off, e, hg.cell h1 hn, hg.cell h2 hn, hg.cell h3 hn⟩

/-- What reading a row gives. -/
def RowPost (w : World) (g : Nat) (L : List UInt8) (e : Ending) (w' : World) : Prop := ∃ (r : Rw) (av : Option Addr) (cv : Nat) (ok : Bool) (L' : List UInt8), e = .returned (.tuple #[.agg #[.int .i64 r.t, .slice av r.vs.length cv], .bool ok]) ∧ w.grownBy w' (some g) ∧ Rd w' g L' ∧ L'.length ≤ L.length ∧
      (ok = true → validR r = true ∧ GoodR r ∧ L = encRow r ++ L' ∧ VLies w' av r.vs ∧ ∀ y, av = some y → w.heap.size ≤ y.block ∧ y.block < w'.heap.size) ∧
      (ok = false → ∀ r' s, validR r' = true → GoodR r' → L ≠ encRow r' ++ s)

theorem goodV_in {v : V} (h : GoodV v) : InI v.n ∧ InI (v.s.size : Int) := ⟨⟨h.1, h.2.1⟩, ⟨by omega, by have := h.2.2; omega⟩⟩

theorem OV.base {w : World} {B B' : Nat} {x : Value} {vs : List V} (h : OV w B x vs) (hb : B' ≤ B) : OV w B' x vs := by
  refine ⟨h.1, ?_⟩
  rcases h.2 with h2 | ⟨g, cap, cur, h1, h2, h3⟩
  · exact .inl h2
  · exact .inr ⟨g, cap, cur, h1, Nat.le_trans hb h2, h3⟩
theorem flat_len {α : Type} (enc : α → List UInt8) (hp : ∀ x, 0 < (enc x).length) : ∀ xs : List α, xs.length ≤ (xs.flatMap enc).length
  | [] => by simp
  | x :: xs => by
    rw [List.flatMap_cons, List.length_append, List.length_cons]
    have := hp x
    have := flat_len enc hp xs
    omega
/-- What reading values gives. -/
def ValsPost (w : World) (g : Nat) (L : List UInt8) (e : Ending) (w' : World) : Prop := ∃ (vs : List V) (a : Option Addr) (c : Nat) (ok : Bool) (L' : List UInt8), e = .returned (.tuple #[.slice a vs.length c, .bool ok]) ∧ w.grownBy w' (some g) ∧ Rd w' g L' ∧ L'.length ≤ L.length ∧
      (ok = true → vs.length ≤ 8 ∧ (∀ v ∈ vs, FormV v ∧ InI v.n ∧ v.s.size ≤ L.length) ∧ L = (encInt (vs.length : Int) ++ vs.flatMap encVal) ++ L' ∧ OV w' w.heap.size (.slice a vs.length c) vs) ∧
      (ok = false → vs = [] ∧ a = none ∧ c = 0 ∧ ∀ (us : List V) s, us.length ≤ 8 → (∀ u ∈ us, FormV u ∧ InI u.n ∧ InI (u.s.size : Int)) → L ≠ (encInt (us.length : Int) ++ us.flatMap encVal) ++ s)
set_option maxHeartbeats 8000000 in
theorem values_any (g : Nat) (L : List UInt8) (w : World) (hR : Rd w g L) (hL : L.length ≤ 549755813888) :
    Calls Tryz.prog 97 #[.pointer (some ⟨g, 0, none⟩)] w (ValsPost w g L) := by
  obtain ⟨i0, hi0, hz0, hz1, hz2⟩ := info_parts info58
  have HR : Hid (Rd w g L) := hR
  have hgl := hR.lt
  clear hR
  go_enter Tryz.func97, Tryz.ntmps97
  go_wp2_with fail
  refine (count_any g L w HR.out).mono ?_
  rintro e w1 ⟨m, ok, L1, rfl, hg1, hR1, hl1, hy, hn⟩
  have HG1 : Hid (w.grownBy w1 (some g)) := hg1
  have HR1 : Hid (Rd w1 g L1) := hR1
  have hs1 := hg1.size
  have HY := hidMk hy
  have HN := hidMk hn
  clear hg1 hR1 hy hn HR
  by_cases hbad : ok = false ∨ (ok = true ∧ (8 : Int) < (m : Int))
  · have FIN : Hid (ValsPost w g L (.returned (.tuple #[.slice none 0 0, .bool false])) w1) := ⟨[], none, 0, false, L1, rfl, HG1.out, HR1.out, hl1, (fun h => by cases h), fun _ => ⟨rfl, rfl, rfl, fun us s hu8 hus h => by
      rw [List.append_assoc] at h
      rcases hbad with hb | ⟨hb, hb2⟩
      · exact (HN.out hb).2 us.length _ ⟨by omega, by omega⟩ (by rw [List.length_append]; have := flat_len encVal encVal_pos us; omega) h
      · rw [(HY.out hb).1] at h
        obtain ⟨h3, -⟩ := encInt_pf h
        omega⟩⟩
    rcases hbad with rfl | ⟨rfl, hb1⟩
    · have hm0 := (HN.out rfl).1
      subst hm0
      go_wp2
      go_ret2
      exact FIN.out
    · go_wp2
      go_ret2
      exact FIN.out
  · cases ok with
    | false => exact absurd (.inl rfl) hbad
    | true =>
      have hm8 : m ≤ 8 := by
        rcases Nat.lt_or_ge 8 m with h | h
        · exact absurd (.inr ⟨rfl, by omega⟩) hbad
        · exact h
      have hm8i : ¬ (8 : Int) < (m : Int) := by omega
      have HE1 : Hid (L = encInt m ++ L1) := (HY.out rfl).1
      clear HY HN hbad
      go_wp2
      go_loopw [6, 21] (fun x i w' => ∃ (vs : List V) (Lj : List UInt8), vs.length ≤ m ∧ i = .int .i64 vs.length ∧ L1 = vs.flatMap encVal ++ Lj ∧ (∀ v ∈ vs, FormV v ∧ InI v.n ∧ v.s.size ≤ L.length) ∧ Rd w' g Lj ∧ Lj.length ≤ L.length ∧ OV w' w1.heap.size x vs ∧ w.grownBy w' (some g) ∧ w1.heap.size ≤ w'.heap.size) (fun _ i _ => m - (intOf i).toNat)
      case atStart =>
        exact ⟨[], L1, Nat.zero_le _, rfl, rfl, (fun v hv => by cases hv), HR1.out, hl1, World.ownsRow_nil _ _ _ _, HG1.out, Nat.le_refl _⟩
      case round =>
        obtain ⟨vs, Lj, hvm, rfl, hD, hF, hRj, hlj, hOV, hGj, hszj⟩ := hrel
        obtain ⟨ax, cx, rfl, hVL, hax⟩ := hOV.form
        have HD : Hid (L1 = vs.flatMap encVal ++ Lj) := hD
        have HF : Hid (∀ v ∈ vs, FormV v ∧ InI v.n ∧ v.s.size ≤ L.length) := hF
        have HRj : Hid (Rd wr g Lj) := hRj
        have HOV : Hid (OV wr w1.heap.size (.slice ax vs.length cx) vs) := hOV
        have HGj : Hid (w.grownBy wr (some g)) := hGj
        clear hD hF hRj hOV hGj hVL hax HG1 HR1
        by_cases hlt : vs.length < m
        · have hlti : (vs.length : Int) < (m : Int) := by omega
          go_wp2_with fail
          refine (value_any g Lj wr HRj.out).mono ?_
          rintro e w3 ⟨v, ok, L3, rfl, hg3, hR3, hl3, hvn, hvs, hy, hn⟩
          have HOV3 : Hid (OV w3 w1.heap.size (.slice ax vs.length cx) vs) := HOV.out.grown hg3 (fun k hk => by cases hk; omega)
          have HG3 : Hid (w.grownBy w3 (some g)) := grown_trans HGj.out hg3
          have HR3 : Hid (Rd w3 g L3) := hR3
          have hs3 := hg3.size
          have hvs' : v.s.size ≤ L.length := Nat.le_trans hvs hlj
          have hl3' : L3.length ≤ L.length := Nat.le_trans hl3 hlj
          have HY : Hid (ok = true → FormV v ∧ Lj = encVal v ++ L3) := hy
          have HN : Hid (ok = false → ∀ u r, FormV u → InI u.n → InI (u.s.size : Int) → Lj ≠ encVal u ++ r) := hn
          have HVN : Hid (InI v.n) := hvn
          clear hg3 hR3 hy hn hvn HOV HGj HRj
          cases ok with
          | false =>
            have FIN : Hid (∀ w5, w.grownBy w5 (some g) → Rd w5 g L3 → ValsPost w g L (.returned (.tuple #[.slice none 0 0, .bool false])) w5) := fun w5 hg5 hr5 => ⟨[], none, 0, false, L3, rfl, hg5, hr5, hl3', (fun h => by cases h), fun _ => ⟨rfl, rfl, rfl, fun us s hu8 hus h => by
              rw [HE1.out, List.append_assoc] at h
              obtain ⟨h3, h4⟩ := encInt_pf h
              rw [HD.out] at h4
              obtain ⟨u, hu, s', h5⟩ := flat_next encVal_PF vs us Lj s (fun v hv => (HF.out v hv).1) (fun u hu => (hus u hu).1) (by omega) h4
              exact HN.out rfl u s' (hus u hu).1 (hus u hu).2.1 (hus u hu).2.2 h5⟩⟩
            go_wp2
            go_ret2
            exact FIN.out _ (grown_trans HG3.out (grown_below (bel1 _ _))) (HR3.out.later (bel1 _ _))
          | true =>
            have HF3 : Hid (∀ u ∈ vs ++ [v], FormV u ∧ InI u.n ∧ u.s.size ≤ L.length) := fun u hu => by
              rcases List.mem_append.1 hu with h | h
              · exact HF.out u h
              · rw [List.mem_singleton.1 h]; exact ⟨(HY.out rfl).1, HVN.out, hvs'⟩
            have HD3 : Hid (L1 = (vs ++ [v]).flatMap encVal ++ L3) := by
              rw [Hid, HD.out, (HY.out rfl).2, List.flatMap_append]; simp
            go_wp2_with (first
              | (at_builtin; refine wpList_append_own_at _ rfl _ _ 36 rfl w1.heap.size 48 i0 (.agg #[.int .i64 0, .int .i64 0, .string ⟨#[]⟩]) 3 32 Tryz.underlying36 hi0 hz0 hz1 hz2 rfl (by decide) _ vs.length (vs.flatMap cellsV) rfl ((World.ownsRow.alloc HOV3.out _).alloc _) ⟨w3.heap.size + 1, 0, none⟩ 1 1 (cellsV v) rfl rfl ?c1 ?c2 ?c3 ?c4 ?c5 ?_))
            case c1 =>
              intro j u hj
              match j, hj with
              | 0, hj => simp [cellsV] at hj; subst hj; simp [Addr.add]
              | 1, hj => simp [cellsV] at hj; subst hj; simp [Addr.add]
              | 2, hj => simp [cellsV] at hj; subst hj; simp [Addr.add]
            case c2 => intro u hu; simp [cellsV] at hu; rcases hu with rfl | rfl | rfl <;> rfl
            case c3 => unfold maxLen; omega
            case c4 => omega
            case c5 => simp; omega
            · intro v' w5 hown' hgrow _ hat
              have hne : ∀ k, (Value.slice ax vs.length cx).ownBlock = some k → w1.heap.size ≤ k := fun k hk => (World.ownsRow.lt HOV3.out k hk).1
              have hb2 : Below w3.heap.size w3 ((w3.alloc (.cells #[.int .i64 v.k, .int .i64 v.n, .string v.s] 48)).alloc (.cells #[.int .i64 v.k, .int .i64 v.n, .string v.s] 48)) := (bel1 _ _).alloc (by simp) _
              have hg1s : g < w1.heap.size := by omega
              have hRR := (HR3.out.later hb2).grown hgrow (fun k hk => by have := hne k hk; omega)
              have hGG : w.grownBy w5 (some g) := grown_new (grown_trans HG3.out (grown_below hb2)) hgrow (fun k hk => by have := hne k hk; omega)
              have hOV5 : OV w5 w1.heap.size v' (vs ++ [v]) := by
                unfold OV
                rw [List.length_append, List.flatMap_append]
                simpa using hown'
              have hsz5 := hgrow.size
              have hb2s := hb2.size
              have HW : Hid (∃ (us : List V) (Lj : List UInt8), us.length ≤ m ∧ Value.int .i64 (((vs ++ [v]).length : Nat) : Int) = .int .i64 us.length ∧ L1 = us.flatMap encVal ++ Lj ∧ (∀ v ∈ us, FormV v ∧ InI v.n ∧ v.s.size ≤ L.length) ∧ Rd w5 g Lj ∧ Lj.length ≤ L.length ∧ OV w5 w1.heap.size v' us ∧ w.grownBy w5 (some g) ∧ w1.heap.size ≤ w5.heap.size) :=
                ⟨vs ++ [v], L3, by simp; omega, rfl, HD3.out, HF3.out, hRR, hl3', hOV5, hGG, by omega⟩
              clear hown' hgrow hat hne hb2 hRR hGG hOV5 HOV3 HG3 HR3 HD HF HY HN
              go_wp2
              go_roundw
              case rel =>
                have := HW.out
                rw [List.length_append] at this
                exact this
              case measure => simp [intOf]; omega
        · have hmv : vs.length = m := by omega
          have FIN : Hid (ValsPost w g L (.returned (.tuple #[.slice ax vs.length cx, .bool true])) wr) := ⟨vs, ax, cx, true, Lj, rfl, HGj.out, HRj.out, hlj, fun _ => ⟨by omega, HF.out, by rw [HE1.out, HD.out, hmv, List.append_assoc], HOV.out.base hs1⟩, fun h => by cases h⟩
          subst hmv
          go_wp2
          go_ret2
          exact FIN.out
end Go.Proofs.YtobhccmnlmlapaaGreatDoor.Wr
