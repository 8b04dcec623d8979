import Derived.Test.YtafighjlciglpaaDoorRfC
import Derived.Test.YtafighjlciglpaaDoorRdF
namespace Go.Proofs.YtafighjlciglpaaDoor
open Go.RowKit
set_option linter.unusedVariables false
set_option maxRecDepth 100000

/-- No rows have these bytes. -/
def NoRows (B : List UInt8) : Prop := ∀ rs : List Rw, (∀ r ∈ rs, Fine r) → InI (rs.length : Int) → B ≠ encRows rs
/-- No row begins here. -/
def NoRow (D : List UInt8) : Prop := ∀ r s, Fine r → D ≠ encRow r ++ s
theorem noRows_next {B D : List UInt8} {n : Nat} {qs : List Q} (hB : B = encInt (n : Int) ++ ((qs.map (·.r)).flatMap encRow ++ D)) (hq : ∀ q ∈ qs, Fine q.r) (hl : qs.length < n) (hD : NoRow D) : NoRows B := fun rs hrs hi h => by
  rw [hB] at h
  unfold encRows at h
  obtain ⟨h3, h4⟩ := encInt_pf h
  obtain ⟨u, hu, s', h5⟩ := flat_next encRow_PF (qs.map (·.r)) rs D [] (fun r hr => by obtain ⟨q, hq', rfl⟩ := List.mem_map.1 hr; exact formR_of_valid (hq q hq').1) (fun r hr => formR_of_valid (hrs r hr).1) (by simp; omega) (by rw [List.append_nil]; exact h4)
  exact hD u s' (hrs u hu) h5
theorem noRow_time {D : List UInt8} (h : ∀ m s, InI m → D ≠ encInt m ++ s) : NoRow D := fun r s hr he => by
  unfold encRow at he
  rw [List.append_assoc] at he
  exact h _ _ ⟨hr.2.1, hr.2.2.1⟩ he
theorem noRow_count {D E : List UInt8} {t : Int} (hD : D = encInt t ++ E) (h : ∀ (r : Rw) s, Fine r → E ≠ encInt (r.vs.length : Int) ++ s) : NoRow D := fun r s hr he => by
  rw [hD] at he
  unfold encRow at he
  rw [List.append_assoc] at he
  obtain ⟨-, h2⟩ := encInt_pf he
  rw [List.append_assoc] at h2
  exact h r _ hr h2
theorem fine_len {r : Rw} (h : Fine r) : r.vs.length ≤ 8 := by have := h.1; unfold validR at this; simp at this; exact this.2.2
theorem fine_lenI {r : Rw} (h : Fine r) : InI (r.vs.length : Int) := ⟨by omega, by have := fine_len h; omega⟩
theorem noRow_value {D E : List UInt8} {t : Int} {k : Nat} {vs : List V} {F : List UInt8} (hD : D = encInt t ++ (encInt (k : Int) ++ (vs.flatMap encVal ++ F))) (hv : ∀ v ∈ vs, validV v = true) (hl : vs.length < k) (h : ∀ u r, validV u = true → InI u.n → InI (u.s.size : Int) → F ≠ encVal u ++ r) : NoRow D := fun r s hr he => by
  rw [hD] at he
  unfold encRow at he
  rw [List.append_assoc] at he
  obtain ⟨-, h2⟩ := encInt_pf he
  rw [List.append_assoc] at h2
  obtain ⟨h3, h4⟩ := encInt_pf h2
  obtain ⟨u, hu, s', h5⟩ := flat_next encVal_PF vs r.vs F s (fun v hv' => form_of_valid (hv v hv')) (formR_of_valid hr.1) (by omega) h4
  have hgu := goodV_in (hr.2.2.2.2 u hu)
  have hva : validV u = true := by have := hr.1; unfold validR at this; simp at this; exact this.1 u hu
  exact h u s' hva hgu.1 hgu.2 h5
theorem noRow_invalid {D F : List UInt8} {r : Rw} (hD : D = encRow r ++ F) (hf : FormR r) (hv : validR r = false) : NoRow D := fun r' s hr he => by
  rw [hD] at he
  obtain ⟨h1, -⟩ := encRow_PF _ _ _ _ hf (formR_of_valid hr.1) he
  rw [h1, hr.1] at hv
  cases hv

theorem cell_new (w : World) (p : Addr) (u : Value) (cs : Array Value) (t j : Nat) (v : Value) (h : cs[j]? = some v) : ((w.setCell p u).alloc (.cells cs t)).cell? ⟨w.heap.size, j, none⟩ = some v := by
  have hj : j < cs.size := by
    rcases Nat.lt_or_ge j cs.size with h' | h'
    · exact h'
    · rw [Array.getElem?_eq_none h'] at h; cases h
  have := (Own.new (w.setCell p u) t cs.size cs rfl).cell j hj
  rw [size_set] at this
  rw [this]
  simpa using h

/-- What the document reads of bytes. -/
def ReadPost (w : World) (B : List UInt8) (e : Ending) (w' : World) : Prop := ∃ (a : Option Addr) (n c : Nat) (ok : Bool), e = .returned (.tuple #[.slice a n c, .bool ok]) ∧ Below w.heap.size w w' ∧
      (ok = true → ∃ rs : List Rw, rs.length = n ∧ (∀ r ∈ rs, Fine r) ∧ B = encRows rs ∧ RLies w' a rs) ∧ (ok = false → NoRows B)

set_option maxHeartbeats 16000000 in
theorem readRows_any (a : Option Addr) (c : Nat) (B : List UInt8) (w : World) (hby : Bytes w a B.length (lat B)) (hap : ∀ x, a = some x → x.block < w.heap.size) (hle : B.length ≤ c) (hrm : c ≤ 140737488355328) (hB : B.length ≤ 549755813888) :
    Calls Tryd.prog 7 #[.slice a B.length c] w (ReadPost w B) := by
  obtain ⟨i0, hi0, hz0, hz1, hz2⟩ := info_parts info58
  obtain ⟨j0, hj0, hy0, hy1, hy2⟩ := info_parts info55
  have HI : Hid (In (w.alloc (.cells #[.slice a B.length c, .int .i64 0, .bool false] 50)) w.heap.size a c B 0 false) := ⟨Own.new w 50 3 #[.slice a B.length c, .int .i64 0, .bool false] rfl, hby.later (bel1 _ _), hap, Nat.zero_le _, hle, hrm⟩
  clear hby hap
  go_enter Tryd.func7, Tryd.ntmps7
  go_wp2_with fail
  refine (numR_any w.heap.size a c B 0 false _ HI.out).mono ?_
  rintro e w1 ⟨n, at1, bad1, rfl, hin, hg1, hI1, hat1, hbb, hy, hn⟩
  rw [List.drop_zero] at hy hn
  have HB1 : Hid (Below w.heap.size w w1) := (bel1 w _).grown hg1 (by simp) (fun k hk => by cases hk; exact Nat.le_refl _)
  have HI1 : Hid (In w1 w.heap.size a c B at1 bad1) := hI1
  have HY : Hid (bad1 = false → B = encInt n ++ B.drop at1) := hy
  have HN : Hid (bad1 = true → NoRows B) := fun h rs hrs hi he => hn rfl h _ _ hi (by rw [he]; rfl)
  have hgl := hI1.lt
  clear hg1 hI1 hbb hy hn HI hin
  by_cases hbad : n < 0 ∨ (¬ n < 0 ∧ (B.length : Int) < n)
  · have FIN : Hid (ReadPost w B (.returned (.tuple #[.slice none 0 0, .bool false])) w1) := ⟨none, 0, 0, false, rfl, HB1.out, (fun h => by cases h), fun _ => by
      cases hb : bad1 with
      | true => exact HN.out hb
      | false =>
        intro rs hrs hi he
        rw [HY.out hb] at he
        have hlen := congrArg List.length (HY.out hb)
        have he2 := he
        unfold encRows at he
        obtain ⟨h3, h4⟩ := encInt_pf he
        have h5 := congrArg List.length h4
        have h6 : rs.length ≤ (rs.flatMap encRow).length := by
          clear h3 h4 h5 he he2 hi hrs
          induction rs with
          | nil => simp
          | cons r rs ih => rw [List.flatMap_cons, List.length_append, List.length_cons]; have := encRow_pos r; omega
        rw [List.length_append] at hlen
        omega⟩
    rcases hbad with hb1 | ⟨hb1, hb2⟩
    all_goals
      go_wp2
      go_ret2
      exact FIN.out
  · have hn0 : ¬ n < 0 := fun h => hbad (.inl h)
    have hn1 : ¬ (B.length : Int) < n := fun h => hbad (.inr ⟨hn0, h⟩)
    obtain ⟨N, rfl⟩ : ∃ N : Nat, n = (N : Int) := ⟨n.toNat, by omega⟩
    have hNB : N ≤ B.length := by omega
    have hNn : ¬ B.length < N := by omega
    have hNd : decide ((N : Int) < 0) = false := decide_eq_false (by omega)
    have hNe : decide ((B.length : Int) < (N : Int)) = false := decide_eq_false (by omega)
    clear hbad
    go_wp2
    go_loopw [5, 7] (fun x i w' => ∃ (qs : List Q) (at_ : Nat) (bad : Bool), qs.length ≤ N ∧ i = .int .i64 qs.length ∧ OR w' (w.heap.size + 1) x qs ∧ In w' w.heap.size a c B at_ bad ∧ Below w.heap.size w w' ∧ (bad = false → (∀ q ∈ qs, Fine q.r) ∧ B = encInt (N : Int) ++ ((qs.map (·.r)).flatMap encRow ++ B.drop at_)) ∧ (bad = true → NoRows B)) (fun _ i _ => N - (intOf i).toNat)
    case atStart =>
      exact ⟨[], at1, bad1, Nat.zero_le _, rfl, OR.nil _ _, HI1.out, HB1.out, fun h => ⟨(fun q hq => by cases hq), HY.out h⟩, HN.out⟩
    case round =>
      generalize wr = wo at *
      obtain ⟨qs, at_, bad, hqN, rfl, hOR, hIr, hBr, hAl, hNo⟩ := hrel
      obtain ⟨ax, cx, rfl, hRL⟩ := hOR.form
      have HOR : Hid (OR wo (w.heap.size + 1) (.slice ax qs.length cx) qs) := hOR
      have HIr : Hid (In wo w.heap.size a c B at_ bad) := hIr
      have HBr : Hid (Below w.heap.size w wo) := hBr
      have HAl : Hid (bad = false → (∀ q ∈ qs, Fine q.r) ∧ B = encInt (N : Int) ++ ((qs.map (·.r)).flatMap encRow ++ B.drop at_)) := hAl
      have HNo : Hid (bad = true → NoRows B) := hNo
      have HRL : Hid (RLies wo ax (qs.map (·.r))) := hRL
      have d0 : wo.cell? ⟨w.heap.size, 0, none⟩ = some (.slice a B.length c) := by rw [hIr.own.cell 0 (by decide)]; rfl
      have d1 : wo.cell? ⟨w.heap.size, 1, none⟩ = some (.int .i64 (at_ : Int)) := by rw [hIr.own.cell 1 (by decide)]; rfl
      have d2 : wo.cell? ⟨w.heap.size, 2, none⟩ = some (.bool bad) := by rw [hIr.own.cell 2 (by decide)]; rfl
      have hgr := hIr.lt
      have hwi := hIr.within
      clear hOR hIr hBr hAl hNo hRL HB1 HI1 HY HN
      by_cases hgo : qs.length < N ∧ bad = false
      · obtain ⟨hlt, rfl⟩ := hgo
        have hlti : (qs.length : Int) < (N : Int) := by omega
        have HFQ : Hid (∀ q ∈ qs, Fine q.r) := (HAl.out rfl).1
        have HNR : Hid (NoRow (B.drop at_) → NoRows B) := fun h => noRows_next (HAl.out rfl).2 (HAl.out rfl).1 hlt h
        have HEB : Hid (B = encInt (N : Int) ++ ((qs.map (·.r)).flatMap encRow ++ B.drop at_)) := (HAl.out rfl).2
        clear HAl HNo d0 d1 HRL
        go_wp2_with fail
        clear d2
        refine (numR_any w.heap.size a c B at_ false _ (HIr.out.later (bel1 _ _))).mono ?_
        rintro e w2 ⟨t, at2, bad2, rfl, ht, hg2, hI2, hat2, -, hy2, hn2⟩
        have hOx := (Own.new wo 54 2 #[.int .i64 0, .slice none 0 0] rfl).grown hg2 (by simp; omega)
        have hGr2 : wo.grownBy w2 (some w.heap.size) := grown_trans (grown_below (bel1 _ _)) hg2
        obtain ⟨hOx', hgx⟩ := hOx.put 0 (.int .i64 t)
        have s0 := hOx.cell 0 (by decide)
        have s1 := hOx.soft 0
        have HOx : Hid (Own (w2.setCell ⟨wo.heap.size, 0, none⟩ (.int .i64 t)) wo.heap.size 54 2 [.int .i64 t, .slice none 0 0]) := hOx'
        have HI2 : Hid (In (w2.setCell ⟨wo.heap.size, 0, none⟩ (.int .i64 t)) w.heap.size a c B at2 bad2) := hI2.grown hgx (fun k hk => by cases hk; omega)
        have HGr : Hid (wo.grownBy (w2.setCell ⟨wo.heap.size, 0, none⟩ (.int .i64 t)) (some w.heap.size)) := grown_new hGr2 hgx (fun k hk => by cases hk; omega)
        have HRF2 : Hid (bad2 = true → NoRow (B.drop at_)) := fun h => noRow_time (hn2 rfl h)
        have HY2 : Hid (bad2 = false → B.drop at_ = encInt t ++ B.drop at2) := hy2
        have HTI : Hid (InI t) := ht
        simp at s0
        clear hg2 hI2 hy2 hn2 hOx hOx' hgx hGr2 ht HIr
        go_wp2_with fail
        clear s0 s1
        refine (numR_any w.heap.size a c B at2 bad2 _ HI2.out).mono ?_
        rintro e w3 ⟨k, at3, bad3, rfl, hkI, hg3, hI3, hat3, hbb3, hy3, hn3⟩
        have HOx3 : Hid (Own w3 wo.heap.size 54 2 [.int .i64 t, .slice none 0 0]) := HOx.out.grown hg3 (by simp; omega)
        have HI3 : Hid (In w3 w.heap.size a c B at3 bad3) := hI3
        have HGr3 : Hid (wo.grownBy w3 (some w.heap.size)) := grown_trans HGr.out hg3
        have HRF3 : Hid (bad3 = true → NoRow (B.drop at_)) := fun h => by
          cases hb2 : bad2 with
          | true => exact HRF2.out hb2
          | false => exact noRow_count (HY2.out hb2) (fun r s hr => hn3 hb2 h _ _ (fine_lenI hr))
        have HY3 : Hid (bad3 = false → B.drop at_ = encInt t ++ (encInt k ++ B.drop at3)) := fun h => by
          have hb2 : bad2 = false := by
            cases hb : bad2 with
            | true => rw [hbb3 hb] at h; cases h
            | false => rfl
          rw [HY2.out hb2, hy3 h]
        clear hg3 hI3 hbb3 hy3 hn3 HOx HI2 HGr HRF2 HY2
        by_cases hkb : k < 0 ∨ (¬ k < 0 ∧ 8 < k)
        · have FIN : Hid (ReadPost w B (.returned (.tuple #[.slice none 0 0, .bool false])) w3) := ⟨none, 0, 0, false, rfl, HBr.out.grown HGr3.out (Nat.le_of_lt hgr) (fun k hk => by cases hk; exact Nat.le_refl _), (fun h => by cases h), fun _ => HNR.out (by
            cases hb : bad3 with
            | true => exact HRF3.out hb
            | false =>
              refine noRow_count (HY3.out hb) (fun r s hr he => ?_)
              obtain ⟨h1, -⟩ := encInt_pf he
              have := fine_len hr
              omega)⟩
          rcases hkb with hb1 | ⟨hb1, hb2⟩
          all_goals
            go_wp2
            go_ret2
            exact FIN.out
        · have hk0 : ¬ k < 0 := fun h => hkb (.inl h)
          have hk8 : ¬ 8 < k := fun h => hkb (.inr ⟨hk0, h⟩)
          obtain ⟨K, rfl⟩ : ∃ K : Nat, k = (K : Int) := ⟨k.toNat, by omega⟩
          have hK8 : K ≤ 8 := by omega
          clear hkb
          go_wp2
          go_loopw [10] (fun j w' => ∃ (vs : List V) (atj : Nat) (badj : Bool) (x : Value), vs.length ≤ K ∧ j = .int .i64 vs.length ∧ (∀ v ∈ vs, InI v.n ∧ v.s.size ≤ B.length) ∧ In w' w.heap.size a c B atj badj ∧ Own w' wo.heap.size 54 2 [.int .i64 t, x] ∧ OV w' (wo.heap.size + 1) x vs ∧ wo.grownBy w' (some w.heap.size) ∧ (badj = false → vs.length ≤ K ∧ (∀ v ∈ vs, validV v = true) ∧ B.drop at_ = encInt t ++ (encInt (K : Int) ++ (vs.flatMap encVal ++ B.drop atj))) ∧ (badj = true → NoRow (B.drop at_))) (fun j _ => K - (intOf j).toNat)
          case atStart =>
            exact ⟨[], at3, bad3, .slice none 0 0, Nat.zero_le _, rfl, (fun v hv => by cases hv), HI3.out, HOx3.out, World.ownsRow_nil _ _ _ _, HGr3.out, fun h => ⟨Nat.zero_le _, (fun v hv => by cases hv), HY3.out h⟩, HRF3.out⟩
          case round =>
            obtain ⟨vs, atj, badj, xv, hvK, rfl, hVs, hIj, hOj, hOV, hGj, hAl, hNo⟩ := hrel
            obtain ⟨av, cv, rfl, hVL, hav⟩ := hOV.form
            have HVs : Hid (∀ v ∈ vs, InI v.n ∧ v.s.size ≤ B.length) := hVs
            have HIj : Hid (In wr w.heap.size a c B atj badj) := hIj
            have HOj : Hid (Own wr wo.heap.size 54 2 [.int .i64 t, .slice av vs.length cv]) := hOj
            have HOV : Hid (OV wr (wo.heap.size + 1) (.slice av vs.length cv) vs) := hOV
            have HGj : Hid (wo.grownBy wr (some w.heap.size)) := hGj
            have HAl : Hid (badj = false → vs.length ≤ K ∧ (∀ v ∈ vs, validV v = true) ∧ B.drop at_ = encInt t ++ (encInt (K : Int) ++ (vs.flatMap encVal ++ B.drop atj))) := hAl
            have HNo : Hid (badj = true → NoRow (B.drop at_)) := hNo
            have HVL : Hid (VLies wr av vs) := hVL
            have HAV : Hid (∀ y, av = some y → wo.heap.size + 1 ≤ y.block ∧ y.block < wr.heap.size) := hav
            have hsr : wo.heap.size < wr.heap.size := hOj.lt
            have d2 : wr.cell? ⟨w.heap.size, 2, none⟩ = some (.bool badj) := by rw [hIj.own.cell 2 (by decide)]; rfl
            have r2 := hIj.own.soft 2
            have k0 := hOj.cell 0 (by decide)
            have k1 := hOj.cell 1 (by decide)
            simp at k0 k1
            clear hVs hIj hOj hOV hGj hAl hNo hVL hav HI3 HOx3 HGr3 HY3 HRF3
            by_cases hgo2 : vs.length < K ∧ badj = false
            · obtain ⟨hlt2, rfl⟩ := hgo2
              have hlti2 : (vs.length : Int) < (K : Int) := by omega
              have HA2 : Hid ((∀ v ∈ vs, validV v = true) ∧ B.drop at_ = encInt t ++ (encInt (K : Int) ++ (vs.flatMap encVal ++ B.drop atj))) := (HAl.out rfl).2
              clear HAl HNo
              go_wp2_with fail
              refine (valueR_any w.heap.size a c B atj false wr HIj.out).mono ?_
              rintro e w4 ⟨v, at4, bad4, rfl, hg4, hI4, hat4, hvn, hvs, -, hy4, hn4⟩
              have hO4 := HOj.out.grown hg4 (by simp; omega)
              have HO4 : Hid (Own w4 wo.heap.size 54 2 [.int .i64 t, .slice av vs.length cv]) := hO4
              have HOV4 : Hid (OV w4 (wo.heap.size + 1) (.slice av vs.length cv) vs) := HOV.out.grown hg4 (fun k hk => by cases hk; omega)
              have HI4 : Hid (In w4 w.heap.size a c B at4 bad4) := hI4
              have HG4 : Hid (wo.grownBy w4 (some w.heap.size)) := grown_trans HGj.out hg4
              have hs4 : wo.heap.size < w4.heap.size := hO4.lt
              have HVs4 : Hid (∀ u ∈ vs ++ [v], InI u.n ∧ u.s.size ≤ B.length) := fun u hu => by
                rcases List.mem_append.1 hu with h | h
                · exact HVs.out u h
                · rw [List.mem_singleton.1 h]; exact ⟨hvn, hvs⟩
              have HY4 : Hid (bad4 = false → (vs ++ [v]).length ≤ K ∧ (∀ u ∈ vs ++ [v], validV u = true) ∧ B.drop at_ = encInt t ++ (encInt (K : Int) ++ ((vs ++ [v]).flatMap encVal ++ B.drop at4))) := fun h => by
                refine ⟨by simp; omega, fun u hu => ?_, ?_⟩
                · rcases List.mem_append.1 hu with h' | h'
                  · exact HA2.out.1 u h'
                  · rw [List.mem_singleton.1 h']; exact (hy4 h).1
                · rw [HA2.out.2, (hy4 h).2, List.flatMap_append]; simp
              have HN4 : Hid (bad4 = true → NoRow (B.drop at_)) := fun h => noRow_value (E := []) HA2.out.2 HA2.out.1 hlt2 (hn4 rfl h)
              have m1 := hO4.cell 1 (by decide)
              simp at m1
              clear hg4 hI4 hy4 hn4 hO4 hvn HOj HOV HIj HGj HVL HAV HVs HA2 k0 k1 d2 r2
              go_wp2_with (first
                | (at_builtin; refine wpList_append_own_at _ rfl _ _ 52 rfl (wo.heap.size + 1) 57 i0 (.agg #[.int .i64 0, .int .i64 0, .string ⟨#[]⟩]) 3 32 Tryd.underlying52 hi0 hz0 hz1 hz2 rfl (by decide) _ vs.length (vs.flatMap cellsV) rfl ((World.ownsRow.alloc HOV4.out _).alloc _) ⟨w4.heap.size + 1, 0, none⟩ 1 1 (cellsV v) rfl rfl ?c1 ?c2 ?c3 ?c4 ?c5 ?_))
              case c1 =>
                intro j u hj
                match j, hj with
                | 0, hj => simp [cellsV] at hj; subst hj; simp [Addr.add]
                | 1, hj => simp [cellsV] at hj; subst hj; simp [Addr.add]
                | 2, hj => simp [cellsV] at hj; subst hj; simp [Addr.add]
              case c2 => intro u hu; simp [cellsV] at hu; rcases hu with rfl | rfl | rfl <;> rfl
              case c3 => unfold maxLen; omega
              case c4 => omega
              case c5 => simp; omega
              · intro v' w5 hown' hgrow _ hat
                have hne : ∀ k, (Value.slice av vs.length cv).ownBlock = some k → wo.heap.size + 1 ≤ k := fun k hk => (World.ownsRow.lt HOV4.out k hk).1
                have hb2 : Below w4.heap.size w4 ((w4.alloc (.cells #[.int .i64 v.k, .int .i64 v.n, .string v.s] 57)).alloc (.cells #[.int .i64 v.k, .int .i64 v.n, .string v.s] 57)) := (bel1 _ _).alloc (by simp) _
                have hO7 := (HO4.out.later hb2).grown hgrow (fun e => by have := hne _ e.symm; omega)
                have hII := (HI4.out.later hb2).grown hgrow (fun k hk => by have := hne k hk; omega)
                have hGG : wo.grownBy w5 (some w.heap.size) := grown_new (grown_trans HG4.out (grown_below hb2)) hgrow (fun k hk => by have := hne k hk; omega)
                have hOV5 : OV w5 (wo.heap.size + 1) v' (vs ++ [v]) := by
                  unfold OV
                  rw [List.length_append, List.flatMap_append]
                  simpa using hown'
                obtain ⟨a5, c5, hv5, -, -⟩ := hOV5.form
                rw [show (vs ++ [v]).length = vs.length + 1 by simp] at hv5
                subst hv5
                obtain ⟨hO7', hg7⟩ := hO7.put 1 (.slice a5 (vs.length + 1) c5)
                have k1' := hO7.cell 1 (by decide)
                have k2' := hO7.soft 1
                have HW : Hid (∀ w6, w6 = w5.setCell ⟨wo.heap.size, 1, none⟩ (.slice a5 (vs.length + 1) c5) → ∃ (us : List V) (atj : Nat) (badj : Bool) (x : Value), us.length ≤ K ∧ Value.int .i64 (((vs ++ [v]).length : Nat) : Int) = .int .i64 us.length ∧ (∀ v ∈ us, InI v.n ∧ v.s.size ≤ B.length) ∧ In w6 w.heap.size a c B atj badj ∧ Own w6 wo.heap.size 54 2 [.int .i64 t, x] ∧ OV w6 (wo.heap.size + 1) x us ∧ wo.grownBy w6 (some w.heap.size) ∧ (badj = false → us.length ≤ K ∧ (∀ v ∈ us, validV v = true) ∧ B.drop at_ = encInt t ++ (encInt (K : Int) ++ (us.flatMap encVal ++ B.drop atj))) ∧ (badj = true → NoRow (B.drop at_))) := by
                  rintro w6 rfl
                  exact ⟨vs ++ [v], at4, bad4, _, by simp; omega, rfl, HVs4.out, hII.grown hg7 (fun k hk => by cases hk; omega), hO7', hOV5.grown hg7 (fun k hk => by cases hk; omega), grown_new hGG hg7 (fun k hk => by cases hk; omega), HY4.out, HN4.out⟩
                simp at k1'
                clear hown' hgrow hat hne hb2 hO7 hII hGG hOV5 hO7' hg7 HO4 HOV4 HI4 HG4 HY4 HN4 HVs4 m1
                go_wp2
                go_roundw
                case rel =>
                  have := HW.out _ rfl
                  rw [List.length_append] at this
                  exact this
                case measure => simp [intOf]; omega
            · have HGR : Hid (GoodR ⟨t, vs⟩) := ⟨HTI.out.1, HTI.out.2, by simp only; omega, fun v hv => ⟨(HVs.out v hv).1.1, (HVs.out v hv).1.2, by have := (HVs.out v hv).2; omega⟩⟩
              have HRES : Hid (∀ bd : Bool, bd = (badj || !validR ⟨t, vs⟩) → (bd = false → (∀ q ∈ qs ++ [(⟨⟨t, vs⟩, av, cv⟩ : Q)], Fine q.r) ∧ B = encInt (N : Int) ++ (((qs ++ [(⟨⟨t, vs⟩, av, cv⟩ : Q)]).map (·.r)).flatMap encRow ++ B.drop atj)) ∧ (bd = true → NoRows B)) := fun bd hbd => by
                cases hb : badj with
                | true =>
                  rw [hb] at hbd
                  simp at hbd
                  exact ⟨(fun h => by rw [hbd] at h; cases h), fun _ => HNR.out (HNo.out hb)⟩
                | false =>
                  obtain ⟨h1, h2, h3⟩ := HAl.out hb
                  have hvk : vs.length = K := by
                    rcases Nat.lt_or_ge vs.length K with h | h
                    · exact absurd ⟨h, hb⟩ hgo2
                    · omega
                  have hER : B.drop at_ = encRow ⟨t, vs⟩ ++ B.drop atj := by
                    rw [h3]
                    unfold encRow
                    rw [← hvk]
                    simp only [List.append_assoc]
                  rw [hb] at hbd
                  refine ⟨fun h => ⟨fun q hq => ?_, ?_⟩, fun h => HNR.out (noRow_invalid hER (fun v hv => form_of_valid (h2 v hv)) ?_)⟩
                  · rcases List.mem_append.1 hq with h' | h'
                    · exact HFQ.out q h'
                    · rw [List.mem_singleton.1 h']
                      rw [h] at hbd
                      exact ⟨by simpa using hbd, HGR.out⟩
                  · rw [List.map_append, List.flatMap_append, List.append_assoc]
                    have := HEB.out
                    rw [hER] at this
                    simpa using this
                  · rw [h] at hbd
                    simpa using hbd
              have hcase : (badj = true ∧ vs.length < K) ∨ (badj = true ∧ ¬ vs.length < K) ∨ (badj = false ∧ ¬ vs.length < K) := by
                by_cases hb : badj = true
                · by_cases h : vs.length < K
                  · exact .inl ⟨hb, h⟩
                  · exact .inr (.inl ⟨hb, h⟩)
                · have hb' : badj = false := by cases badj <;> simp_all
                  exact .inr (.inr ⟨hb', fun h => hgo2 ⟨h, hb'⟩⟩)
              have HORr : Hid (OR wr (w.heap.size + 1) (.slice ax qs.length cx) qs) := HOR.out.grown HGj.out (fun k hk => by cases hk; omega)
              have HBw : Hid (Below w.heap.size w wr) := HBr.out.grown HGj.out (Nat.le_of_lt hgr) (fun k hk => by cases hk; exact Nat.le_refl _)
              clear HAl HNo HNR hgo2
              rcases hcase with ⟨rfl, hl2⟩ | ⟨rfl, hl2⟩ | ⟨rfl, hl2⟩
              all_goals
                first
                | have hl2i : (vs.length : Int) < (K : Int) := by omega
                | have hl2i : ¬ (vs.length : Int) < (K : Int) := by omega
                go_wp2_with fail
                refine (refValidRow_any ⟨t, vs⟩ av cv wr HVL.out HGR.out).mono ?_
                rintro e w5 ⟨rfl, hb5⟩
                have hI5 := HIj.out.later hb5
                have HI5 : Hid (In w5 w.heap.size a c B atj _) := hI5
                have x2 := hI5.own.cell 2 (by decide)
                have y2 := hI5.own.soft 2
                have hO5 := HOj.out.later hb5
                have t0 := hO5.cell 0 (by decide)
                have t1 := hO5.cell 1 (by decide)
                have hs5 := hb5.size
                have HOR5 : Hid (∀ b, OR (w5.setCell ⟨w.heap.size, 2, none⟩ (.bool b)) (w.heap.size + 1) (.slice ax qs.length cx) qs) := fun b => (HORr.out.later hb5).grown (grown_set _ _ _) (fun k hk => by cases hk; simp)
                have HB5 : Hid (Below w.heap.size w w5) := HBw.out.trans (hb5.mono (by omega))
                have HVL5 : Hid (VLies w5 av vs) := HVL.out.later hb5
                have hne5 : ¬ wo.heap.size = w.heap.size := by omega
                have hne6 : ¬ w.heap.size = wo.heap.size := by omega
                have hlt5 : w.heap.size < w5.heap.size := by omega
                have hlt6 : wo.heap.size < w5.heap.size := by omega
                simp at x2 t0 t1
                clear hb5 hI5 hO5 k0 k1 d2 r2 HVL HIj HOj HOV HORr HBw HGj
                cases hv : validR ⟨t, vs⟩
                all_goals
                  rw [hv] at HRES
                  go_wp2_with (first
                    | (at_builtin; refine wpList_append_own_at _ rfl _ _ 23 rfl (w.heap.size + 1) 54 j0 (.agg #[.int .i64 0, .slice none 0 0]) 2 32 Tryd.underlying23 hj0 hy0 hy1 hy2 rfl (by decide) _ qs.length (qs.flatMap cellsR) rfl (World.ownsRow.alloc (HOR5.out _).own _) ⟨w5.heap.size, 0, none⟩ 1 1 (cellsR ⟨⟨t, vs⟩, av, cv⟩) rfl rfl ?c1 ?c2 ?c3 ?c4 ?c5 ?_))
                  case c1 =>
                    intro j u hj
                    match j, hj with
                    | 0, hj => simp [cellsR] at hj; subst hj; simp only [WideShapes.add_plain, Nat.zero_add]; exact cell_new _ _ _ _ _ 0 _ rfl
                    | 1, hj => simp [cellsR] at hj; subst hj; simp only [WideShapes.add_plain, Nat.zero_add]; exact cell_new _ _ _ _ _ 1 _ rfl
                  case c2 => intro u hu; simp [cellsR] at hu; rcases hu with rfl | rfl <;> rfl
                  case c3 => unfold maxLen; omega
                  case c4 => omega
                  case c5 => simp; omega
                  · intro v' w6 hown' hgrow _ hat
                    have hne : ∀ k, (Value.slice ax qs.length cx).ownBlock = some k → w.heap.size + 1 ≤ k := fun k hk => (World.ownsRow.lt (HOR5.out true).own k hk).1
                    have hOR6 : OR w6 (w.heap.size + 1) v' (qs ++ [⟨⟨t, vs⟩, av, cv⟩]) := OR.more (q := ⟨⟨t, vs⟩, av, cv⟩) HOR.out ((HOR5.out _).later (bel1 _ _)) hown' hgrow (by simpa using hat) hgr ((HVL5.out.grown (grown_set _ _ _) (fun y hy e => by have := HAV.out y hy; have e' := Option.some.inj e; simp at e'; omega)).later (bel1 _ _)) (fun y hy => by have := HAV.out y hy; simp; omega)
                    have hI6 := (((HI5.out.mark _).1).later (bel1 _ _)).grown hgrow (fun k hk => by have := hne k hk; omega)
                    have hB6 : Below w.heap.size w w6 := ((HB5.out.setCell (Nat.le_refl _) _).alloc (by simp; omega) _).grown hgrow (by simp; omega) (fun k hk => by have := hne k hk; omega)
                    have HW : Hid (∃ (ps : List Q) (at_ : Nat) (bad : Bool), ps.length ≤ N ∧ Value.int .i64 (((qs ++ [(⟨⟨t, vs⟩, av, cv⟩ : Q)]).length : Nat) : Int) = .int .i64 ps.length ∧ OR w6 (w.heap.size + 1) v' ps ∧ In w6 w.heap.size a c B at_ bad ∧ Below w.heap.size w w6 ∧ (bad = false → (∀ q ∈ ps, Fine q.r) ∧ B = encInt (N : Int) ++ ((ps.map (·.r)).flatMap encRow ++ B.drop at_)) ∧ (bad = true → NoRows B)) :=
                      ⟨qs ++ [(⟨⟨t, vs⟩, av, cv⟩ : Q)], atj, _, by simp; omega, rfl, hOR6, hI6, hB6, (HRES.out _ (by rfl)).1, (HRES.out _ (by rfl)).2⟩
                    clear hown' hgrow hat hne hOR6 hI6 hB6 HOR5 HI5 HB5 HVL5 HRES
                    go_wp2
                    go_roundw
                    case rel =>
                      have := HW.out
                      rw [List.length_append] at this
                      exact this
                    case measure => simp [intOf]; omega
      · by_cases hbt : bad = true
        · subst hbt
          have FIN : Hid (∀ q, ReadPost w B (.returned (.tuple #[.slice ax qs.length cx, .bool false])) (wo.drewN q)) := fun q => ⟨ax, qs.length, cx, false, rfl, below_drewN HBr.out q, (fun h => by cases h), fun _ => HNo.out rfl⟩
          by_cases hlt : qs.length < N
          · have hlti : (qs.length : Int) < (N : Int) := by omega
            go_wp2
            go_quiet (fail)
            go_wp2
            go_ret2
            exact FIN.out _
          · have hlti : ¬ (qs.length : Int) < (N : Int) := by omega
            go_wp2
            go_quiet (fail)
            go_wp2
            go_ret2
            exact FIN.out _
        · obtain rfl : bad = false := by cases bad <;> simp_all
          have hlti : ¬ (qs.length : Int) < (N : Int) := fun h => hgo ⟨by omega, rfl⟩
          have hqe : qs.length = N := by omega
          obtain ⟨hfq, hBe⟩ := HAl.out rfl
          by_cases hae : at_ = B.length
          · have hai : ((at_ : Int) == (B.length : Int)) = true := by simp [hae]
            have FIN : Hid (∀ q, ReadPost w B (.returned (.tuple #[.slice ax qs.length cx, .bool true])) (wo.drewN q)) := fun q => ⟨ax, qs.length, cx, true, rfl, below_drewN HBr.out q, fun _ => ⟨qs.map (·.r), by simp, (fun r hr => by obtain ⟨q, hq, rfl⟩ := List.mem_map.1 hr; exact hfq q hq), by
              rw [hae, List.drop_length, List.append_nil] at hBe
              unfold encRows
              rw [List.length_map, hqe]
              exact hBe, HRL.out.later (below_drewN (Below.refl _ _) q)⟩, fun h => by cases h⟩
            clear hfq hBe hgo hqe
            go_wp2
            go_quiet (fail)
            go_wp2
            go_ret2
            exact FIN.out _
          · have hai : ((at_ : Int) == (B.length : Int)) = false := by rw [beq_eq_false_iff_ne]; omega
            have FIN : Hid (∀ q, ReadPost w B (.returned (.tuple #[.slice ax qs.length cx, .bool false])) (wo.drewN q)) := fun q => ⟨ax, qs.length, cx, false, rfl, below_drewN HBr.out q, (fun h => by cases h), fun _ rs hrs hi he => by
              have hE : B = encRows (qs.map (·.r)) ++ B.drop at_ := by
                unfold encRows
                rw [List.length_map, hqe, List.append_assoc]
                exact hBe
              rw [hE] at he
              obtain ⟨-, h2⟩ := encRows_pf (r := B.drop at_) (s := []) (fun r hr => by obtain ⟨q, hq, rfl⟩ := List.mem_map.1 hr; exact formR_of_valid (hfq q hq).1) (fun r hr => formR_of_valid (hrs r hr).1) (by rw [List.append_nil]; exact he)
              have := congrArg List.length h2
              rw [List.length_drop, List.length_nil] at this
              omega⟩
            clear hfq hBe hgo hqe
            go_wp2
            go_quiet (fail)
            go_wp2
            go_ret2
            exact FIN.out _
end Go.Proofs.YtafighjlciglpaaDoor
