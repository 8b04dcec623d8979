import Derived.Test.YtplaplhmjpfbjaaGreatDoorXg1
import Derived.Test.YtplaplhmjpfbjaaGreatDoorXpP
namespace Go.Proofs.YtplaplhmjpfbjaaGreatDoor
open Go.RowKit
set_option linter.unusedVariables false
set_option linter.unusedSimpArgs false
set_option maxRecDepth 100000

/-- A place as a number. -/
def ixI : Option Nat → Int
  | some i => i
  | none => -1
/-- Columns that lie there. -/
def ColsAt (w : World) (a : Option Addr) (l : List Co) : Prop := ∀ i (h : i < l.length), ∃ b off, a = some ⟨b, off, none⟩ ∧ w.cell? ⟨b, off + i * 2, none⟩ = some (.string l[i].nm) ∧ w.cell? ⟨b, off + i * 2 + 1, none⟩ = some (.int .i64 l[i].k)
theorem ColsAt.later {w w' : World} {a : Option Addr} {l : List Co} (h : ColsAt w a l) (hb : Below w.heap.size w w') : ColsAt w' a l := fun i hi => by
  obtain ⟨b, off, h1, h2, h3⟩ := h i hi
  exact ⟨b, off, h1, xcell hb h2, xcell hb h3⟩

theorem placeF_any (nm n2 : ByteArray) (k : Int) (b : Nat) (w : World) (h : w.cell? ⟨b, 0, none⟩ = some (.string nm)) :
    Calls Tryz.prog 45 #[.agg #[.string n2, .int .i64 k], .pointer (some ⟨b, 0, none⟩)] w fun e w' => e = .returned (.bool (decide (n2 = nm))) ∧ Below w.heap.size w w' := by
  have hl := World.block_lt_of_cell? _ _ h
  have hl2 : b < w.heap.size := hl
  have hd : (n2.toList == nm.toList) = decide (n2 = nm) := by
    by_cases e : n2 = nm
    · rw [xeq e, decide_eq_true e]
    · rw [xne e, decide_eq_false e]
  go_enter Tryz.func45, Tryz.ntmps45
  go_wp2
  go_ret
  exact ⟨rfl, xbel1 _ _⟩

set_option maxHeartbeats 2000000 in
theorem indexFunc_any (nm : ByteArray) (a : Option Addr) (c : Nat) (l : List Co) (b : Nat) (w : World) (hc : ColsAt w a l) (hm : l.length ≤ maxLen) (h : w.cell? ⟨b, 0, none⟩ = some (.string nm)) :
    Calls Tryz.prog 44 #[.slice a l.length c, .func (.func 45) #[] #[.pointer (some ⟨b, 0, none⟩)]] w fun e w' => e = .returned (.int .i64 (ixI (colIx l nm))) ∧ Below w.heap.size w w' := by
  have HC : Hid (ColsAt w a l) := hc
  have HN : Hid (w.cell? ⟨b, 0, none⟩ = some (.string nm)) := h
  have hm' : l.length ≤ 9223372036854775807 := hm
  clear hc h hm
  go_enter Tryz.func44, Tryz.ntmps44
  go_wp2
  go_loopw [8] (fun i w' => ∃ j : Nat, j ≤ l.length ∧ i = .int .i64 j ∧ Below w.heap.size w w' ∧ ∀ m (hm : m < l.length), m < j → l[m].nm ≠ nm) (fun i _ => l.length - (intOf i).toNat)
  case atStart => exact ⟨0, Nat.zero_le _, rfl, Below.refl _ _, fun m _ h => absurd h (by omega)⟩
  case round =>
    obtain ⟨j, hj, rfl, hb, hno⟩ := hrel
    have HB : Hid (Below w.heap.size w wr) := hb
    have HNO : Hid (∀ m (hm : m < l.length), m < j → l[m].nm ≠ nm) := hno
    clear hb hno
    by_cases hlt : j < l.length
    · have hji : (j : Int) < (l.length : Int) := by omega
      obtain ⟨bb, off, ha, e0, e1⟩ := (HC.out.later HB.out) j hlt
      subst ha
      have hF : Hid (Calls Tryz.prog 45 #[.agg #[.string l[j].nm, .int .i64 l[j].k], .pointer (some ⟨b, 0, none⟩)] wr fun e w' => e = .returned (.bool (decide (l[j].nm = nm))) ∧ Below wr.heap.size wr w') := placeF_any nm l[j].nm l[j].k b wr (xcell HB.out HN.out)
      generalize hK : l[j].nm = NM at *
      generalize l[j].k = KK at *
      have HK : Hid (l[j].nm = NM) := hK
      clear hK
      go_wp2_with fail
      refine hF.out.mono ?_
      rintro e w2 ⟨rfl, hb2⟩
      have HB2 : Hid (Below w.heap.size w w2) := HB.out.trans (hb2.mono HB.out.size)
      clear hb2 hF
      by_cases hq : NM = nm
      · have hix : colIx l nm = some j := by
          unfold colIx
          rw [List.findIdx?_eq_some_iff_getElem]
          refine ⟨hlt, by simp [HK.out, hq], fun m hm => by simp; exact HNO.out m (by omega) hm⟩
        have HIX : Hid (colIx l nm = some j) := hix
        rw [decide_eq_true hq]
        clear hix hq
        go_wp2_with fail
        go_ret
        rw [HIX.out]
        exact ⟨rfl, HB2.out⟩
      · rw [decide_eq_false hq]
        have HQ : Hid (¬ NM = nm) := hq
        clear hq
        go_wp2_with fail
        exact ⟨⟨j + 1, by omega, by go_num, HB2.out, fun m hm hmj => by
          rcases Nat.lt_or_ge m j with h | h
          · exact HNO.out m hm h
          · have : m = j := by omega
            subst this
            rw [HK.out]
            exact HQ.out⟩, by simp [intOf]; omega⟩
    · obtain rfl : j = l.length := by omega
      have hix : colIx l nm = none := by
        unfold colIx
        rw [List.findIdx?_eq_none_iff]
        intro x hx
        obtain ⟨m, hm, rfl⟩ := List.getElem_of_mem hx
        simp
        exact HNO.out m hm hm
      have HIX : Hid (colIx l nm = none) := hix
      clear hix
      go_wp2_with fail
      go_ret
      rw [HIX.out]
      exact ⟨rfl, HB.out⟩

set_option maxHeartbeats 2000000 in
theorem place_any (nm : ByteArray) (a : Option Addr) (c : Nat) (l : List Co) (w : World) (hc : ColsAt w a l) (hm : l.length ≤ maxLen) :
    Calls Tryz.prog 23 #[.slice a l.length c, .string nm] w fun e w' => e = .returned (.int .i64 (ixI (colIx l nm))) ∧ Below w.heap.size w w' := by
  have HI : Hid (∀ W, Below w.heap.size w W → W.cell? ⟨w.heap.size, 0, none⟩ = some (.string nm) → Calls Tryz.prog 44 #[.slice a l.length c, .func (.func 45) #[] #[.pointer (some ⟨w.heap.size, 0, none⟩)]] W fun e w' => e = .returned (.int .i64 (ixI (colIx l nm))) ∧ Below W.heap.size W w') := fun W hW h => indexFunc_any nm a c l w.heap.size W (hc.later hW) hm h
  have hmf := xmf
  clear hc hm
  generalize (ixI (colIx l nm)) = N at *
  go_enter Tryz.func23, Tryz.ntmps23
  go_wp2_with fail
  refine (HI.out _ (xbel1 _ _) (by go_simp)).mono ?_
  rintro e w2 ⟨rfl, hb2⟩
  have HB2 : Hid (Below w.heap.size w w2) := (xbel1 w _).trans (hb2.mono (by simp))
  clear hb2 HI
  go_wp2_with fail
  go_ret
  exact ⟨rfl, HB2.out⟩
end Go.Proofs.YtplaplhmjpfbjaaGreatDoor
namespace Go.Proofs.YtplaplhmjpfbjaaGreatDoor
set_option linter.unusedVariables false
set_option linter.unusedSimpArgs false

mutual
/-- How many tokens a tree has at the least. -/
def szX : X → Nat
  | .lit _ _ _ => 1
  | .col _ _ => 1
  | .pre _ _ x => 1 + szX x
  | .inf _ _ l r => 1 + szX l + szX r
  | .app _ _ l => 1 + szXs l
def szXs : List X → Nat
  | [] => 0
  | x :: l => szX x + szXs l
end
theorem szX_pos (x : X) : 0 < szX x := by cases x <;> rw [szX] <;> omega
theorem szXs_len : ∀ l, l.length ≤ szXs l
  | [] => by simp
  | x :: l => by have := szXs_len l; have := szX_pos x; rw [szXs, List.length_cons]; omega
theorem szXs_append : ∀ l l', szXs (l ++ l') = szXs l + szXs l'
  | [], l' => by rw [List.nil_append, szXs, Nat.zero_add]
  | x :: l, l' => by rw [List.cons_append, szXs, szXs, szXs_append l l', Nat.add_assoc]
def szM : Mode → Nat
  | .J _ l => szX l
  | .A _ _ l => 1 + szXs l
  | .Z _ _ => 1
  | .D _ => 0
/-- A tree has no more tokens than were taken. -/
theorem Ps.size {L : ByteArray → Int → Int → ByteArray → Prop} {E : Nat} {m : Mode} {lev : Nat} {ts : List Tk} {o : PR} (h : Ps L E m lev ts o) :
    ∀ x ts', o = .ok (x, ts') → szX x + ts'.length ≤ szM m + ts.length := by
  induction h with
  | jend h => intro x ts' e; cases e; exact Nat.le_refl _
  | jok _ _ _ ih1 ih2 =>
    intro x ts' e
    have h1 := ih1 _ _ rfl
    have h2 := ih2 _ _ e
    simp only [szM] at *
    omega
  | jstep _ _ _ ih1 ih2 =>
    intro x ts' e
    have h1 := ih1 _ _ rfl
    have h2 := ih2 _ _ e
    simp only [szM, szX, List.length_cons] at *
    omega
  | pok _ _ _ _ ih1 =>
    intro x ts' e
    cases e
    have h1 := ih1 _ _ rfl
    simp only [szM, szX, List.length_cons] at *
    omega
  | pnone _ _ _ ih1 =>
    intro x ts' e
    have h1 := ih1 _ _ e
    simp only [szM] at *
    omega
  | cnone _ _ ih1 =>
    intro x ts' e
    cases e
    have h1 := ih1 _ _ rfl
    simp only [szM] at *
    omega
  | cok _ _ _ ih1 ih2 =>
    intro x ts' e
    cases e
    have h1 := ih1 _ _ rfl
    have h2 := ih2 _ _ rfl
    simp only [szM, szX, List.length_cons] at *
    omega
  | lit _ _ => intro x ts' e; cases e; simp only [szM, szX, List.length_cons]; omega
  | ook _ _ _ _ _ ih1 =>
    intro x ts' e
    cases e
    have h1 := ih1 _ _ rfl
    simp only [szM, szX, List.length_cons] at *
    omega
  | ncol _ _ _ _ _ _ => intro x ts' e; cases e; simp only [szM, szX, List.length_cons]; omega
  | nargs _ _ _ _ _ _ _ _ ih1 =>
    intro x ts' e
    have h1 := ih1 _ _ e
    simp only [szM, szX, List.length_cons] at *
    omega
  | zend _ => intro x ts' e; cases e; simp only [szM, szX, szXs, List.length_cons]; omega
  | zok _ _ _ ih1 ih2 =>
    intro x ts' e
    have h1 := ih1 _ _ rfl
    have h2 := ih2 _ _ e
    simp only [szM, szX, szXs, List.length_cons] at *
    omega
  | aok _ _ _ ih1 ih2 =>
    intro x ts' e
    have h1 := ih1 _ _ rfl
    have h2 := ih2 _ _ e
    simp only [szM, szX, szXs, szXs_append, List.length_cons] at *
    omega
  | aend _ => intro x ts' e; cases e; simp only [szM, szX, szXs, List.length_cons]; omega
  | _ => intro x ts' e; cases e
end Go.Proofs.YtplaplhmjpfbjaaGreatDoor
namespace Go.Proofs.YtplaplhmjpfbjaaGreatDoor
open Go.RowKit
set_option linter.unusedVariables false
set_option linter.unusedSimpArgs false
set_option maxRecDepth 100000

def ints (l : List Int) : List Value := l.map (Value.int .i64 ·)
theorem ints_len (l : List Int) : (ints l).length = l.length := by simp [ints]
theorem ints_at (l : List Int) (i : Nat) (h : i < (ints l).length) : (ints l)[i] = .int .i64 (l[i]'(by simpa [ints] using h)) := by simp [ints]
theorem Lst.int {w : World} {B : Nat} {a : Option Addr} {n c : Nat} {l : List Int} (h : Lst w B (.slice a n c) (ints l)) (i : Nat) (hi : i < l.length) : ∃ b, a = some ⟨b, 0, none⟩ ∧ w.cell? ⟨b, i, none⟩ = some (.int .i64 l[i]) := by
  rcases h with ⟨h1, h2⟩ | ⟨b, c', h1, h2, h3, h4, h5⟩
  · have := congrArg List.length h2; rw [ints_len, List.length_nil] at this; omega
  · cases h1
    refine ⟨b, rfl, ?_⟩
    rw [h5 i (by rw [ints_len]; exact hi), ints_at]
theorem Lst.len {w : World} {B : Nat} {a : Option Addr} {n c : Nat} {vs : List Value} (h : Lst w B (.slice a n c) vs) : n = vs.length := by
  rcases h with ⟨h1, h2⟩ | ⟨b, c', h1, h2, h3, h4, h5⟩
  · cases h1; rw [h2]; rfl
  · cases h1; rfl

def KoPost (w : World) (r : Option Int) (e : Ending) (w' : World) : Prop := Below w.heap.size w w' ∧
  match r with
  | some k => e = .returned (.tuple #[.int .i64 k, .bool true])
  | none => e = .returned (.tuple #[.int .i64 0, .bool false])
theorem kLoop_on {tl ks : List Int} {m0 m : Int} {i : Nat} (ha : i < tl.length) (hk : i < ks.length) (h : kLoop tl ks m0 = kLoop (tl.drop i) (ks.drop i) m) :
    kLoop tl ks m0 = (kStep tl[i] ks[i] m).bind (kLoop (tl.drop (i + 1)) (ks.drop (i + 1))) := by
  rw [h, List.drop_eq_getElem_cons ha, List.drop_eq_getElem_cons hk]
  rfl
set_option maxHeartbeats 4000000 in
theorem kindOf_any (o : List Int × Int) (f : Value) (hf : f = .nilFunc ∨ ∃ n k, f = .func (.func n) #[] k) (ta : Option Addr) (tn tc : Nat) (ka : Option Addr) (kn kc : Nat) (ks : List Int) (B B' : Nat) (w : World) (hT : Lst w B (.slice ta tn tc) (ints o.1)) (hK : Lst w B' (.slice ka kn kc) (ints ks)) (hm : ks.length ≤ maxLen) (hm2 : o.1.length ≤ 3) :
    Calls Tryz.prog 246 #[.agg #[.slice ta tn tc, .int .i64 o.2, f], .slice ka kn kc] w (KoPost w (kOf o ks)) := by
  obtain rfl : tn = o.1.length := by rw [hT.len, ints_len]
  obtain rfl : kn = ks.length := by rw [hK.len, ints_len]
  have HT : Hid (Lst w B (.slice ta o.1.length tc) (ints o.1)) := hT
  have HK : Hid (Lst w B' (.slice ka ks.length kc) (ints ks)) := hK
  have hm' : ks.length ≤ 9223372036854775807 := hm
  clear hT hK hm
  by_cases hl : ks.length = o.1.length
  · have hli : ((ks.length : Int) == (o.1.length : Int)) = true := by rw [hl]; simp
    have hli2 : ((ks.length : Int) != (o.1.length : Int)) = false := by rw [bne, hli]; rfl
    have HL : Hid (ks.length = o.1.length) := hl
    clear hl
    rcases hf with rfl | ⟨fn, fk, rfl⟩
    · go_enter Tryz.func246, Tryz.ntmps246
      go_wp2
      have HT2 : Hid (Lst (w.alloc (.cells #[.slice ta o.1.length tc, .int .i64 o.2, .nilFunc] 179)) B (.slice ta o.1.length tc) (ints o.1)) := HT.out.later (xbel1 _ _)
      have HK2 : Hid (Lst (w.alloc (.cells #[.slice ta o.1.length tc, .int .i64 o.2, .nilFunc] 179)) B' (.slice ka ks.length kc) (ints ks)) := HK.out.later (xbel1 _ _)
      have r0 : (w.alloc (.cells #[.slice ta o.1.length tc, .int .i64 o.2, .nilFunc] 179)).cell? ⟨w.heap.size, 0, none⟩ = some (.slice ta o.1.length tc) := by go_simp
      have r1 : (w.alloc (.cells #[.slice ta o.1.length tc, .int .i64 o.2, .nilFunc] 179)).cell? ⟨w.heap.size, 1, none⟩ = some (.int .i64 o.2) := by go_simp
      have HB : Hid (Below w.heap.size w (w.alloc (.cells #[.slice ta o.1.length tc, .int .i64 o.2, .nilFunc] 179))) := xbel1 _ _
      generalize (w.alloc (.cells #[.slice ta o.1.length tc, .int .i64 o.2, .nilFunc] 179)) = V0 at *
      go_loopw [6, 18] (fun m i w' => ∃ (j : Nat) (M : Int), j ≤ ks.length ∧ i = .int .i64 j ∧ m = .int .i64 M ∧ w' = V0 ∧ kLoop o.1 ks 0 = kLoop (o.1.drop j) (ks.drop j) M) (fun _ i _ => ks.length - (intOf i).toNat)
      case atStart => exact ⟨0, 0, Nat.zero_le _, rfl, rfl, rfl, by simp⟩
      case round =>
        obtain ⟨j, M, hj, rfl, rfl, hw, hkl⟩ := hrel
        subst hw
        have HKL : Hid (kLoop o.1 ks 0 = kLoop (o.1.drop j) (ks.drop j) M) := hkl
        clear hkl
        by_cases hlt : j < ks.length
        · have hji : (j : Int) < (ks.length : Int) := by omega
          have hlt2 : j < o.1.length := by rw [← HL.out]; exact hlt
          have hji2 : (j : Int) < (o.1.length : Int) := by omega
          obtain ⟨b1, ea, d1⟩ := HT2.out.int j hlt2
          obtain ⟨b2, eb, d2⟩ := HK2.out.int j hlt
          have HON : Hid (kLoop o.1 ks 0 = (kStep o.1[j] ks[j] M).bind (kLoop (o.1.drop (j + 1)) (ks.drop (j + 1)))) := kLoop_on hlt2 hlt HKL.out
          generalize o.1[j] = A at *
          generalize ks[j] = K at *
          have BAD : Hid (kStep A K M = none → KoPost w (kOf o ks) (.returned (.tuple #[.int .i64 0, .bool false])) wr) := fun h => by
            unfold KoPost kOf
            rw [if_pos HL.out, HON.out, h]
            exact ⟨HB.out, rfl⟩
          have GOOD : Hid (∀ M', kStep A K M = some M' → kLoop o.1 ks 0 = kLoop (o.1.drop (j + 1)) (ks.drop (j + 1)) M') := fun M' h => by rw [HON.out, h]; rfl
          subst ea
          subst eb
          clear HON HKL HT HK
          by_cases hA : A = 0
          · have a1 : (A == 0) = true := by rw [hA]; rfl
            by_cases hM : M = 0
            · have m1 : (M == 0) = true := by rw [hM]; rfl
              have FG : Hid (kLoop o.1 ks 0 = kLoop (o.1.drop (j + 1)) (ks.drop (j + 1)) K) := GOOD.out K (by unfold kStep; simp [hA, hM])
              have kk : (K == K) = true := by simp
              have kn : (K != K) = false := by simp
              clear hA hM BAD GOOD
              go_wp2_with fail
              exact ⟨⟨j + 1, K, by omega, by go_num, rfl, trivial, FG.out⟩, by simp [intOf]; omega⟩
            · have m1 : (M == 0) = false := by rw [beq_eq_false_iff_ne]; exact hM
              by_cases hK : K = M
              · have kn : (K != M) = false := by rw [hK]; simp
                have FG : Hid (kLoop o.1 ks 0 = kLoop (o.1.drop (j + 1)) (ks.drop (j + 1)) M) := GOOD.out M (by unfold kStep; simp [hA, hM, hK])
                have kn2 : (K == M) = true := by rw [hK]; simp
                clear hA hM hK BAD GOOD
                go_wp2_with fail
                exact ⟨⟨j + 1, M, by omega, by go_num, rfl, trivial, FG.out⟩, by simp [intOf]; omega⟩
              · have kn : (K != M) = true := by rw [bne_iff_ne]; exact hK
                have kn2 : (K == M) = false := by rw [beq_eq_false_iff_ne]; exact hK
                have FB : Hid (KoPost w (kOf o ks) (.returned (.tuple #[.int .i64 0, .bool false])) wr) := BAD.out (by unfold kStep; simp [hA, hM, hK])
                clear hA hM hK BAD GOOD
                go_wp2_with fail
                go_ret2
                exact FB.out
          · have a1 : (A == 0) = false := by rw [beq_eq_false_iff_ne]; exact hA
            by_cases hK : K = A
            · have kn : (K != A) = false := by rw [hK]; simp
              have kn2 : (K == A) = true := by rw [hK]; simp
              have FG : Hid (kLoop o.1 ks 0 = kLoop (o.1.drop (j + 1)) (ks.drop (j + 1)) M) := GOOD.out M (by unfold kStep; simp [hA, hK])
              clear hA hK BAD GOOD
              go_wp2_with fail
              exact ⟨⟨j + 1, M, by omega, by go_num, rfl, trivial, FG.out⟩, by simp [intOf]; omega⟩
            · have kn : (K != A) = true := by rw [bne_iff_ne]; exact hK
              have kn2 : (K == A) = false := by rw [beq_eq_false_iff_ne]; exact hK
              have FB : Hid (KoPost w (kOf o ks) (.returned (.tuple #[.int .i64 0, .bool false])) wr) := BAD.out (by unfold kStep; simp [hA, hK])
              clear hA hK BAD GOOD
              go_wp2_with fail
              go_ret2
              exact FB.out
        · obtain rfl : j = ks.length := by omega
          have FIN : Hid (KoPost w (kOf o ks) (.returned (.tuple #[.int .i64 (if o.2 = 0 then M else o.2), .bool true])) wr) := by
            have h1 : kLoop o.1 ks 0 = some M := by
              rw [HKL.out, List.drop_eq_nil_of_le (Nat.le_refl _)]
              cases o.1.drop ks.length <;> rfl
            unfold Hid KoPost kOf
            rw [if_pos HL.out, h1]
            exact ⟨HB.out, rfl⟩
          clear HKL
          by_cases hg : o.2 = 0
          · rw [if_pos hg] at FIN
            have g1 : (o.2 == 0) = true := by rw [hg]; rfl
            clear hg
            go_wp2_with fail
            go_ret2
            exact FIN.out
          · rw [if_neg hg] at FIN
            have g1 : (o.2 == 0) = false := by rw [beq_eq_false_iff_ne]; exact hg
            clear hg
            go_wp2_with fail
            go_ret2
            exact FIN.out
    · go_enter Tryz.func246, Tryz.ntmps246
      go_wp2
      have HT2 : Hid (Lst (w.alloc (.cells #[.slice ta o.1.length tc, .int .i64 o.2, .func (.func fn) #[] fk] 179)) B (.slice ta o.1.length tc) (ints o.1)) := HT.out.later (xbel1 _ _)
      have HK2 : Hid (Lst (w.alloc (.cells #[.slice ta o.1.length tc, .int .i64 o.2, .func (.func fn) #[] fk] 179)) B' (.slice ka ks.length kc) (ints ks)) := HK.out.later (xbel1 _ _)
      have r0 : (w.alloc (.cells #[.slice ta o.1.length tc, .int .i64 o.2, .func (.func fn) #[] fk] 179)).cell? ⟨w.heap.size, 0, none⟩ = some (.slice ta o.1.length tc) := by go_simp
      have r1 : (w.alloc (.cells #[.slice ta o.1.length tc, .int .i64 o.2, .func (.func fn) #[] fk] 179)).cell? ⟨w.heap.size, 1, none⟩ = some (.int .i64 o.2) := by go_simp
      have HB : Hid (Below w.heap.size w (w.alloc (.cells #[.slice ta o.1.length tc, .int .i64 o.2, .func (.func fn) #[] fk] 179))) := xbel1 _ _
      generalize (w.alloc (.cells #[.slice ta o.1.length tc, .int .i64 o.2, .func (.func fn) #[] fk] 179)) = V0 at *
      go_loopw [6, 18] (fun m i w' => ∃ (j : Nat) (M : Int), j ≤ ks.length ∧ i = .int .i64 j ∧ m = .int .i64 M ∧ w' = V0 ∧ kLoop o.1 ks 0 = kLoop (o.1.drop j) (ks.drop j) M) (fun _ i _ => ks.length - (intOf i).toNat)
      case atStart => exact ⟨0, 0, Nat.zero_le _, rfl, rfl, rfl, by simp⟩
      case round =>
        obtain ⟨j, M, hj, rfl, rfl, hw, hkl⟩ := hrel
        subst hw
        have HKL : Hid (kLoop o.1 ks 0 = kLoop (o.1.drop j) (ks.drop j) M) := hkl
        clear hkl
        by_cases hlt : j < ks.length
        · have hji : (j : Int) < (ks.length : Int) := by omega
          have hlt2 : j < o.1.length := by rw [← HL.out]; exact hlt
          have hji2 : (j : Int) < (o.1.length : Int) := by omega
          obtain ⟨b1, ea, d1⟩ := HT2.out.int j hlt2
          obtain ⟨b2, eb, d2⟩ := HK2.out.int j hlt
          have HON : Hid (kLoop o.1 ks 0 = (kStep o.1[j] ks[j] M).bind (kLoop (o.1.drop (j + 1)) (ks.drop (j + 1)))) := kLoop_on hlt2 hlt HKL.out
          generalize o.1[j] = A at *
          generalize ks[j] = K at *
          have BAD : Hid (kStep A K M = none → KoPost w (kOf o ks) (.returned (.tuple #[.int .i64 0, .bool false])) wr) := fun h => by
            unfold KoPost kOf
            rw [if_pos HL.out, HON.out, h]
            exact ⟨HB.out, rfl⟩
          have GOOD : Hid (∀ M', kStep A K M = some M' → kLoop o.1 ks 0 = kLoop (o.1.drop (j + 1)) (ks.drop (j + 1)) M') := fun M' h => by rw [HON.out, h]; rfl
          subst ea
          subst eb
          clear HON HKL HT HK
          by_cases hA : A = 0
          · have a1 : (A == 0) = true := by rw [hA]; rfl
            by_cases hM : M = 0
            · have m1 : (M == 0) = true := by rw [hM]; rfl
              have FG : Hid (kLoop o.1 ks 0 = kLoop (o.1.drop (j + 1)) (ks.drop (j + 1)) K) := GOOD.out K (by unfold kStep; simp [hA, hM])
              have kk : (K == K) = true := by simp
              have kn : (K != K) = false := by simp
              clear hA hM BAD GOOD
              go_wp2_with fail
              exact ⟨⟨j + 1, K, by omega, by go_num, rfl, trivial, FG.out⟩, by simp [intOf]; omega⟩
            · have m1 : (M == 0) = false := by rw [beq_eq_false_iff_ne]; exact hM
              by_cases hK : K = M
              · have kn : (K != M) = false := by rw [hK]; simp
                have FG : Hid (kLoop o.1 ks 0 = kLoop (o.1.drop (j + 1)) (ks.drop (j + 1)) M) := GOOD.out M (by unfold kStep; simp [hA, hM, hK])
                have kn2 : (K == M) = true := by rw [hK]; simp
                clear hA hM hK BAD GOOD
                go_wp2_with fail
                exact ⟨⟨j + 1, M, by omega, by go_num, rfl, trivial, FG.out⟩, by simp [intOf]; omega⟩
              · have kn : (K != M) = true := by rw [bne_iff_ne]; exact hK
                have kn2 : (K == M) = false := by rw [beq_eq_false_iff_ne]; exact hK
                have FB : Hid (KoPost w (kOf o ks) (.returned (.tuple #[.int .i64 0, .bool false])) wr) := BAD.out (by unfold kStep; simp [hA, hM, hK])
                clear hA hM hK BAD GOOD
                go_wp2_with fail
                go_ret2
                exact FB.out
          · have a1 : (A == 0) = false := by rw [beq_eq_false_iff_ne]; exact hA
            by_cases hK : K = A
            · have kn : (K != A) = false := by rw [hK]; simp
              have kn2 : (K == A) = true := by rw [hK]; simp
              have FG : Hid (kLoop o.1 ks 0 = kLoop (o.1.drop (j + 1)) (ks.drop (j + 1)) M) := GOOD.out M (by unfold kStep; simp [hA, hK])
              clear hA hK BAD GOOD
              go_wp2_with fail
              exact ⟨⟨j + 1, M, by omega, by go_num, rfl, trivial, FG.out⟩, by simp [intOf]; omega⟩
            · have kn : (K != A) = true := by rw [bne_iff_ne]; exact hK
              have kn2 : (K == A) = false := by rw [beq_eq_false_iff_ne]; exact hK
              have FB : Hid (KoPost w (kOf o ks) (.returned (.tuple #[.int .i64 0, .bool false])) wr) := BAD.out (by unfold kStep; simp [hA, hK])
              clear hA hK BAD GOOD
              go_wp2_with fail
              go_ret2
              exact FB.out
        · obtain rfl : j = ks.length := by omega
          have FIN : Hid (KoPost w (kOf o ks) (.returned (.tuple #[.int .i64 (if o.2 = 0 then M else o.2), .bool true])) wr) := by
            have h1 : kLoop o.1 ks 0 = some M := by
              rw [HKL.out, List.drop_eq_nil_of_le (Nat.le_refl _)]
              cases o.1.drop ks.length <;> rfl
            unfold Hid KoPost kOf
            rw [if_pos HL.out, h1]
            exact ⟨HB.out, rfl⟩
          clear HKL
          by_cases hg : o.2 = 0
          · rw [if_pos hg] at FIN
            have g1 : (o.2 == 0) = true := by rw [hg]; rfl
            clear hg
            go_wp2_with fail
            go_ret2
            exact FIN.out
          · rw [if_neg hg] at FIN
            have g1 : (o.2 == 0) = false := by rw [beq_eq_false_iff_ne]; exact hg
            clear hg
            go_wp2_with fail
            go_ret2
            exact FIN.out
  · have hli : ((ks.length : Int) == (o.1.length : Int)) = false := by rw [beq_eq_false_iff_ne]; omega
    have hli2 : ((ks.length : Int) != (o.1.length : Int)) = true := by rw [bne, hli]; rfl
    have FIN : Hid (∀ w', Below w.heap.size w w' → KoPost w (kOf o ks) (.returned (.tuple #[.int .i64 0, .bool false])) w') := fun w' hb => by
      unfold KoPost kOf
      rw [if_neg hl]
      exact ⟨hb, rfl⟩
    clear hl
    rcases hf with rfl | ⟨fn, fk, rfl⟩
    all_goals
      go_enter Tryz.func246, Tryz.ntmps246
      go_wp2
      go_ret2
      exact FIN.out _ (xbel1 _ _)
end Go.Proofs.YtplaplhmjpfbjaaGreatDoor
namespace Go.Proofs.YtplaplhmjpfbjaaGreatDoor
open Go.RowKit
set_option linter.unusedVariables false
set_option linter.unusedSimpArgs false
set_option maxRecDepth 100000

/-- What telling a kind leaves. -/
def KdPost (w : World) (r : Except Flt Int) (e : Ending) (w' : World) : Prop := Below w.heap.size w w' ∧
  match r with
  | .ok k => e = .returned (.int .i64 k)
  | .error f => e = fltE f.pl f.why

set_option maxHeartbeats 2000000 in
theorem kind_lit (c : List Co) (k n : Int) (t : ByteArray) (x : Value) (w : World) :
    Calls Tryz.prog 251 #[.agg #[.int .i64 k, .int .i64 n, .string t], x] w (KdPost w (kindX c (.lit k n t))) := by
  rw [kindX]
  unfold KdPost
  go_enter Tryz.func251, Tryz.ntmps251
  go_wp2_with fail
  go_ret
  exact ⟨by repeat (first | exact xbel1 _ _ | exact Below.refl _ _), rfl⟩

set_option maxHeartbeats 2000000 in
theorem kind_col (c : List Co) (pl : Nat) (nm : ByteArray) (a : Option Addr) (cc : Nat) (w : World) (hc : ColsAt w a c) (hm : c.length ≤ maxLen) :
    Calls Tryz.prog 253 #[.agg #[.int .i64 pl, .string nm], .slice a c.length cc] w (KdPost w (kindX c (.col pl nm))) := by
  have HP : Hid (∀ W, Below w.heap.size w W → Calls Tryz.prog 23 #[.slice a c.length cc, .string nm] W fun e w' => e = .returned (.int .i64 (ixI (colIx c nm))) ∧ Below W.heap.size W w') := fun W hW => place_any nm a cc c W (hc.later hW) hm
  have HC : Hid (ColsAt w a c) := hc
  have hm' : c.length ≤ 9223372036854775807 := hm
  have hmf := xmf
  clear hc hm
  have r0 : ∀ W, Below w.heap.size w W → True := fun _ _ => trivial
  cases hx : colIx c nm with
  | none =>
    have FIN : Hid (∀ W, Below w.heap.size w W → KdPost w (kindX c (.col pl nm)) (.panicked [{ v := fltV pl 2, recovered := false }]) W) := fun W hW => by
      rw [kindX, hx]
      simp
      exact ⟨hW, rfl⟩
    rw [hx] at HP
    have hix : ixI none = -1 := rfl
    rw [hix] at HP
    go_enter Tryz.func253, Tryz.ntmps253
    go_wp2_with fail
    refine (HP.out _ (xbel1 _ _)).mono ?_
    rintro e w2 ⟨rfl, hb2⟩
    have q0 := xcell (a := ⟨w.heap.size, 0, none⟩) (v := .int .i64 pl) hb2 (by go_simp)
    have HB : Hid (Below w.heap.size w w2) := (xbel1 w _).trans (hb2.mono (by simp))
    have F2 := FIN.out w2 HB.out
    clear hb2 FIN
    have F3 : Hid (KdPost w (kindX c (.col pl nm)) (.panicked [{ v := fltV pl 2, recovered := false }]) w2) := F2
    clear F2
    go_wp2_with fail
    exact ⟨rfl, F3.out⟩
  | some j =>
    have hj : j < c.length := by
      unfold colIx at hx
      rw [List.findIdx?_eq_some_iff_getElem] at hx
      exact hx.1
    have hji : (j : Int) < (c.length : Int) := by omega
    have FIN : Hid (∀ W, Below w.heap.size w W → KdPost w (kindX c (.col pl nm)) (.returned (.int .i64 c[j].k)) W) := fun W hW => by
      rw [kindX, hx]
      simp [hj]
      exact ⟨hW, rfl⟩
    rw [hx] at HP
    have hix : ixI (some j) = (j : Int) := rfl
    rw [hix] at HP
    obtain ⟨b, off, rfl, h1, h2⟩ := HC.out j hj
    generalize c[j].k = Kj at *
    generalize c[j].nm = Nj at *
    go_enter Tryz.func253, Tryz.ntmps253
    go_wp2_with fail
    refine (HP.out _ (xbel1 _ _)).mono ?_
    rintro e w2 ⟨rfl, hb2⟩
    have HB : Hid (Below w.heap.size w w2) := (xbel1 w _).trans (hb2.mono (by simp))
    have q1 := xcell HB.out h1
    have q2 := xcell HB.out h2
    have F3 : Hid (KdPost w (kindX c (.col pl nm)) (.returned (.int .i64 Kj)) w2) := FIN.out w2 HB.out
    clear hb2 FIN
    go_wp2_with fail
    go_ret
    exact F3.out

theorem infoKind : (Tryz.prog.info? 41).map (fun i => (i.zero, i.size, i.bytes)) = some (some (.int .i64 0), 1, 8) := by kernel_rfl

/-- What a part's kind is, told by its own method. -/
def KD (w : World) (v cv : Value) (r : Except Flt Int) : Prop := ∃ t p fn rc, v = .iface t p ∧ (∀ W, (method 414 t p "streamwright/expr.kindOver").run Tryz.prog W = .ok (fn, rc) W) ∧ (∀ W, (nilAhead 414 t p "streamwright/expr.kindOver").run Tryz.prog W = .ok (some false) W) ∧ (∀ (a : Array Value) (W : World), (callFunc fn a).run Tryz.prog W = .ok (.enter fn a) W) ∧ ∀ W, Below w.heap.size w W → Calls Tryz.prog fn #[rc, cv] W (KdPost W r)
def allK : List (Except Flt Int) → Except Flt (List Int)
  | [] => .ok []
  | r :: rs => r.bind fun k => (allK rs).bind fun ks => .ok (k :: ks)
theorem allK_ok : ∀ (rs : List (Except Flt Int)) (ks : List Int), (∀ i (h : i < rs.length), ∃ h' : i < ks.length, rs[i] = .ok ks[i]) → rs.length = ks.length → allK rs = .ok ks
  | [], [], _, _ => rfl
  | r :: rs, k :: ks, h, hl => by
    obtain ⟨h1, h2⟩ := h 0 (by simp)
    have h2' : r = .ok k := h2
    rw [allK, h2', allK_ok rs ks (fun i hi => by
      obtain ⟨h3, h4⟩ := h (i + 1) (by simpa using hi)
      exact ⟨by simpa using h3, by simpa using h4⟩) (by simpa using hl)]
    rfl
theorem allK_bad : ∀ (rs : List (Except Flt Int)) (ks : List Int) (f : Flt), (∀ i (h : i < ks.length), ∃ h' : i < rs.length, rs[i] = .ok ks[i]) → (∃ h : ks.length < rs.length, rs[ks.length] = .error f) → allK rs = .error f
  | r :: rs, [], f, _, ⟨h, h2⟩ => by
    have h2' : r = .error f := h2
    rw [allK, h2']; rfl
  | r :: rs, k :: ks, f, h, ⟨h5, h6⟩ => by
    obtain ⟨h1, h2⟩ := h 0 (by simp)
    have h2' : r = .ok k := h2
    rw [allK, h2', show (Except.bind (Except.ok k) fun k => (allK rs).bind fun ks => Except.ok (k :: ks) : Except Flt (List Int)) = (allK rs).bind fun ks => .ok (k :: ks) from rfl, allK_bad rs ks f (fun i hi => by
      obtain ⟨h3, h4⟩ := h (i + 1) (by simpa using hi)
      exact ⟨by simpa using h3, by simpa using h4⟩) ⟨by simpa using h5, by simpa using h6⟩]
    rfl
theorem mcl (z : Value) (n : Nat) : (madeCells #[z] n).toList = List.replicate n z := by
  unfold madeCells
  refine List.ext_getElem (by simp) (fun i h1 h2 => ?_)
  simp [Nat.mod_one]
set_option maxHeartbeats 2000000 in
theorem kind_app (pl : Nat) (o : List Int × Int) (fn : Nat) (fk : Array Value) (ta : Option Addr) (tn tc : Nat) (pa : Option Addr) (pn pc : Nat) (us : List Value) (cv : Value) (B : Nat) (w : World) (hT : Lst w B (.slice ta tn tc) (ints o.1)) (hP : Lst w B (.slice pa pn pc) us) (hm : us.length ≤ 200) (hm2 : o.1.length ≤ 3) (rs : List (Except Flt Int)) (hl : rs.length = us.length)
    (hk : ∀ i (h : i < us.length), KD w us[i] cv (rs[i]'(by rw [hl]; exact h))) :
    Calls Tryz.prog 247 #[.agg #[.int .i64 pl, .slice ta tn tc, .int .i64 o.2, .func (.func fn) #[] fk, .slice pa pn pc], cv] w (KdPost w ((allK rs).bind fun ks => orFlt pl (kOf o ks))) := by
  obtain rfl : pn = us.length := hP.len
  obtain ⟨i0, hi0, hz0, hz1, hz2⟩ := info_parts infoKind
  have HP : Hid (Lst w B (.slice pa us.length pc) us) := hP
  have hmk : ∀ W : World, (Instr.makeSlice 114 (.int .i64 (us.length : Int)) (.int .i64 (us.length : Int))).run Tryz.prog W = .ok (.slice (some ⟨W.heap.size, 0, none⟩) us.length us.length) (W.alloc (.cells (madeCells #[.int .i64 0] us.length) 41)) := fun W => by
    have := run_make (P := Tryz.prog) W 114 41 i0 (.int .i64 0) Tryz.underlying114 hi0 hz0 .i64 .i64 (us.length : Int) (us.length : Int) (by omega) (by omega) (by rw [hz2]; omega) (by omega)
    rw [this, hz1, Nat.mul_one]
    rw [Int.toNat_natCast]
    rfl
  have hm' : us.length ≤ 200 := hm
  have HT : Hid (Lst w B (.slice ta tn tc) (ints o.1)) := hT
  have HKD : Hid (∀ i (h : i < us.length) (h' : i < rs.length), KD w us[i] cv rs[i]) := fun i h _ => hk i h
  have HL : Hid (rs.length = us.length) := hl
  have HO0 : Hid (Own ((w.alloc (.cells #[.int .i64 pl, .slice ta tn tc, .int .i64 o.2, .func (.func fn) #[] fk, .slice pa us.length pc] 182)).alloc (.cells (madeCells #[.int .i64 0] us.length) 41)) (w.heap.size + 1) 41 us.length (List.replicate us.length (.int .i64 0))) := by
    have := Own.new (w.alloc (.cells #[.int .i64 pl, .slice ta tn tc, .int .i64 o.2, .func (.func fn) #[] fk, .slice pa us.length pc] 182)) 41 us.length (madeCells #[.int .i64 0] us.length) (by simp [madeCells])
    rw [mcl, show (w.alloc (.cells #[.int .i64 pl, .slice ta tn tc, .int .i64 o.2, .func (.func fn) #[] fk, .slice pa us.length pc] 182)).heap.size = w.heap.size + 1 from by simp] at this
    exact this
  have HO1 : Hid (Own ((w.alloc (.cells #[.int .i64 pl, .slice ta tn tc, .int .i64 o.2, .func (.func fn) #[] fk, .slice pa us.length pc] 182)).alloc (.cells (madeCells #[.int .i64 0] us.length) 41)) w.heap.size 182 5 [.int .i64 pl, .slice ta tn tc, .int .i64 o.2, .func (.func fn) #[] fk, .slice pa us.length pc]) :=
    (Own.new w 182 5 #[.int .i64 pl, .slice ta tn tc, .int .i64 o.2, .func (.func fn) #[] fk, .slice pa us.length pc] rfl).later (xbel1 _ _)
  have HB0 : Hid (Below w.heap.size w ((w.alloc (.cells #[.int .i64 pl, .slice ta tn tc, .int .i64 o.2, .func (.func fn) #[] fk, .slice pa us.length pc] 182)).alloc (.cells (madeCells #[.int .i64 0] us.length) 41))) := (xbel1 w _).alloc (by simp) _
  clear hP hm hk hT hl
  go_enter Tryz.func247, Tryz.ntmps247
  go_wp2_with fail
  generalize ((w.alloc (.cells #[.int .i64 pl, .slice ta tn tc, .int .i64 o.2, .func (.func fn) #[] fk, .slice pa us.length pc] 182)).alloc (.cells (madeCells #[.int .i64 0] us.length) 41)) = V0 at *
  go_loopw [17] (fun i w' => ∃ (ks : List Int), ks.length ≤ us.length ∧ i = .int .i64 (ks.length : Nat) ∧ Own w' (w.heap.size + 1) 41 us.length (ints ks ++ List.replicate (us.length - ks.length) (.int .i64 0)) ∧ Own w' w.heap.size 182 5 [.int .i64 pl, .slice ta tn tc, .int .i64 o.2, .func (.func fn) #[] fk, .slice pa us.length pc] ∧ Below w.heap.size w w' ∧ (∀ i (h : i < ks.length), ∃ h' : i < rs.length, rs[i] = .ok ks[i])) (fun i _ => us.length - (intOf i).toNat)
  case atStart => exact ⟨[], Nat.zero_le _, rfl, by simpa [ints] using HO0.out, HO1.out, HB0.out, fun i h => absurd h (by simp)⟩
  case round =>
    obtain ⟨ks, hk, rfl, hO, hS, hB, hR⟩ := hrel
    have HO : Hid (Own wr (w.heap.size + 1) 41 us.length (ints ks ++ List.replicate (us.length - ks.length) (.int .i64 0))) := hO
    have HS : Hid (Own wr w.heap.size 182 5 [.int .i64 pl, .slice ta tn tc, .int .i64 o.2, .func (.func fn) #[] fk, .slice pa us.length pc]) := hS
    have HB : Hid (Below w.heap.size w wr) := hB
    have HR : Hid (∀ i (h : i < ks.length), ∃ h' : i < rs.length, rs[i] = .ok ks[i]) := hR
    clear hO hS hB hR HO0 HO1 HB0
    by_cases hlt : ks.length < us.length
    · have hki : (ks.length : Int) < (us.length : Int) := by omega
      obtain ⟨t, p, g1, rc, hu, hme, hna, hent, hca⟩ := HKD.out ks.length hlt (by rw [HL.out]; exact hlt)
      have hcell : ∃ b, pa = some ⟨b, 0, none⟩ ∧ wr.cell? ⟨b, ks.length, none⟩ = some (.iface t p) := by
        rcases HP.out with ⟨h1, h2⟩ | ⟨b, c', h1, h2, h3, h4, h5⟩
        · rw [h2] at hlt; exact absurd hlt (by simp)
        · cases h1
          exact ⟨b, rfl, by rw [← hu]; exact xcell HB.out (h5 _ hlt)⟩
      obtain ⟨b, rfl, hc1⟩ := hcell
      have HCA : Hid (∀ W, Below w.heap.size w W → Calls Tryz.prog g1 #[rc, cv] W (KdPost W (rs[ks.length]'(by rw [HL.out]; exact hlt)))) := hca
      clear hca hu
      go_wp2_with fail
      have hrl : ks.length < rs.length := by rw [HL.out]; exact hlt
      cases hres : rs[ks.length] with
      | error f =>
        have HC : Hid (∀ W, Below w.heap.size w W → Calls Tryz.prog g1 #[rc, cv] W fun e w' => Below W.heap.size W w' ∧ e = .panicked [{ v := fltV f.pl f.why, recovered := false }]) := fun W hW => by
          refine (HCA.out W hW).mono ?_
          rintro e w' h
          rw [hres] at h
          exact h
        have FIN : Hid (∀ w', Below w.heap.size w w' → KdPost w ((allK rs).bind fun ks => orFlt pl (kOf o ks)) (.panicked [{ v := fltV f.pl f.why, recovered := false }]) w') := fun w' h => by
          rw [allK_bad rs ks f HR.out ⟨hrl, hres⟩]
          exact ⟨h, rfl⟩
        clear HCA HO HS hres
        refine (HC.out _ HB.out).mono ?_
        rintro e w2 ⟨hb2, rfl⟩
        exact ⟨rfl, FIN.out w2 (HB.out.trans (hb2.mono HB.out.size))⟩
      | ok k =>
        have HC : Hid (∀ W, Below w.heap.size w W → Calls Tryz.prog g1 #[rc, cv] W fun e w' => Below W.heap.size W w' ∧ e = .returned (.int .i64 k)) := fun W hW => by
          refine (HCA.out W hW).mono ?_
          rintro e w' h
          rw [hres] at h
          exact h
        have HRS : Hid (rs[ks.length] = .ok k) := hres
        clear HCA hres
        refine (HC.out _ HB.out).mono ?_
        rintro e w2 ⟨hb2, rfl⟩
        have HO2 : Hid (Own w2 (w.heap.size + 1) 41 us.length (ints ks ++ List.replicate (us.length - ks.length) (.int .i64 0))) := HO.out.later hb2
        have HS2 : Hid (Own w2 w.heap.size 182 5 [.int .i64 pl, .slice ta tn tc, .int .i64 o.2, .func (.func fn) #[] fk, .slice (some ⟨b, 0, none⟩) us.length pc]) := HS.out.later hb2
        have HB2 : Hid (Below w.heap.size w w2) := HB.out.trans (hb2.mono HB.out.size)
        have qc : w2.cell? ⟨w.heap.size + 1, ks.length, none⟩ = some (.int .i64 0) := by
          rw [HO2.out.cell _ hlt, List.getElem?_append_right (by rw [ints_len]; exact Nat.le_refl _), ints_len, List.getElem?_replicate]
          simp; omega
        have qf : w2.frozen? ⟨w.heap.size + 1, ks.length, none⟩ = false := HO2.out.soft _
        clear hb2 HO HS HB
        go_wp2_with fail
        refine ⟨⟨ks ++ [k], by first | (simp; done) | (simp; omega), by first | rfl | (simp; done) | (simp; omega), ?_, ?_, ?_, ?_⟩, by simp [intOf]; omega⟩
        · have := (HO2.out.put ks.length (.int .i64 k)).1
          rw [List.set_append_right _ _ (by rw [ints_len]; exact Nat.le_refl _), ints_len, Nat.sub_self, show us.length - ks.length = (us.length - (ks.length + 1)) + 1 from by omega, List.replicate_succ, List.set_cons_zero] at this
          simpa [ints] using this
        · exact HS2.out.grown (HO2.out.put ks.length (.int .i64 k)).2 (by simp)
        · exact xbNew HB2.out (HO2.out.put ks.length (.int .i64 k)).2 (fun n hn => by cases hn; omega)
        · intro i hi
          rw [List.length_append, List.length_singleton] at hi
          rcases Nat.lt_or_ge i ks.length with h | h
          · obtain ⟨h1, h2⟩ := HR.out i h
            exact ⟨h1, by rw [h2, List.getElem_append_left h]⟩
          · have : i = ks.length := by omega
            subst this
            exact ⟨hrl, by rw [HRS.out]; simp⟩
    · have hke : ks.length = us.length := by omega
      have hnl : ¬ (ks.length : Int) < (us.length : Int) := by omega
      have hks : allK rs = .ok ks := allK_ok rs ks (fun i hi => by
        have hi' : i < ks.length := by rw [hke, ← HL.out]; exact hi
        obtain ⟨h1, h2⟩ := HR.out i hi'
        exact ⟨hi', h2⟩) (by rw [HL.out, hke])
      have qa0 : wr.cell? ⟨w.heap.size, 0, none⟩ = some (.int .i64 pl) := HS.out.cell 0 (by decide)
      have qa1 : wr.cell? ⟨w.heap.size, 1, none⟩ = some (.slice ta tn tc) := HS.out.cell 1 (by decide)
      have qa2 : wr.cell? ⟨w.heap.size, 2, none⟩ = some (.int .i64 o.2) := HS.out.cell 2 (by decide)
      have qa3 : wr.cell? ⟨w.heap.size, 3, none⟩ = some (.func (.func fn) #[] fk) := HS.out.cell 3 (by decide)
      have qa4 : wr.cell? ⟨w.heap.size, 4, none⟩ = some (.slice pa us.length pc) := HS.out.cell 4 (by decide)
      have HLK : Hid (Lst wr w.heap.size (.slice (some ⟨w.heap.size + 1, 0, none⟩) us.length us.length) (ints ks)) := by
        refine .inr ⟨w.heap.size + 1, us.length, by rw [ints_len, hke], by omega, by rw [ints_len, hke]; exact Nat.le_refl _, by unfold maxLen; omega, fun i hi => ?_⟩
        rw [ints_len] at hi
        rw [HO.out.cell i (by omega), List.getElem?_append_left (by rw [ints_len]; exact hi), List.getElem?_eq_getElem]
      have HKO : Hid (∀ W, Below wr.heap.size wr W → Calls Tryz.prog 246 #[.agg #[.slice ta tn tc, .int .i64 o.2, .func (.func fn) #[] fk], .slice (some ⟨w.heap.size + 1, 0, none⟩) us.length us.length] W (KoPost W (kOf o ks))) := fun W hW =>
        kindOf_any o _ (.inr ⟨fn, fk, rfl⟩) ta tn tc _ _ _ ks B w.heap.size W ((HT.out.later HB.out).later hW) (HLK.out.later hW) (by unfold maxLen; omega) hm2
      have hlt' := HS.out.lt
      have FIN : Hid (∀ e w', Below w.heap.size w w' → (match orFlt pl (kOf o ks) with | .ok k => e = .returned (.int .i64 k) | .error f => e = fltE f.pl f.why) → KdPost w ((allK rs).bind fun ks => orFlt pl (kOf o ks)) e w') := fun e w' h1 h2 => by
        rw [hks]
        exact ⟨h1, h2⟩
      clear hks HO HS HLK HKD HR HP
      go_wp2_with fail
      refine (HKO.out _ (Below.refl _ _)).mono ?_
      rintro e w2 ⟨hb2, h2⟩
      have qb0 := xcell hb2 qa0
      have HB2 : Hid (Below w.heap.size w w2) := HB.out.trans (hb2.mono HB.out.size)
      clear hb2
      cases hko : kOf o ks with
      | none =>
        rw [hko] at h2 FIN
        subst h2
        have F3 := FIN.out (.panicked [{ v := fltV pl 3, recovered := false }]) w2 HB2.out rfl
        have F4 : Hid (KdPost w ((allK rs).bind fun ks => orFlt pl (kOf o ks)) (.panicked [{ v := fltV pl 3, recovered := false }]) w2) := F3
        clear F3 FIN
        go_wp2_with fail
        exact ⟨rfl, F4.out⟩
      | some k =>
        rw [hko] at h2 FIN
        subst h2
        have F3 := FIN.out (.returned (.int .i64 k)) w2 HB2.out rfl
        have F4 : Hid (KdPost w ((allK rs).bind fun ks => orFlt pl (kOf o ks)) (.returned (.int .i64 k)) w2) := F3
        clear F3 FIN
        go_wp2_with fail
        go_ret
        exact F4.out
end Go.Proofs.YtplaplhmjpfbjaaGreatDoor
namespace Go.Proofs.YtplaplhmjpfbjaaGreatDoor
open Go.RowKit
set_option linter.unusedVariables false
set_option linter.unusedSimpArgs false
set_option maxRecDepth 100000

set_option maxHeartbeats 2000000 in
theorem kind_call_bad (pl : Nat) (tk : Option Addr) (tn tc : Nat) (gv : Int) (f : Value) (hf : f = .nilFunc ∨ ∃ n k, f = .func (.func n) #[] k) (pa : Option Addr) (pn pc : Nat) (nm : ByteArray) (cv : Value) (w : World) :
    Calls Tryz.prog 255 #[.agg #[.int .i64 pl, .slice tk tn tc, .int .i64 gv, f, .slice pa pn pc, .string nm, .bool false], cv] w (KdPost w (.error ⟨pl, 2⟩)) := by
  have FIN : Hid (∀ w', Below w.heap.size w w' → KdPost w (.error ⟨pl, 2⟩) (.panicked [{ v := fltV pl 2, recovered := false }]) w') := fun w' h => ⟨h, rfl⟩
  rcases hf with rfl | ⟨n, k, rfl⟩
  · go_enter Tryz.func255, Tryz.ntmps255
    go_wp2_with fail
    exact ⟨rfl, FIN.out _ (xbel1 _ _)⟩
  · go_enter Tryz.func255, Tryz.ntmps255
    go_wp2_with fail
    exact ⟨rfl, FIN.out _ (xbel1 _ _)⟩

set_option maxHeartbeats 2000000 in
theorem kind_call_ok (pl : Nat) (ta : Option Addr) (tn tc : Nat) (gv : Int) (n : Nat) (k : Array Value) (pa : Option Addr) (pn pc : Nat) (nm : ByteArray) (cv : Value) (w : World) (r : Except Flt Int)
    (h : ∀ W, Below w.heap.size w W → Calls Tryz.prog 247 #[.agg #[.int .i64 pl, .slice ta tn tc, .int .i64 gv, .func (.func n) #[] k, .slice pa pn pc], cv] W (KdPost W r)) :
    Calls Tryz.prog 255 #[.agg #[.int .i64 pl, .slice ta tn tc, .int .i64 gv, .func (.func n) #[] k, .slice pa pn pc, .string nm, .bool true], cv] w (KdPost w r) := by
  have HH : Hid (∀ W, Below w.heap.size w W → Calls Tryz.prog 247 #[.agg #[.int .i64 pl, .slice ta tn tc, .int .i64 gv, .func (.func n) #[] k, .slice pa pn pc], cv] W (KdPost W r)) := h
  clear h
  go_enter Tryz.func255, Tryz.ntmps255
  go_wp2_with fail
  refine (HH.out _ (xbel1 _ _)).mono ?_
  rintro e w2 ⟨hb2, h2⟩
  have FIN : Hid (∀ e, (match r with | .ok k => e = .returned (.int .i64 k) | .error f => e = fltE f.pl f.why) → KdPost w r e w2) := fun e h => ⟨(xbel1 w _).trans (hb2.mono (by simp)), h⟩
  clear hb2
  cases r with
  | ok k =>
    have h2' : e = .returned (.int .i64 k) := h2
    subst h2'
    have F3 : Hid (KdPost w (.ok k) (.returned (.int .i64 k)) w2) := FIN.out _ rfl
    clear FIN h2
    go_wp2_with fail
    go_ret
    exact F3.out
  | error f =>
    have h2' : e = .panicked [{ v := fltV f.pl f.why, recovered := false }] := h2
    subst h2'
    first | exact FIN.out _ rfl | exact ⟨rfl, FIN.out _ rfl⟩

theorem KD.later {w w' : World} {v cv : Value} {r : Except Flt Int} (h : KD w v cv r) (hb : Below w.heap.size w w') : KD w' v cv r := by
  obtain ⟨t, p, fn, rc, h1, h2, h3, h4, h5⟩ := h
  exact ⟨t, p, fn, rc, h1, h2, h3, h4, fun W hW => h5 W (hb.trans (hW.mono hb.size))⟩
theorem ent_klit (a : Array Value) (W : World) : (callFunc 251 a).run Tryz.prog W = .ok (.enter 251 a) W := xent Tryz.func251 (by kernel_rfl) (by rfl) a W
theorem ent_kcol (a : Array Value) (W : World) : (callFunc 253 a).run Tryz.prog W = .ok (.enter 253 a) W := xent Tryz.func253 (by kernel_rfl) (by rfl) a W
theorem ent_kapp (a : Array Value) (W : World) : (callFunc 247 a).run Tryz.prog W = .ok (.enter 247 a) W := xent Tryz.func247 (by kernel_rfl) (by rfl) a W
theorem ent_kcall (a : Array Value) (W : World) : (callFunc 255 a).run Tryz.prog W = .ok (.enter 255 a) W := xent Tryz.func255 (by kernel_rfl) (by rfl) a W

theorem opPre_len (s : ByteArray) : (opPre s).1.length ≤ 3 := by unfold opPre; split <;> simp
theorem opInf_len (s : ByteArray) : (opInf s).1.length ≤ 3 := by unfold opInf; (repeat' split) <;> simp
theorem opApp_len (s : ByteArray) (o : List Int × Int) (h : opApp s = some o) : o.1.length ≤ 3 := by
  unfold opApp at h
  repeat' split at h
  all_goals first | (cases h; simp; done) | cases h
theorem map_len_le {o : List Int} {n : Nat} : (o.map (Value.int .i64 ·)) = ints o := rfl

mutual
theorem kind_nd (c : List Co) (a : Option Addr) (cc : Nat) (hm : c.length ≤ maxLen) (w : World) (g : Nat) (hc : ColsAt w a c) : ∀ (x : X) (v : Value), Nd w g x v → szX x ≤ 200 → KD w v (.slice a c.length cc) (kindX c x)
  | .lit k n t, v, h, _ => by
    rw [Nd] at h
    exact ⟨_, _, _, _, h, fun W => by kernel_rfl, fun W => by kernel_rfl, ent_klit, fun W hW => kind_lit c k n t _ W⟩
  | .col pl nm, v, h, _ => by
    rw [Nd] at h
    exact ⟨_, _, _, _, h, fun W => by kernel_rfl, fun W => by kernel_rfl, ent_kcol, fun W hW => kind_col c pl nm a cc W (hc.later hW) hm⟩
  | .pre pl s x, v, h, hs => by
    rw [Nd] at h
    obtain ⟨tk, f, ps, u, h1, h2, h3, h4, h5⟩ := h
    rw [szX] at hs
    have ih := kind_nd c a cc hm w g hc x u h5 (by omega)
    obtain ⟨ta, tn, tc, rfl⟩ := h2.form
    obtain ⟨pa, pn, pc, rfl⟩ := h4.form
    obtain ⟨n, k, rfl⟩ := h3.form
    refine ⟨_, _, _, .agg #[.int .i64 pl, .slice ta tn tc, .int .i64 (opPre s).2, .func (.func n) #[] k, .slice pa pn pc], h1, fun W => by kernel_rfl, fun W => by kernel_rfl, ent_kapp, fun W hW => ?_⟩
    have := kind_app pl (opPre s) n k ta _ tc pa _ pc [u] (.slice a c.length cc) g W (h2.later hW) (h4.later hW) (by simp) (opPre_len s) [kindX c x] rfl (fun i hi => by
      obtain rfl : i = 0 := by simp at hi; exact hi
      exact ih.later hW)
    rw [kindX]
    refine this.mono ?_
    intro e w' h
    have e1 : ((allK [kindX c x]).bind fun ks => orFlt pl (kOf (opPre s) ks)) = (kindX c x).bind fun k => orFlt pl (kOf (opPre s) [k]) := by
      rw [allK, allK]
      cases kindX c x <;> rfl
    rw [e1] at h
    exact h
  | .inf pl s l r, v, h, hs => by
    rw [Nd] at h
    obtain ⟨tk, f, ps, u, u', h1, h0, h2, h3, h4, h5, h6⟩ := h
    rw [szX] at hs
    have ih := kind_nd c a cc hm w g hc l u h5 (by omega)
    have ih' := kind_nd c a cc hm w g hc r u' h6 (by omega)
    obtain ⟨ta, tn, tc, rfl⟩ := h2.form
    obtain ⟨pa, pn, pc, rfl⟩ := h4.form
    obtain ⟨n, k, rfl⟩ := h3.form
    refine ⟨_, _, _, .agg #[.int .i64 pl, .slice ta tn tc, .int .i64 (opInf s).2, .func (.func n) #[] k, .slice pa pn pc], h1, fun W => by kernel_rfl, fun W => by kernel_rfl, ent_kapp, fun W hW => ?_⟩
    have := kind_app pl (opInf s) n k ta _ tc pa _ pc [u, u'] (.slice a c.length cc) g W (h2.later hW) (h4.later hW) (by simp) (opInf_len s) [kindX c l, kindX c r] rfl (fun i hi => by
      match i, hi with
      | 0, _ => exact ih.later hW
      | 1, _ => exact ih'.later hW
      | i + 2, h => exact absurd h (by simp))
    rw [kindX]
    refine this.mono ?_
    intro e w' h
    have e1 : ((allK [kindX c l, kindX c r]).bind fun ks => orFlt pl (kOf (opInf s) ks)) = (kindX c l).bind fun k => (kindX c r).bind fun k' => orFlt pl (kOf (opInf s) [k, k']) := by
      rw [allK, allK, allK]
      cases kindX c l <;> cases kindX c r <;> rfl
    rw [e1] at h
    exact h
  | .app pl nm l, v, h, hs => by
    rw [Nd] at h
    obtain ⟨tk, gv, f, ps, us, h1, h2, h3, h4, ⟨ta', tn', tc', e9⟩, hf9⟩ := h
    rw [szX] at hs
    obtain ⟨pa, pn, pc, rfl⟩ := h3.form
    cases ho : opApp nm with
    | none =>
      rw [ho] at h1
      subst e9
      refine ⟨_, _, _, .agg #[.int .i64 pl, .slice ta' tn' tc', .int .i64 gv, f, .slice pa pn pc, .string nm, .bool false], h1, fun W => ?_, fun W => ?_, ent_kcall, fun W hW => ?_⟩
      · rcases hf9 with rfl | ⟨n, k, rfl⟩ <;> kernel_rfl
      · rcases hf9 with rfl | ⟨n, k, rfl⟩ <;> kernel_rfl
      · rw [kindX, ho]
        exact kind_call_bad pl ta' tn' tc' gv f hf9 pa pn pc nm _ W
    | some o =>
      obtain ⟨rs, hl, hall, hi⟩ := kind_nds c a cc hm w g hc l us h4 (by omega)
      obtain ⟨rfl, h5, h6⟩ := h2 o ho
      obtain ⟨ta, tn, tc, rfl⟩ := h5.form
      obtain ⟨n, k, rfl⟩ := h6.form
      rw [ho] at h1
      have hlen := h4.length
      have hsz := szXs_len l
      refine ⟨_, _, _, .agg #[.int .i64 pl, .slice ta tn tc, .int .i64 o.2, .func (.func n) #[] k, .slice pa pn pc, .string nm, .bool true], h1, fun W => by kernel_rfl, fun W => by kernel_rfl, ent_kcall, fun W hW => ?_⟩
      refine kind_call_ok pl ta _ tc o.2 n k pa _ pc nm (.slice a c.length cc) W _ (fun W' hW' => ?_)
      have hb : Below w.heap.size w W' := hW.trans (hW'.mono hW.size)
      have := kind_app pl o n k ta _ tc pa _ pc us (.slice a c.length cc) g W' (h5.later hb) (h3.later hb) (by omega) (opApp_len nm o ho) rs hl (fun i h => (hi i h).later hb)
      rw [kindX, ho]
      rw [hall] at this
      exact this
theorem kind_nds (c : List Co) (a : Option Addr) (cc : Nat) (hm : c.length ≤ maxLen) (w : World) (g : Nat) (hc : ColsAt w a c) : ∀ (l : List X) (us : List Value), Nds w g l us → szXs l ≤ 200 → ∃ rs : List (Except Flt Int), ∃ hl : rs.length = us.length, allK rs = kindsX c l ∧ ∀ i (h : i < us.length), KD w us[i] (.slice a c.length cc) (rs[i]'(by rw [hl]; exact h))
  | [], us, h, _ => by
    rw [Nds] at h
    subst h
    exact ⟨[], rfl, by rw [allK, kindsX], fun i h => absurd h (by simp)⟩
  | x :: l, us, h, hs => by
    rw [Nds] at h
    obtain ⟨u, us', rfl, h2, h3⟩ := h
    rw [szXs] at hs
    have ih := kind_nd c a cc hm w g hc x u h2 (by omega)
    obtain ⟨rs, hl, hall, hi⟩ := kind_nds c a cc hm w g hc l us' h3 (by omega)
    refine ⟨kindX c x :: rs, by simp [hl], by rw [allK, kindsX, hall], fun i h => ?_⟩
    match i, h with
    | 0, _ => exact ih
    | i + 1, h => exact hi i (by simpa using h)
end
end Go.Proofs.YtplaplhmjpfbjaaGreatDoor
