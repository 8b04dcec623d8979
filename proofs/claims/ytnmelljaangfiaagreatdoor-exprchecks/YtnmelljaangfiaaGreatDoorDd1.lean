import Derived.Test.YtnmelljaangfiaaGreatDoorDrS
import Derived.Deep.LoopGhost
import Derived.Test.YtnmelljaangfiaaGreatDoorDa1
import Derived.Test.YtnmelljaangfiaaGreatDoorXpP
import Derived.Test.YtnmelljaangfiaaGreatDoorDrB
namespace Go.Proofs.YtnmelljaangfiaaGreatDoor.Dc
open Go.RowKit
set_option linter.unusedVariables false
set_option linter.unusedSimpArgs false
set_option maxRecDepth 100000

/-- What Kind gives back. -/
def KdV : Except Flt Int → Value
  | .ok k => .tuple #[.int .i64 k, .int .i64 0, .int .i64 0]
  | .error f => .tuple #[.int .i64 0, .int .i64 f.why, .int .i64 f.pl]
def KdD (W : World) (r : Except Flt Int) (e : Ending) (w' : World) : Prop := Below W.heap.size W w' ∧ e = .returned (KdV r)
theorem kindsX_snoc (c : List Co) (x : X) : ∀ l : List X, kindsX c (l ++ [x]) = (kindsX c l).bind fun ks => (kindX c x).bind fun k => .ok (ks ++ [k])
  | [] => by
    show kindsX c [x] = _
    rw [kindsX, kindsX]
    cases kindX c x <;> rfl
  | y :: l => by
    show kindsX c (y :: (l ++ [x])) = _
    rw [kindsX, kindsX_snoc c x l, kindsX]
    cases kindX c y with
    | error f => rfl
    | ok k =>
      cases kindsX c l with
      | error f => rfl
      | ok ks => cases kindX c x <;> rfl
theorem kindsX_bad {c : List Co} {f : Flt} : ∀ {l : List X} (j : Nat) (hj : j < l.length) {ks : List Int}, kindsX c (l.take j) = .ok ks → kindX c l[j] = .error f → kindsX c l = .error f
  | x :: l, 0, _, _, _, h => by rw [kindsX, show kindX c x = .error f from h]; rfl
  | x :: l, j + 1, hj, ks, h1, h => by
    rw [List.take_succ_cons, kindsX] at h1
    cases hx : kindX c x with
    | error f' => rw [hx] at h1; cases h1
    | ok k =>
      rw [hx] at h1
      cases hl : kindsX c (l.take j) with
      | error f' => rw [hl] at h1; cases h1
      | ok ks' =>
        rw [kindsX, hx, kindsX_bad j (by simpa using hj) hl h]; rfl
theorem kindsX_len {c : List Co} : ∀ {l : List X} {ks : List Int}, kindsX c l = .ok ks → ks.length = l.length
  | [], ks, h => by cases h; rfl
  | x :: l, ks, h => by
    rw [kindsX] at h
    cases hx : kindX c x with
    | error f => rw [hx] at h; cases h
    | ok k =>
      rw [hx] at h
      cases hl : kindsX c l with
      | error f => rw [hl] at h; cases h
      | ok ks' => rw [hl] at h; cases h; simp [kindsX_len hl]
mutual
theorem kindX_why (c : List Co) : ∀ (x : X) (f : Flt), kindX c x = .error f → f.why ≠ 0
  | .lit k n t, f, h => by rw [kindX] at h; cases h
  | .col pl nm, f, h => by
    rw [kindX] at h
    split at h
    · cases h
    · cases h; simp
  | .pre pl s x, f, h => by
    rw [kindX] at h
    cases hx : kindX c x with
    | error f' => rw [hx] at h; cases h; exact kindX_why c x f hx
    | ok k =>
      rw [hx] at h
      change orFlt pl _ = _ at h
      cases hk : kOf (opPre s) [k] with
      | none => rw [hk] at h; cases h; simp
      | some k' => rw [hk] at h; cases h
  | .inf pl s l r, f, h => by
    rw [kindX] at h
    cases hx : kindX c l with
    | error f' => rw [hx] at h; cases h; exact kindX_why c l f hx
    | ok k =>
      rw [hx] at h
      cases hy : kindX c r with
      | error f' => rw [hy] at h; cases h; exact kindX_why c r f hy
      | ok k2 =>
        rw [hy] at h
        change orFlt pl _ = _ at h
        cases hk : kOf (opInf s) [k, k2] with
        | none => rw [hk] at h; cases h; simp
        | some k' => rw [hk] at h; cases h
  | .app pl nm l, f, h => by
    rw [kindX] at h
    split at h
    · cases h; simp
    · rename_i o _
      cases hx : kindsX c l with
      | error f' => rw [hx] at h; cases h; exact kindsX_why c l f hx
      | ok ks =>
        rw [hx] at h
        change orFlt pl _ = _ at h
        cases hk : kOf o ks with
        | none => rw [hk] at h; cases h; simp
        | some k' => rw [hk] at h; cases h
theorem kindsX_why (c : List Co) : ∀ (l : List X) (f : Flt), kindsX c l = .error f → f.why ≠ 0
  | [], f, h => by rw [kindsX] at h; cases h
  | x :: l, f, h => by
    rw [kindsX] at h
    cases hx : kindX c x with
    | error f' => rw [hx] at h; cases h; exact kindX_why c x f hx
    | ok k =>
      rw [hx] at h
      cases hy : kindsX c l with
      | error f' => rw [hy] at h; cases h; exact kindsX_why c l f hy
      | ok ks => rw [hy] at h; cases h
end
theorem getD_app (ks : List Int) (k : Int) (m : Nat) : (ks ++ [k]).getD m 0 = if m = ks.length then k else ks.getD m 0 := by
  simp only [List.getD_eq_getElem?_getD]
  rcases Nat.lt_trichotomy m ks.length with h | h | h
  · rw [List.getElem?_append_left h, if_neg (by omega)]
  · subst h; simp
  · rw [List.getElem?_eq_none (by simp; omega), if_neg (by omega), List.getElem?_eq_none (by omega)]
def cells4 (ks : List Int) : List Value := [.int .i64 (ks.getD 0 0), .int .i64 (ks.getD 1 0), .int .i64 (ks.getD 2 0), .int .i64 (ks.getD 3 0)]
theorem cells4_set (ks : List Int) (k : Int) (h : ks.length < 4) : (cells4 ks).set ks.length (.int .i64 k) = cells4 (ks ++ [k]) := by
  unfold cells4
  simp only [getD_app]
  match hn : ks.length, h with
  | 0, _ => simp
  | 1, _ => simp
  | 2, _ => simp
  | 3, _ => simp
  | n + 4, h => omega
theorem cells4_far (ks : List Int) (k : Int) (h : ¬ ks.length < 4) : cells4 ks = cells4 (ks ++ [k]) := by
  unfold cells4
  simp only [getD_app]
  rw [if_neg (by omega), if_neg (by omega), if_neg (by omega), if_neg (by omega)]
set_option maxHeartbeats 8000000 in
theorem nodeN (c : List Co) (a : Option Addr) (cc : Nat) (b pl : Nat) (kv : Value) (xs : List X) (us : List Value) (lo hi : Nat) (R : List Int → Int) (w : World) (S : ByteArray) (hS1 : (S.toList == [118, 97, 108, 117, 101]) = false) (hS2 : (S.toList == [110, 97, 109, 101]) = false) (hS3 : (S.toList == [99, 97, 108, 108]) = false) (c0 : w.cell? ⟨b, 0, none⟩ = some (.string S)) (c1 : w.cell? ⟨b, 1, none⟩ = some (.int .i64 pl)) (c2 : w.cell? ⟨b, 2, none⟩ = some kv) (hka : KAt w lo hi kv us) (hlen : us.length = xs.length) (hmax : xs.length ≤ 200)
    (hfam : ∀ i (h : i < xs.length) (h' : i < us.length) W, Below w.heap.size w W → Calls Tryz.prog 15 #[us[i], .slice a c.length cc] W (KdD W (kindX c xs[i])))
    (hres : ∀ ks kb W, kindsX c xs = .ok ks → Below w.heap.size w W → K4 W kb (ks.getD 0 0) (ks.getD 1 0) (ks.getD 2 0) (ks.getD 3 0) → Calls Tryz.prog 30 #[.pointer (some ⟨b, 0, none⟩), .int .i64 (-1), .slice (some ⟨kb, 0, none⟩) 4 4] W fun e w' => e = .returned (.int .i64 (R ks)) ∧ Below W.heap.size W w') :
    Calls Tryz.prog 15 #[.pointer (some ⟨b, 0, none⟩), .slice a c.length cc] w (KdD w ((kindsX c xs).bind fun ks => if R ks = 0 then .error ⟨pl, 3⟩ else .ok (R ks))) := by
  obtain ⟨ka, kc, rfl, hk⟩ := hka
  have HK := hidMk' hk
  have HFAM := hidMk' hfam
  have HRES := hidMk' hres
  have hbl : b < w.heap.size := World.block_lt_of_cell? _ _ c0
  have hlz : (us.length : Int) ≤ 200 := by omega
  clear hk hfam hres
  go_enter Tryz.func15, Tryz.ntmps15
  go_wp2_with fail
  have HO0 : Hid (Own (w.alloc (.cells #[.int .i64 0, .int .i64 0, .int .i64 0, .int .i64 0] 23)) w.heap.size 23 4 (cells4 [])) := Own.new w 23 4 #[.int .i64 0, .int .i64 0, .int .i64 0, .int .i64 0] rfl
  go_loopw [10] (fun i w' => ∃ (j : Nat) (ks : List Int), j ≤ xs.length ∧ i = .int .i64 j ∧ kindsX c (xs.take j) = .ok ks ∧ Own w' w.heap.size 23 4 (cells4 ks) ∧ Below w.heap.size w w') (fun i _ => xs.length - (intOf i).toNat)
  case atStart => exact ⟨0, [], Nat.zero_le _, rfl, rfl, HO0.out, xbel1 _ _⟩
  case round =>
    clear HO0
    obtain ⟨j, ks, hj, rfl, hks, hO, hb⟩ := hrel
    have HKS := hidMk' hks
    have HO := hidMk' hO
    have HB := hidMk' hb
    have hkl : ks.length = j := by rw [kindsX_len hks, List.length_take]; omega
    have c0' := xcell hb c0
    have c1' := xcell hb c1
    have c2' := xcell hb c2
    have hwl := hO.lt
    clear hks hO hb
    by_cases hlt : j < xs.length
    · have hlu : j < us.length := by omega
      have hji : (j : Int) < (us.length : Int) := by omega
      obtain ⟨sb, rfl, hs1, hs2, e0⟩ := HK.out j hlu
      have hsbl : sb < w.heap.size := World.block_lt_of_cell? _ _ e0
      have e0' := xcell HB.out e0
      have HF : Hid (∀ W, Below w.heap.size w W → Calls Tryz.prog 15 #[us[j], .slice a c.length cc] W (KdD W (kindX c xs[j]))) := HFAM.out j hlt hlu
      have hsb2 : sb < wr.heap.size := by omega
      generalize us[j] = U at *
      clear e0 c0 c1 c2
      go_wp2_with fail
      refine (HF.out _ HB.out).mono ?_
      rintro e w2 ⟨hb2, rfl⟩
      have HB2 : Hid (Below w.heap.size w w2) := HB.out.trans (hb2.mono HB.out.size)
      have HO2 : Hid (Own w2 w.heap.size 23 4 (cells4 ks)) := HO.out.later hb2
      clear hb2 HO HB c0' c1' c2' e0'
      cases hx : kindX c xs[j] with
      | error f =>
        have FIN : Hid (KdD w ((kindsX c xs).bind fun ks => if R ks = 0 then .error ⟨pl, 3⟩ else .ok (R ks)) (.returned (.tuple #[.int .i64 0, .int .i64 f.why, .int .i64 f.pl])) w2) := ⟨HB2.out, by rw [kindsX_bad j hlt HKS.out hx]; rfl⟩
        have hfw : ((f.why : Int) != 0) = true := by have := kindX_why c _ _ hx; simp; omega
        clear hx HO2 HB2 HF HFAM HRES HK HKS
        simp only [KdV]
        go_wp2_with fail
        go_ret3
        exact FIN.out
      | ok k =>
        have HK2 : Hid (kindsX c (xs.take (j + 1)) = .ok (ks ++ [k])) := by
          rw [Hid, List.take_succ_eq_append_getElem hlt, kindsX_snoc, HKS.out, hx]; rfl
        clear hx HF HKS
        simp only [KdV]
        by_cases h4 : j < 4
        · have h4i : (j : Int) < 4 := by omega
          have HP := hidMk' (HO2.out.put j (.int .i64 k))
          have HO3 : Hid (Own (w2.setCell ⟨w.heap.size, j, none⟩ (.int .i64 k)) w.heap.size 23 4 (cells4 (ks ++ [k]))) := by
            have h1 := HP.out.1
            rw [← hkl] at h1
            rw [cells4_set ks k (by omega)] at h1
            rw [Hid, ← hkl]; exact h1
          have HB3 : Hid (Below w.heap.size w (w2.setCell ⟨w.heap.size, j, none⟩ (.int .i64 k))) := xbNew HB2.out HP.out.2 (fun n hn => by cases hn; exact Nat.le_refl _)
          have q0 : ∃ v, w2.cell? ⟨w.heap.size, j, none⟩ = some v := by
            rw [HO2.out.cell j (by omega)]
            exact ⟨_, List.getElem?_eq_getElem (show j < (cells4 ks).length by simpa [cells4] using h4)⟩
          obtain ⟨v0, q0⟩ := q0
          have q1 := HO2.out.soft j
          have q2 := HO2.out.lt
          clear HP HO2 HB2
          go_wp2_with fail
          exact ⟨⟨j + 1, ks ++ [k], by omega, by go_num, HK2.out, HO3.out, HB3.out⟩, by simp [intOf]; omega⟩
        · have h4i : ¬ (j : Int) < 4 := by omega
          have HO3 : Hid (Own w2 w.heap.size 23 4 (cells4 (ks ++ [k]))) := by rw [← cells4_far ks k (by omega)]; exact HO2.out
          clear HO2
          go_wp2_with fail
          exact ⟨⟨j + 1, ks ++ [k], by omega, by go_num, HK2.out, HO3.out, HB2.out⟩, by simp [intOf]; omega⟩
    · obtain rfl : j = xs.length := by omega
      have hxl : ¬ ((xs.length : Nat) : Int) < (us.length : Int) := by omega
      rw [List.take_length] at HKS
      have HR : Hid (Calls Tryz.prog 30 #[.pointer (some ⟨b, 0, none⟩), .int .i64 (-1), .slice (some ⟨w.heap.size, 0, none⟩) 4 4] wr fun e w' => e = .returned (.int .i64 (R ks)) ∧ Below wr.heap.size wr w') := HRES.out ks w.heap.size wr HKS.out HB.out ⟨by rw [HO.out.cell 0 (by decide)]; rfl, by rw [HO.out.cell 1 (by decide)]; rfl, by rw [HO.out.cell 2 (by decide)]; rfl, by rw [HO.out.cell 3 (by decide)]; rfl, HO.out.lt⟩
      clear HRES HFAM HK HO
      go_wp2_with fail
      refine HR.out.mono ?_
      rintro e w2 ⟨rfl, hb2⟩
      have HB2 : Hid (Below w.heap.size w w2) := HB.out.trans (hb2.mono HB.out.size)
      have c1'' := xcell hb2 c1'
      have hbl2 : b < w2.heap.size := by have := HB2.out.size; omega
      clear hb2 HR c0 c1 c2 c0' c1' c2'
      by_cases hr : R ks = 0
      · have FIN : Hid (∀ W, Below w2.heap.size w2 W → KdD w ((kindsX c xs).bind fun ks => if R ks = 0 then .error ⟨pl, 3⟩ else .ok (R ks)) (.returned (.tuple #[.int .i64 0, .int .i64 3, .int .i64 pl])) W) := fun W hW => ⟨HB2.out.trans (hW.mono HB2.out.size), by rw [HKS.out]; simp only [Except.bind]; rw [if_pos hr]; rfl⟩
        have hrb : (R ks == 0) = true := by simp [hr]
        clear hr HKS
        generalize R ks = RR at *
        go_wp2_with fail
        go_quiet (fail)
        go_wp2_with fail
        go_ret3
        exact FIN.out _ (by first | exact Below.refl _ _ | exact (Below.refl _ _).drew | exact Below.drewN' (Below.refl _ _))
      · have FIN : Hid (KdD w ((kindsX c xs).bind fun ks => if R ks = 0 then .error ⟨pl, 3⟩ else .ok (R ks)) (.returned (.tuple #[.int .i64 (R ks), .int .i64 0, .int .i64 0])) w2) := ⟨HB2.out, by rw [HKS.out]; simp only [Except.bind]; rw [if_neg hr]; rfl⟩
        have hrb : (R ks == 0) = false := by simp [hr]
        clear hr HKS
        generalize R ks = RR at *
        go_wp2_with fail
        go_ret3
        exact FIN.out
set_option maxHeartbeats 8000000 in
theorem nodeC (c : List Co) (a : Option Addr) (cc : Nat) (b pl : Nat) (kv : Value) (xs : List X) (us : List Value) (lo hi : Nat) (R : List Int → Int) (w : World) (nm : ByteArray) (c6 : w.cell? ⟨b, 6, none⟩ = some (.string nm)) (hn : ¬ argN nm < 0) (c0 : w.cell? ⟨b, 0, none⟩ = some (.string bCall)) (c1 : w.cell? ⟨b, 1, none⟩ = some (.int .i64 pl)) (c2 : w.cell? ⟨b, 2, none⟩ = some kv) (hka : KAt w lo hi kv us) (hlen : us.length = xs.length) (hmax : xs.length ≤ 200)
    (hfam : ∀ i (h : i < xs.length) (h' : i < us.length) W, Below w.heap.size w W → Calls Tryz.prog 15 #[us[i], .slice a c.length cc] W (KdD W (kindX c xs[i])))
    (hres : ∀ ks kb W, kindsX c xs = .ok ks → Below w.heap.size w W → K4 W kb (ks.getD 0 0) (ks.getD 1 0) (ks.getD 2 0) (ks.getD 3 0) → Calls Tryz.prog 30 #[.pointer (some ⟨b, 0, none⟩), .int .i64 (argN nm), .slice (some ⟨kb, 0, none⟩) 4 4] W fun e w' => e = .returned (.int .i64 (R ks)) ∧ Below W.heap.size W w') :
    Calls Tryz.prog 15 #[.pointer (some ⟨b, 0, none⟩), .slice a c.length cc] w (KdD w ((kindsX c xs).bind fun ks => if R ks = 0 then .error ⟨pl, 3⟩ else .ok (R ks))) := by
  obtain ⟨ka, kc, rfl, hk⟩ := hka
  have HK := hidMk' hk
  have HFAM := hidMk' hfam
  have HRES := hidMk' hres
  have hbl : b < w.heap.size := World.block_lt_of_cell? _ _ c0
  have hlz : (us.length : Int) ≤ 200 := by omega
  clear hk hfam hres
  have HAR : Hid (∀ W, Calls Tryz.prog 29 #[.string nm] W fun e w' => e = .returned (.int .i64 (argN nm)) ∧ w' = W) := fun W => argsD_any nm W
  generalize argN nm = AN at *
  unfold bCall at c0
  go_enter Tryz.func15, Tryz.ntmps15
  go_wp2_with fail
  refine (HAR.out _).mono ?_
  rintro e w1 ⟨rfl, h⟩
  have := h.symm; subst this
  go_wp2_with fail
  have HO0 : Hid (Own (w.alloc (.cells #[.int .i64 0, .int .i64 0, .int .i64 0, .int .i64 0] 23)) w.heap.size 23 4 (cells4 [])) := Own.new w 23 4 #[.int .i64 0, .int .i64 0, .int .i64 0, .int .i64 0] rfl
  go_loopw [10] (fun i w' => ∃ (j : Nat) (ks : List Int), j ≤ xs.length ∧ i = .int .i64 j ∧ kindsX c (xs.take j) = .ok ks ∧ Own w' w.heap.size 23 4 (cells4 ks) ∧ Below w.heap.size w w') (fun i _ => xs.length - (intOf i).toNat)
  case atStart => exact ⟨0, [], Nat.zero_le _, rfl, rfl, HO0.out, xbel1 _ _⟩
  case round =>
    clear HO0
    obtain ⟨j, ks, hj, rfl, hks, hO, hb⟩ := hrel
    have HKS := hidMk' hks
    have HO := hidMk' hO
    have HB := hidMk' hb
    have hkl : ks.length = j := by rw [kindsX_len hks, List.length_take]; omega
    have c0' := xcell hb c0
    have c1' := xcell hb c1
    have c2' := xcell hb c2
    have hwl := hO.lt
    clear hks hO hb
    by_cases hlt : j < xs.length
    · have hlu : j < us.length := by omega
      have hji : (j : Int) < (us.length : Int) := by omega
      obtain ⟨sb, rfl, hs1, hs2, e0⟩ := HK.out j hlu
      have hsbl : sb < w.heap.size := World.block_lt_of_cell? _ _ e0
      have e0' := xcell HB.out e0
      have HF : Hid (∀ W, Below w.heap.size w W → Calls Tryz.prog 15 #[us[j], .slice a c.length cc] W (KdD W (kindX c xs[j]))) := HFAM.out j hlt hlu
      have hsb2 : sb < wr.heap.size := by omega
      generalize us[j] = U at *
      clear e0 c0 c1 c2
      go_wp2_with fail
      refine (HF.out _ HB.out).mono ?_
      rintro e w2 ⟨hb2, rfl⟩
      have HB2 : Hid (Below w.heap.size w w2) := HB.out.trans (hb2.mono HB.out.size)
      have HO2 : Hid (Own w2 w.heap.size 23 4 (cells4 ks)) := HO.out.later hb2
      clear hb2 HO HB c0' c1' c2' e0'
      cases hx : kindX c xs[j] with
      | error f =>
        have FIN : Hid (KdD w ((kindsX c xs).bind fun ks => if R ks = 0 then .error ⟨pl, 3⟩ else .ok (R ks)) (.returned (.tuple #[.int .i64 0, .int .i64 f.why, .int .i64 f.pl])) w2) := ⟨HB2.out, by rw [kindsX_bad j hlt HKS.out hx]; rfl⟩
        have hfw : ((f.why : Int) != 0) = true := by have := kindX_why c _ _ hx; simp; omega
        clear hx HO2 HB2 HF HFAM HRES HK HKS
        simp only [KdV]
        go_wp2_with fail
        go_ret3
        exact FIN.out
      | ok k =>
        have HK2 : Hid (kindsX c (xs.take (j + 1)) = .ok (ks ++ [k])) := by
          rw [Hid, List.take_succ_eq_append_getElem hlt, kindsX_snoc, HKS.out, hx]; rfl
        clear hx HF HKS
        simp only [KdV]
        by_cases h4 : j < 4
        · have h4i : (j : Int) < 4 := by omega
          have HP := hidMk' (HO2.out.put j (.int .i64 k))
          have HO3 : Hid (Own (w2.setCell ⟨w.heap.size, j, none⟩ (.int .i64 k)) w.heap.size 23 4 (cells4 (ks ++ [k]))) := by
            have h1 := HP.out.1
            rw [← hkl] at h1
            rw [cells4_set ks k (by omega)] at h1
            rw [Hid, ← hkl]; exact h1
          have HB3 : Hid (Below w.heap.size w (w2.setCell ⟨w.heap.size, j, none⟩ (.int .i64 k))) := xbNew HB2.out HP.out.2 (fun n hn => by cases hn; exact Nat.le_refl _)
          have q0 : ∃ v, w2.cell? ⟨w.heap.size, j, none⟩ = some v := by
            rw [HO2.out.cell j (by omega)]
            exact ⟨_, List.getElem?_eq_getElem (show j < (cells4 ks).length by simpa [cells4] using h4)⟩
          obtain ⟨v0, q0⟩ := q0
          have q1 := HO2.out.soft j
          have q2 := HO2.out.lt
          clear HP HO2 HB2
          go_wp2_with fail
          exact ⟨⟨j + 1, ks ++ [k], by omega, by go_num, HK2.out, HO3.out, HB3.out⟩, by simp [intOf]; omega⟩
        · have h4i : ¬ (j : Int) < 4 := by omega
          have HO3 : Hid (Own w2 w.heap.size 23 4 (cells4 (ks ++ [k]))) := by rw [← cells4_far ks k (by omega)]; exact HO2.out
          clear HO2
          go_wp2_with fail
          exact ⟨⟨j + 1, ks ++ [k], by omega, by go_num, HK2.out, HO3.out, HB2.out⟩, by simp [intOf]; omega⟩
    · obtain rfl : j = xs.length := by omega
      have hxl : ¬ ((xs.length : Nat) : Int) < (us.length : Int) := by omega
      rw [List.take_length] at HKS
      have HR : Hid (Calls Tryz.prog 30 #[.pointer (some ⟨b, 0, none⟩), .int .i64 AN, .slice (some ⟨w.heap.size, 0, none⟩) 4 4] wr fun e w' => e = .returned (.int .i64 (R ks)) ∧ Below wr.heap.size wr w') := HRES.out ks w.heap.size wr HKS.out HB.out ⟨by rw [HO.out.cell 0 (by decide)]; rfl, by rw [HO.out.cell 1 (by decide)]; rfl, by rw [HO.out.cell 2 (by decide)]; rfl, by rw [HO.out.cell 3 (by decide)]; rfl, HO.out.lt⟩
      clear HRES HFAM HK HO
      go_wp2_with fail
      refine HR.out.mono ?_
      rintro e w2 ⟨rfl, hb2⟩
      have HB2 : Hid (Below w.heap.size w w2) := HB.out.trans (hb2.mono HB.out.size)
      have c1'' := xcell hb2 c1'
      have hbl2 : b < w2.heap.size := by have := HB2.out.size; omega
      clear hb2 HR c0 c1 c2 c0' c1' c2'
      by_cases hr : R ks = 0
      · have FIN : Hid (∀ W, Below w2.heap.size w2 W → KdD w ((kindsX c xs).bind fun ks => if R ks = 0 then .error ⟨pl, 3⟩ else .ok (R ks)) (.returned (.tuple #[.int .i64 0, .int .i64 3, .int .i64 pl])) W) := fun W hW => ⟨HB2.out.trans (hW.mono HB2.out.size), by rw [HKS.out]; simp only [Except.bind]; rw [if_pos hr]; rfl⟩
        have hrb : (R ks == 0) = true := by simp [hr]
        clear hr HKS
        generalize R ks = RR at *
        go_wp2_with fail
        go_quiet (fail)
        go_wp2_with fail
        go_ret3
        exact FIN.out _ (by first | exact Below.refl _ _ | exact (Below.refl _ _).drew | exact Below.drewN' (Below.refl _ _))
      · have FIN : Hid (KdD w ((kindsX c xs).bind fun ks => if R ks = 0 then .error ⟨pl, 3⟩ else .ok (R ks)) (.returned (.tuple #[.int .i64 (R ks), .int .i64 0, .int .i64 0])) w2) := ⟨HB2.out, by rw [HKS.out]; simp only [Except.bind]; rw [if_neg hr]; rfl⟩
        have hrb : (R ks == 0) = false := by simp [hr]
        clear hr HKS
        generalize R ks = RR at *
        go_wp2_with fail
        go_ret3
        exact FIN.out
set_option maxHeartbeats 2000000 in
theorem kindD_lit (b : Nat) (k : Int) (cv : Value) (a : Option Addr) (n cc : Nat) (w : World) (c0 : w.cell? ⟨b, 0, none⟩ = some (.string bValue)) (c3 : w.cell? ⟨b, 3, none⟩ = some (.int .i64 k)) :
    Calls Tryz.prog 15 #[.pointer (some ⟨b, 0, none⟩), .slice a n cc] w (KdD w (.ok k)) := by
  have hbl : b < w.heap.size := World.block_lt_of_cell? _ _ c0
  have FIN : Hid (∀ W, Below w.heap.size w W → KdD w (.ok k) (.returned (.tuple #[.int .i64 k, .int .i64 0, .int .i64 0])) W) := fun W h => ⟨h, rfl⟩
  unfold bValue at c0
  go_enter Tryz.func15, Tryz.ntmps15
  go_wp2
  try (go_quiet (fail))
  try go_wp2
  go_ret3
  exact FIN.out _ (by first | exact Below.refl _ _ | exact (Below.refl _ _).drew | exact Below.drewN' (Below.refl _ _))
set_option maxHeartbeats 2000000 in
theorem kindD_noname (b pl : Nat) (nm : ByteArray) (a : Option Addr) (n cc : Nat) (w : World) (c0 : w.cell? ⟨b, 0, none⟩ = some (.string bCall)) (c1 : w.cell? ⟨b, 1, none⟩ = some (.int .i64 pl)) (c6 : w.cell? ⟨b, 6, none⟩ = some (.string nm)) (hn : argN nm < 0) :
    Calls Tryz.prog 15 #[.pointer (some ⟨b, 0, none⟩), .slice a n cc] w (KdD w (.error ⟨pl, 2⟩)) := by
  have hbl : b < w.heap.size := World.block_lt_of_cell? _ _ c0
  have FIN : Hid (∀ W, Below w.heap.size w W → KdD w (.error ⟨pl, 2⟩) (.returned (.tuple #[.int .i64 0, .int .i64 2, .int .i64 pl])) W) := fun W h => ⟨h, rfl⟩
  have HAR : Hid (∀ W, Calls Tryz.prog 29 #[.string nm] W fun e w' => e = .returned (.int .i64 (argN nm)) ∧ w' = W) := fun W => argsD_any nm W
  generalize argN nm = AN at *
  unfold bCall at c0
  go_enter Tryz.func15, Tryz.ntmps15
  go_wp2_with fail
  refine (HAR.out _).mono ?_
  rintro e w1 ⟨rfl, h⟩
  have := h.symm; subst this
  go_wp2_with fail
  try (go_quiet (fail))
  try go_wp2
  go_ret3
  exact FIN.out _ (by first | exact Below.refl _ _ | exact (Below.refl _ _).drew | exact Below.drewN' (Below.refl _ _))
set_option maxHeartbeats 4000000 in
theorem kindD_col (c : List Co) (b pl : Nat) (nm : ByteArray) (a : Option Addr) (cc : Nat) (w : World) (c0 : w.cell? ⟨b, 0, none⟩ = some (.string bName)) (c1 : w.cell? ⟨b, 1, none⟩ = some (.int .i64 pl)) (c6 : w.cell? ⟨b, 6, none⟩ = some (.string nm)) (hc : ColsAt w a c) (hm : c.length ≤ maxLen) :
    Calls Tryz.prog 15 #[.pointer (some ⟨b, 0, none⟩), .slice a c.length cc] w (KdD w (kindX c (.col pl nm))) := by
  have hbl : b < w.heap.size := World.block_lt_of_cell? _ _ c0
  have HAT : Hid (∀ W, Below w.heap.size w W → Calls Tryz.prog 28 #[.slice a c.length cc, .string nm] W fun e w' => e = .returned (.int .i64 (ixI (colIx c nm))) ∧ Below W.heap.size W w') := fun W hW => atD_any nm a cc c W (hc.later hW) hm
  have HC := hidMk' hc
  have hmx : (c.length : Int) ≤ 9223372036854775807 := by unfold maxLen at hm; omega
  unfold bName at c0
  clear hc hm
  cases hix : colIx c nm with
  | none =>
    have FIN : Hid (∀ W, Below w.heap.size w W → KdD w (kindX c (.col pl nm)) (.returned (.tuple #[.int .i64 0, .int .i64 2, .int .i64 pl])) W) := fun W h => ⟨h, by rw [kindX, hix]; simp [KdV]⟩
    rw [hix] at HAT
    simp only [ixI] at HAT
    clear hix HC
    go_enter Tryz.func15, Tryz.ntmps15
    go_wp2_with fail
    refine (HAT.out _ (Below.refl _ _)).mono ?_
    rintro e w1 ⟨rfl, hb1⟩
    have HB1 := hidMk' hb1
    have c1' := xcell hb1 c1
    have hbl1 : b < w1.heap.size := World.block_lt_of_cell? _ _ c1'
    clear hb1 c0 c1 c6
    go_wp2_with fail
    try (go_quiet (fail))
    try go_wp2
    go_ret3
    exact FIN.out _ (by first | exact HB1.out | exact HB1.out.drew | exact Below.drewN' HB1.out)
  | some i =>
    have hi : i < c.length := by
      unfold colIx at hix
      rw [List.findIdx?_eq_some_iff_getElem] at hix
      exact hix.1
    have FIN : Hid (∀ W, Below w.heap.size w W → KdD w (kindX c (.col pl nm)) (.returned (.tuple #[.int .i64 c[i].k, .int .i64 0, .int .i64 0])) W) := fun W h => ⟨h, by rw [kindX, hix]; simp [hi, KdV]⟩
    rw [hix] at HAT
    simp only [ixI] at HAT
    have hii : (i : Int) < (c.length : Int) := by omega
    obtain ⟨bb, off, rfl, e0, e1⟩ := HC.out i hi
    generalize c[i].k = KK at *
    clear hix HC e0
    go_enter Tryz.func15, Tryz.ntmps15
    go_wp2_with fail
    refine (HAT.out _ (Below.refl _ _)).mono ?_
    rintro e w1 ⟨rfl, hb1⟩
    have HB1 := hidMk' hb1
    have e1' := xcell hb1 e1
    have hbl1 : bb < w1.heap.size := World.block_lt_of_cell? _ _ e1'
    clear hb1 c0 c1 c6 e1
    go_wp2_with fail
    try (go_quiet (fail))
    try go_wp2
    go_ret3
    exact FIN.out _ (by first | exact HB1.out | exact HB1.out.drew | exact Below.drewN' HB1.out)
end Go.Proofs.YtnmelljaangfiaaGreatDoor.Dc
namespace Go.Proofs.YtnmelljaangfiaaGreatDoor.Dc
open Go.RowKit
set_option linter.unusedVariables false
set_option linter.unusedSimpArgs false
set_option maxRecDepth 100000

def K4' (w : World) (kb : Nat) (k0 k1 k2 k3 : Int) : Prop := w.cell? ⟨kb, 0, none⟩ = some (.int .i64 k0) ∧ w.cell? ⟨kb, 1, none⟩ = some (.int .i64 k1) ∧ w.cell? ⟨kb, 2, none⟩ = some (.int .i64 k2) ∧ w.cell? ⟨kb, 3, none⟩ = some (.int .i64 k3) ∧ kb < w.heap.size
set_option maxHeartbeats 2000000 in
theorem resA_bad (b kb : Nat) (ka : Option Addr) (m kc : Nat) (nv : Int) (nm : ByteArray) (k0 k1 k2 k3 : Int) (w : World) (c0 : w.cell? ⟨b, 0, none⟩ = some (.string bCall)) (c2 : w.cell? ⟨b, 2, none⟩ = some (.slice ka m kc)) (c6 : w.cell? ⟨b, 6, none⟩ = some (.string nm)) (hk : K4' w kb k0 k1 k2 k3) (hne : (m : Int) ≠ nv) :
    Calls Tryz.prog 30 #[.pointer (some ⟨b, 0, none⟩), .int .i64 nv, .slice (some ⟨kb, 0, none⟩) 4 4] w fun e w' => e = .returned (.int .i64 0) ∧ Below w.heap.size w w' := by
  obtain ⟨d0, d1, d2, d3, hkl⟩ := hk
  have hbl : b < w.heap.size := World.block_lt_of_cell? _ _ c0
  have hb : ((m : Int) != nv) = true := by simp [hne]
  unfold bCall at c0
  clear hne
  go_enter Tryz.func30, Tryz.ntmps30
  go_wp2
  go_ret
  exact ⟨rfl, Below.refl _ _⟩
set_option maxHeartbeats 2000000 in
theorem resA_len (b kb : Nat) (ka : Option Addr) (kc : Nat) (k0 k1 k2 k3 : Int) (w : World) (c0 : w.cell? ⟨b, 0, none⟩ = some (.string bCall)) (c2 : w.cell? ⟨b, 2, none⟩ = some (.slice ka 1 kc)) (c6 : w.cell? ⟨b, 6, none⟩ = some (.string bLen)) (hk : K4' w kb k0 k1 k2 k3) :
    Calls Tryz.prog 30 #[.pointer (some ⟨b, 0, none⟩), .int .i64 1, .slice (some ⟨kb, 0, none⟩) 4 4] w fun e w' => e = .returned (.int .i64 (if k0 = 3 then 1 else 0)) ∧ Below w.heap.size w w' := by
  obtain ⟨d0, d1, d2, d3, hkl⟩ := hk
  have hbl : b < w.heap.size := World.block_lt_of_cell? _ _ c0
  unfold bCall at c0
  unfold bLen at c6
  by_cases h1 : k0 = 3
  · have hb1 : (k0 == 3) = true := by simp [h1]
    go_enter Tryz.func30, Tryz.ntmps30
    go_wp2
    try (go_quiet (fail))
    try go_wp2
    go_ret
    exact ⟨by simp_all, by first | exact Below.refl _ _ | exact Below.drewN' (Below.refl _ _)⟩
  · have hb1 : (k0 == 3) = false := by simp [h1]
    go_enter Tryz.func30, Tryz.ntmps30
    go_wp2
    try (go_quiet (fail))
    try go_wp2
    go_ret
    exact ⟨by simp_all, by first | exact Below.refl _ _ | exact Below.drewN' (Below.refl _ _)⟩
set_option maxHeartbeats 2000000 in
theorem resA_abs (b kb : Nat) (ka : Option Addr) (kc : Nat) (k0 k1 k2 k3 : Int) (w : World) (c0 : w.cell? ⟨b, 0, none⟩ = some (.string bCall)) (c2 : w.cell? ⟨b, 2, none⟩ = some (.slice ka 1 kc)) (c6 : w.cell? ⟨b, 6, none⟩ = some (.string bAbs)) (hk : K4' w kb k0 k1 k2 k3) :
    Calls Tryz.prog 30 #[.pointer (some ⟨b, 0, none⟩), .int .i64 1, .slice (some ⟨kb, 0, none⟩) 4 4] w fun e w' => e = .returned (.int .i64 (if k0 = 1 then 1 else 0)) ∧ Below w.heap.size w w' := by
  obtain ⟨d0, d1, d2, d3, hkl⟩ := hk
  have hbl : b < w.heap.size := World.block_lt_of_cell? _ _ c0
  unfold bCall at c0
  unfold bAbs at c6
  by_cases h1 : k0 = 1
  · have hb1 : (k0 == 1) = true := by simp [h1]
    go_enter Tryz.func30, Tryz.ntmps30
    go_wp2
    try (go_quiet (fail))
    try go_wp2
    go_ret
    exact ⟨by simp_all, by first | exact Below.refl _ _ | exact Below.drewN' (Below.refl _ _)⟩
  · have hb1 : (k0 == 1) = false := by simp [h1]
    go_enter Tryz.func30, Tryz.ntmps30
    go_wp2
    try (go_quiet (fail))
    try go_wp2
    go_ret
    exact ⟨by simp_all, by first | exact Below.refl _ _ | exact Below.drewN' (Below.refl _ _)⟩
set_option maxHeartbeats 2000000 in
theorem resA_isnull (b kb : Nat) (ka : Option Addr) (kc : Nat) (k0 k1 k2 k3 : Int) (w : World) (c0 : w.cell? ⟨b, 0, none⟩ = some (.string bCall)) (c2 : w.cell? ⟨b, 2, none⟩ = some (.slice ka 1 kc)) (c6 : w.cell? ⟨b, 6, none⟩ = some (.string bIsnull)) (hk : K4' w kb k0 k1 k2 k3) :
    Calls Tryz.prog 30 #[.pointer (some ⟨b, 0, none⟩), .int .i64 1, .slice (some ⟨kb, 0, none⟩) 4 4] w fun e w' => e = .returned (.int .i64 (2)) ∧ Below w.heap.size w w' := by
  obtain ⟨d0, d1, d2, d3, hkl⟩ := hk
  have hbl : b < w.heap.size := World.block_lt_of_cell? _ _ c0
  unfold bCall at c0
  unfold bIsnull at c6
  go_enter Tryz.func30, Tryz.ntmps30
  go_wp2
  try (go_quiet (fail))
  try go_wp2
  go_ret
  exact ⟨by simp_all, by first | exact Below.refl _ _ | exact Below.drewN' (Below.refl _ _)⟩
set_option maxHeartbeats 2000000 in
theorem resA_cut (b kb : Nat) (ka : Option Addr) (kc : Nat) (k0 k1 k2 k3 : Int) (w : World) (c0 : w.cell? ⟨b, 0, none⟩ = some (.string bCall)) (c2 : w.cell? ⟨b, 2, none⟩ = some (.slice ka 2 kc)) (c6 : w.cell? ⟨b, 6, none⟩ = some (.string bCut)) (hk : K4' w kb k0 k1 k2 k3) :
    Calls Tryz.prog 30 #[.pointer (some ⟨b, 0, none⟩), .int .i64 2, .slice (some ⟨kb, 0, none⟩) 4 4] w fun e w' => e = .returned (.int .i64 (if k0 = 3 ∧ k1 = 1 then 3 else 0)) ∧ Below w.heap.size w w' := by
  obtain ⟨d0, d1, d2, d3, hkl⟩ := hk
  have hbl : b < w.heap.size := World.block_lt_of_cell? _ _ c0
  unfold bCall at c0
  unfold bCut at c6
  by_cases h2 : k0 = 3
  · have hb2 : (k0 == 3) = true := by simp [h2]
    by_cases h1 : k1 = 1
    · have hb1 : (k1 == 1) = true := by simp [h1]
      go_enter Tryz.func30, Tryz.ntmps30
      go_wp2
      try (go_quiet (fail))
      try go_wp2
      go_ret
      exact ⟨by simp_all, by first | exact Below.refl _ _ | exact Below.drewN' (Below.refl _ _)⟩
    · have hb1 : (k1 == 1) = false := by simp [h1]
      go_enter Tryz.func30, Tryz.ntmps30
      go_wp2
      try (go_quiet (fail))
      try go_wp2
      go_ret
      exact ⟨by simp_all, by first | exact Below.refl _ _ | exact Below.drewN' (Below.refl _ _)⟩
  · have hb2 : (k0 == 3) = false := by simp [h2]
    by_cases h1 : k1 = 1
    · have hb1 : (k1 == 1) = true := by simp [h1]
      go_enter Tryz.func30, Tryz.ntmps30
      go_wp2
      try (go_quiet (fail))
      try go_wp2
      go_ret
      exact ⟨by simp_all, by first | exact Below.refl _ _ | exact Below.drewN' (Below.refl _ _)⟩
    · have hb1 : (k1 == 1) = false := by simp [h1]
      go_enter Tryz.func30, Tryz.ntmps30
      go_wp2
      try (go_quiet (fail))
      try go_wp2
      go_ret
      exact ⟨by simp_all, by first | exact Below.refl _ _ | exact Below.drewN' (Below.refl _ _)⟩
set_option maxHeartbeats 2000000 in
theorem resA_coalesce (b kb : Nat) (ka : Option Addr) (kc : Nat) (k0 k1 k2 k3 : Int) (w : World) (c0 : w.cell? ⟨b, 0, none⟩ = some (.string bCall)) (c2 : w.cell? ⟨b, 2, none⟩ = some (.slice ka 2 kc)) (c6 : w.cell? ⟨b, 6, none⟩ = some (.string bCoalesce)) (hk : K4' w kb k0 k1 k2 k3) :
    Calls Tryz.prog 30 #[.pointer (some ⟨b, 0, none⟩), .int .i64 2, .slice (some ⟨kb, 0, none⟩) 4 4] w fun e w' => e = .returned (.int .i64 (if k0 = k1 then k0 else 0)) ∧ Below w.heap.size w w' := by
  obtain ⟨d0, d1, d2, d3, hkl⟩ := hk
  have hbl : b < w.heap.size := World.block_lt_of_cell? _ _ c0
  unfold bCall at c0
  unfold bCoalesce at c6
  by_cases h1 : k0 = k1
  · have hb1 : (k0 == k1) = true := by simp [h1]
    go_enter Tryz.func30, Tryz.ntmps30
    go_wp2
    try (go_quiet (fail))
    try go_wp2
    go_ret
    exact ⟨by simp_all, by first | exact Below.refl _ _ | exact Below.drewN' (Below.refl _ _)⟩
  · have hb1 : (k0 == k1) = false := by simp [h1]
    go_enter Tryz.func30, Tryz.ntmps30
    go_wp2
    try (go_quiet (fail))
    try go_wp2
    go_ret
    exact ⟨by simp_all, by first | exact Below.refl _ _ | exact Below.drewN' (Below.refl _ _)⟩
set_option maxHeartbeats 2000000 in
theorem resA_if (b kb : Nat) (ka : Option Addr) (kc : Nat) (k0 k1 k2 k3 : Int) (w : World) (c0 : w.cell? ⟨b, 0, none⟩ = some (.string bCall)) (c2 : w.cell? ⟨b, 2, none⟩ = some (.slice ka 3 kc)) (c6 : w.cell? ⟨b, 6, none⟩ = some (.string bIf)) (hk : K4' w kb k0 k1 k2 k3) :
    Calls Tryz.prog 30 #[.pointer (some ⟨b, 0, none⟩), .int .i64 3, .slice (some ⟨kb, 0, none⟩) 4 4] w fun e w' => e = .returned (.int .i64 (if k0 = 2 ∧ k1 = k2 then k1 else 0)) ∧ Below w.heap.size w w' := by
  obtain ⟨d0, d1, d2, d3, hkl⟩ := hk
  have hbl : b < w.heap.size := World.block_lt_of_cell? _ _ c0
  unfold bCall at c0
  unfold bIf at c6
  by_cases h2 : k0 = 2
  · have hb2 : (k0 == 2) = true := by simp [h2]
    by_cases h1 : k1 = k2
    · have hb1 : (k1 == k2) = true := by simp [h1]
      go_enter Tryz.func30, Tryz.ntmps30
      go_wp2
      try (go_quiet (fail))
      try go_wp2
      go_ret
      exact ⟨by simp_all, by first | exact Below.refl _ _ | exact Below.drewN' (Below.refl _ _)⟩
    · have hb1 : (k1 == k2) = false := by simp [h1]
      go_enter Tryz.func30, Tryz.ntmps30
      go_wp2
      try (go_quiet (fail))
      try go_wp2
      go_ret
      exact ⟨by simp_all, by first | exact Below.refl _ _ | exact Below.drewN' (Below.refl _ _)⟩
  · have hb2 : (k0 == 2) = false := by simp [h2]
    by_cases h1 : k1 = k2
    · have hb1 : (k1 == k2) = true := by simp [h1]
      go_enter Tryz.func30, Tryz.ntmps30
      go_wp2
      try (go_quiet (fail))
      try go_wp2
      go_ret
      exact ⟨by simp_all, by first | exact Below.refl _ _ | exact Below.drewN' (Below.refl _ _)⟩
    · have hb1 : (k1 == k2) = false := by simp [h1]
      go_enter Tryz.func30, Tryz.ntmps30
      go_wp2
      try (go_quiet (fail))
      try go_wp2
      go_ret
      exact ⟨by simp_all, by first | exact Below.refl _ _ | exact Below.drewN' (Below.refl _ _)⟩
end Go.Proofs.YtnmelljaangfiaaGreatDoor.Dc
namespace Go.Proofs.YtnmelljaangfiaaGreatDoor
set_option linter.unusedVariables false
set_option linter.unusedSimpArgs false

mutual
/-- How many tokens a tree has at the least. -/
def szX : X → Nat
  | .lit _ _ _ => 1
  | .col _ _ => 1
  | .pre _ _ x => 1 + szX x
  | .inf _ _ l r => 1 + szX l + szX r
  | .app _ _ l => 1 + szXs l
def szXs : List X → Nat
  | [] => 0
  | x :: l => szX x + szXs l
end
theorem szX_pos (x : X) : 0 < szX x := by cases x <;> rw [szX] <;> omega
theorem szXs_len : ∀ l, l.length ≤ szXs l
  | [] => by simp
  | x :: l => by have := szXs_len l; have := szX_pos x; rw [szXs, List.length_cons]; omega
theorem szXs_append : ∀ l l', szXs (l ++ l') = szXs l + szXs l'
  | [], l' => by rw [List.nil_append, szXs, Nat.zero_add]
  | x :: l, l' => by rw [List.cons_append, szXs, szXs, szXs_append l l', Nat.add_assoc]
def szM : Mode → Nat
  | .J _ l => szX l
  | .A _ _ l => 1 + szXs l
  | .Z _ _ => 1
  | .D _ => 0
/-- A tree has no more tokens than were taken. -/
theorem Ps.size {L : ByteArray → Int → Int → ByteArray → Prop} {E : Nat} {m : Mode} {lev : Nat} {ts : List Tk} {o : PR} (h : Ps L E m lev ts o) :
    ∀ x ts', o = .ok (x, ts') → szX x + ts'.length ≤ szM m + ts.length := by
  induction h with
  | jend h => intro x ts' e; cases e; exact Nat.le_refl _
  | jok _ _ _ ih1 ih2 =>
    intro x ts' e
    have h1 := ih1 _ _ rfl
    have h2 := ih2 _ _ e
    simp only [szM] at *
    omega
  | jstep _ _ _ ih1 ih2 =>
    intro x ts' e
    have h1 := ih1 _ _ rfl
    have h2 := ih2 _ _ e
    simp only [szM, szX, List.length_cons] at *
    omega
  | pok _ _ _ _ ih1 =>
    intro x ts' e
    cases e
    have h1 := ih1 _ _ rfl
    simp only [szM, szX, List.length_cons] at *
    omega
  | pnone _ _ _ ih1 =>
    intro x ts' e
    have h1 := ih1 _ _ e
    simp only [szM] at *
    omega
  | cnone _ _ ih1 =>
    intro x ts' e
    cases e
    have h1 := ih1 _ _ rfl
    simp only [szM] at *
    omega
  | cok _ _ _ ih1 ih2 =>
    intro x ts' e
    cases e
    have h1 := ih1 _ _ rfl
    have h2 := ih2 _ _ rfl
    simp only [szM, szX, List.length_cons] at *
    omega
  | lit _ _ => intro x ts' e; cases e; simp only [szM, szX, List.length_cons]; omega
  | ook _ _ _ _ _ ih1 =>
    intro x ts' e
    cases e
    have h1 := ih1 _ _ rfl
    simp only [szM, szX, List.length_cons] at *
    omega
  | ncol _ _ _ _ _ _ => intro x ts' e; cases e; simp only [szM, szX, List.length_cons]; omega
  | nargs _ _ _ _ _ _ _ _ ih1 =>
    intro x ts' e
    have h1 := ih1 _ _ e
    simp only [szM, szX, List.length_cons] at *
    omega
  | zend _ => intro x ts' e; cases e; simp only [szM, szX, szXs, List.length_cons]; omega
  | zok _ _ _ ih1 ih2 =>
    intro x ts' e
    have h1 := ih1 _ _ rfl
    have h2 := ih2 _ _ e
    simp only [szM, szX, szXs, List.length_cons] at *
    omega
  | aok _ _ _ ih1 ih2 =>
    intro x ts' e
    have h1 := ih1 _ _ rfl
    have h2 := ih2 _ _ e
    simp only [szM, szX, szXs, szXs_append, List.length_cons] at *
    omega
  | aend _ => intro x ts' e; cases e; simp only [szM, szX, szXs, List.length_cons]; omega
  | _ => intro x ts' e; cases e
end Go.Proofs.YtnmelljaangfiaaGreatDoor
namespace Go.Proofs.YtnmelljaangfiaaGreatDoor.Dc
open Go.RowKit
set_option linter.unusedVariables false
set_option linter.unusedSimpArgs false
set_option maxRecDepth 100000

mutual
/-- An expression as texts give them. -/
def NX : X → Prop
  | .lit k _ _ => k ≠ 0
  | .col _ _ => True
  | .pre _ s x => (s = bNot ∨ s = bMinus) ∧ NX x
  | .inf _ s l r => sgn s ≠ 7 ∧ NX l ∧ NX r
  | .app _ _ l => NXs l
def NXs : List X → Prop
  | [] => True
  | x :: l => NX x ∧ NXs l
end
theorem NXs.snoc {x : X} (hx : NX x) : ∀ {l : List X}, NXs l → NXs (l ++ [x])
  | [], _ => ⟨hx, trivial⟩
  | y :: l, h => ⟨h.1, NXs.snoc hx h.2⟩
def MC : Mode → Prop
  | .D _ => True
  | .J r l => r ≠ 7 ∧ NX l
  | .Z _ _ => True
  | .A _ _ l => NXs l
theorem jr_ne {r : Nat} (h : jr r) : r ≠ 7 := by rcases h with rfl | rfl | rfl | rfl <;> decide
/-- What is read is as texts give them. -/
theorem Ps.nx {L : ByteArray → Int → Int → ByteArray → Prop} (hL : ∀ t : Tk, Wf t → isLit t → ∀ k n s, L t.tx k n s → k ≠ 0) {E : Nat} {m : Mode} {lev : Nat} {ts : List Tk} {o : PR} (h : Ps L E m lev ts o) :
    (∀ t ∈ ts, Wf t) → MC m → ∀ x ts', o = .ok (x, ts') → NX x := by
  induction h with
  | jend h => intro hw hm x ts' e; cases e; exact hm.2
  | jok hj hp _ ih1 ih2 =>
    intro hw hm x ts' e
    exact ih2 (fun t ht => hw t (hp.suffix _ _ rfl t ht)) ⟨jr_ne hj, ih1 hw trivial _ _ rfl⟩ x ts' e
  | jstep hs hp _ ih1 ih2 =>
    intro hw hm x ts' e
    have hw1 := fun t ht => hw t (List.mem_cons_of_mem _ ht)
    exact ih2 (fun t ht => hw1 t (hp.suffix _ _ rfl t ht)) ⟨hm.1, by rw [hs]; exact hm.1, hm.2, ih1 hw1 trivial _ _ rfl⟩ x ts' e
  | pok hpr ht _ _ ih1 =>
    intro hw hm x ts' e
    cases e
    have hw1 := fun t ht => hw t (List.mem_cons_of_mem _ ht)
    refine ⟨?_, ih1 hw1 trivial _ _ rfl⟩
    rcases hpr with ⟨_, h⟩ | ⟨_, h⟩
    · exact .inl (ht.trans h)
    · exact .inr (ht.trans h)
  | pnone _ _ _ ih1 => intro hw hm x ts' e; exact ih1 hw trivial _ _ e
  | cnone _ _ ih1 => intro hw hm x ts' e; cases e; exact ih1 hw trivial _ _ rfl
  | cok hp hs _ ih1 ih2 =>
    intro hw hm x ts' e
    cases e
    have hw1 := fun t ht => hw t (hp.suffix _ _ rfl t ht)
    exact ⟨by rw [hs]; decide, ih1 hw trivial _ _ rfl, ih2 (fun t ht => hw1 t (List.mem_cons_of_mem _ ht)) trivial _ _ rfl⟩
  | lit hl hk => intro hw hm x ts' e; cases e; exact hL _ (hw _ (by simp)) hl _ _ _ hk
  | ncol => intro hw hm x ts' e; cases e; trivial
  | zend => intro hw hm x ts' e; cases e; trivial
  | aend => intro hw hm x ts' e; cases e; exact hm
  | ook _ _ _ _ _ ih1 => intro hw hm x ts' e; cases e; exact ih1 (fun t ht => hw t (List.mem_cons_of_mem _ ht)) trivial _ _ rfl
  | nargs _ _ _ _ _ _ _ _ ih1 => intro hw hm x ts' e; exact ih1 (fun t ht => hw t (List.mem_cons_of_mem _ (List.mem_cons_of_mem _ ht))) trivial _ _ e
  | zok _ hp _ ih1 ih2 =>
    intro hw hm x ts' e
    exact ih2 (fun t ht => hw t (hp.suffix _ _ rfl t ht)) ⟨ih1 hw trivial _ _ rfl, trivial⟩ x ts' e
  | aok _ hp _ ih1 ih2 =>
    intro hw hm x ts' e
    have hw1 := fun t ht => hw t (List.mem_cons_of_mem _ ht)
    exact ih2 (fun t ht => hw1 t (hp.suffix _ _ rfl t ht)) (NXs.snoc (ih1 hw1 trivial _ _ rfl) hm) x ts' e
  | _ => intro hw hm x ts' e; cases e
theorem orFlt_eq {pl : Nat} {o : Option Int} (h : o ≠ some 0) : orFlt pl o = if orZ o = 0 then .error ⟨pl, 3⟩ else .ok (orZ o) := by
  cases o with
  | none => rfl
  | some k =>
    have hk : k ≠ 0 := fun e => h (by rw [e])
    simp [orFlt, orZ, hk]
theorem opPre_nz (s : ByteArray) (k : Int) : kOf (opPre s) [k] ≠ some 0 := by
  unfold opPre
  split
  · rw [kOf1 2 2 k (by decide) (by decide)]; split <;> simp
  · rw [kOf1 1 1 k (by decide) (by decide)]; split <;> simp
end Go.Proofs.YtnmelljaangfiaaGreatDoor.Dc
namespace Go.Proofs.YtnmelljaangfiaaGreatDoor.Dc
open Go.RowKit
set_option linter.unusedVariables false
set_option linter.unusedSimpArgs false
set_option maxRecDepth 100000

theorem kOf_len (o : List Int × Int) (ks : List Int) (h : ks.length ≠ o.1.length) : kOf o ks = none := by unfold kOf; rw [if_neg h]
theorem kO_len (k : Int) : kOf ([3], 1) [k] = if k = 3 then some 1 else none := kOf1 3 1 k (by decide) (by decide)
theorem kO_abs (k : Int) : kOf ([1], 1) [k] = if k = 1 then some 1 else none := kOf1 1 1 k (by decide) (by decide)
theorem kO_isnull (k : Int) : kOf ([0], 2) [k] = some 2 := by unfold kOf; simp [kLoop, kStep]
theorem kO_cut (k k' : Int) : kOf ([3, 1], 3) [k, k'] = if k = 3 ∧ k' = 1 then some 3 else none := by
  unfold kOf; simp [kLoop, kStep]
  by_cases h : k = 3 <;> by_cases h' : k' = 1 <;> simp [h, h']
theorem kO_coalesce (k k' : Int) (hk : k ≠ 0) : kOf ([0, 0], 0) [k, k'] = if k = k' then some k else none := by
  unfold kOf; simp [kLoop, kStep, hk]
  by_cases h : k' = k
  · simp [h]
  · have h2 : ¬ k = k' := fun e => h e.symm
    simp [h, h2]
theorem kO_if (k k' k2 : Int) (hk : k' ≠ 0) : kOf ([2, 0, 0], 0) [k, k', k2] = if k = 2 ∧ k' = k2 then some k' else none := by
  unfold kOf; simp [kLoop, kStep, hk]
  by_cases h0 : k = 2
  · by_cases h : k2 = k'
    · simp [h0, h]
    · have h2 : ¬ k' = k2 := fun e => h e.symm
      simp [h0, h, h2, hk]
  · simp [h0]
theorem opInf_nz (s : ByteArray) (k k' : Int) (hk : k ≠ 0) : kOf (opInf s) [k, k'] ≠ some 0 := by
  unfold opInf
  split
  · rw [kOf2 2 2 k k' (by decide) (by decide)]; split <;> simp
  · split
    · rw [kOfE 2 k k' (by decide) hk]; split <;> simp
    · split
      · rw [kOf2 3 3 k k' (by decide) (by decide)]; split <;> simp
      · rw [kOf2 1 1 k k' (by decide) (by decide)]; split <;> simp
theorem opApp_cases {nm : ByteArray} {o : List Int × Int} (h : opApp nm = some o) : (nm = bLen ∧ o = ([3], 1)) ∨ (nm = bAbs ∧ o = ([1], 1)) ∨ (nm = bCut ∧ o = ([3, 1], 3)) ∨ (nm = bIsnull ∧ o = ([0], 2)) ∨ (nm = bCoalesce ∧ o = ([0, 0], 0)) ∨ (nm = bIf ∧ o = ([2, 0, 0], 0)) := by
  unfold opApp at h
  split at h
  · rename_i e; cases h; exact .inl ⟨e, rfl⟩
  split at h
  · rename_i e; cases h; exact .inr (.inl ⟨e, rfl⟩)
  split at h
  · rename_i e; cases h; exact .inr (.inr (.inl ⟨e, rfl⟩))
  split at h
  · rename_i e; cases h; exact .inr (.inr (.inr (.inl ⟨e, rfl⟩)))
  split at h
  · rename_i e; cases h; exact .inr (.inr (.inr (.inr (.inl ⟨e, rfl⟩))))
  split at h
  · rename_i e; cases h; exact .inr (.inr (.inr (.inr (.inr ⟨e, rfl⟩))))
  · cases h
theorem len1 {ks : List Int} (h : ks.length = 1) : ∃ a, ks = [a] := by
  match ks, h with
  | [a], _ => exact ⟨a, rfl⟩
theorem len2 {ks : List Int} (h : ks.length = 2) : ∃ a b, ks = [a, b] := by
  match ks, h with
  | [a, b], _ => exact ⟨a, b, rfl⟩
theorem len3 {ks : List Int} (h : ks.length = 3) : ∃ a b c, ks = [a, b, c] := by
  match ks, h with
  | [a, b, c], _ => exact ⟨a, b, c, rfl⟩
theorem opApp_nz {nm : ByteArray} {o : List Int × Int} (h : opApp nm = some o) (ks : List Int) (hk : ∀ k ∈ ks, k ≠ 0) : kOf o ks ≠ some 0 := by
  by_cases hl : ks.length = o.1.length
  · rcases opApp_cases h with ⟨_, rfl⟩ | ⟨_, rfl⟩ | ⟨_, rfl⟩ | ⟨_, rfl⟩ | ⟨_, rfl⟩ | ⟨_, rfl⟩
    · obtain ⟨a, rfl⟩ := len1 hl; rw [kO_len]; split <;> simp
    · obtain ⟨a, rfl⟩ := len1 hl; rw [kO_abs]; split <;> simp
    · obtain ⟨a, b, rfl⟩ := len2 hl; rw [kO_cut]; split <;> simp
    · obtain ⟨a, rfl⟩ := len1 hl; rw [kO_isnull]; simp
    · obtain ⟨a, b, rfl⟩ := len2 hl
      have ha := hk a (by simp)
      rw [kO_coalesce a b ha]; split
      · intro e; exact ha (by simpa using e)
      · simp
    · obtain ⟨a, b, c, rfl⟩ := len3 hl
      have hb := hk b (by simp)
      rw [kO_if a b c hb]; split
      · intro e; exact hb (by simpa using e)
      · simp
  · rw [kOf_len o ks hl]; simp
theorem orFlt_ok {pl : Nat} {o : Option Int} {k : Int} (h : orFlt pl o = .ok k) : o = some k := by
  cases o with
  | none => cases h
  | some k' => cases h; rfl
mutual
/-- Kinds are never 0. -/
theorem kindX_nz {c : List Co} (hc : ∀ x ∈ c, x.k ≠ 0) : ∀ (x : X), NX x → ∀ k, kindX c x = .ok k → k ≠ 0
  | .lit k n t, hx, k', h => by rw [kindX] at h; cases h; exact hx
  | .col pl nm, hx, k', h => by
    rw [kindX] at h
    split at h
    · rename_i x hx'
      cases h
      exact hc x (List.mem_of_getElem? hx')
    · cases h
  | .pre pl s x, hx, k', h => by
    rw [kindX] at h
    cases h1 : kindX c x with
    | error f => rw [h1] at h; cases h
    | ok k =>
      rw [h1] at h
      have h2 := orFlt_ok (show orFlt pl (kOf (opPre s) [k]) = .ok k' from h)
      intro e; subst e; exact opPre_nz s k h2
  | .inf pl s l r, hx, k', h => by
    rw [kindX] at h
    cases h1 : kindX c l with
    | error f => rw [h1] at h; cases h
    | ok k =>
      rw [h1] at h
      have hk := kindX_nz hc l hx.2.1 k h1
      cases h2 : kindX c r with
      | error f => rw [h2] at h; cases h
      | ok k2 =>
        rw [h2] at h
        have h3 := orFlt_ok (show orFlt pl (kOf (opInf s) [k, k2]) = .ok k' from h)
        intro e; subst e; exact opInf_nz s k k2 hk h3
  | .app pl nm l, hx, k', h => by
    rw [kindX] at h
    split at h
    · cases h
    · rename_i o ho
      cases h1 : kindsX c l with
      | error f => rw [h1] at h; cases h
      | ok ks =>
        rw [h1] at h
        have h3 := orFlt_ok (show orFlt pl (kOf o ks) = .ok k' from h)
        intro e; subst e; exact opApp_nz ho ks (kindsX_nz hc l hx ks h1) h3
theorem kindsX_nz {c : List Co} (hc : ∀ x ∈ c, x.k ≠ 0) : ∀ (l : List X), NXs l → ∀ ks, kindsX c l = .ok ks → ∀ k ∈ ks, k ≠ 0
  | [], hl, ks, h => by rw [kindsX] at h; cases h; simp
  | x :: l, hl, ks, h => by
    rw [kindsX] at h
    cases h1 : kindX c x with
    | error f => rw [h1] at h; cases h
    | ok k =>
      rw [h1] at h
      cases h2 : kindsX c l with
      | error f => rw [h2] at h; cases h
      | ok ks' =>
        rw [h2] at h
        cases h
        intro k' hk'
        rcases List.mem_cons.1 hk' with rfl | hk'
        · exact kindX_nz hc x hl.1 _ h1
        · exact kindsX_nz hc l hl.2 ks' h2 k' hk'
end
end Go.Proofs.YtnmelljaangfiaaGreatDoor.Dc
namespace Go.Proofs.YtnmelljaangfiaaGreatDoor.Dc
open Go.RowKit
set_option linter.unusedVariables false
set_option linter.unusedSimpArgs false
set_option maxRecDepth 100000
set_option maxHeartbeats 8000000 in
theorem columnsD_any (a : Option Addr) (c : Nat) (l : List Co) (w : World) (hc : ColsAt w a l) (hm : l.length ≤ maxLen) (hz : ∀ x ∈ l, x.nm.size ≤ 140737488355328) :
    Calls Tryz.prog 14 #[.slice a l.length c] w (ColPost w l) := by
  have HC := hidMk' hc
  have hmx : (l.length : Int) ≤ 9223372036854775807 := by unfold maxLen at hm; omega
  have HN : Hid (∀ x ∈ l, ∀ W, Calls Tryz.prog 27 #[.string x.nm] W fun e w' => e = .returned (.bool (nmX x.nm)) ∧ w' = W) := fun x hx W => namedD_any x.nm W (hz x hx)
  clear hc hm hz
  go_enter Tryz.func14, Tryz.ntmps14
  go_wp2
  go_loopw [3] (fun i w' => ∃ j : Nat, j ≤ l.length ∧ i = .int .i64 j ∧ Below w.heap.size w w' ∧ ∀ m (hm : m < l.length), m < j → colX l m l[m]) (fun i _ => l.length - (intOf i).toNat)
  case atStart => exact ⟨0, Nat.zero_le _, rfl, Below.refl _ _, fun m _ h => absurd h (by omega)⟩
  case round =>
    obtain ⟨j, hj, rfl, hb, hno⟩ := hrel
    have HB := hidMk' hb
    have HNO := hidMk' hno
    clear hb hno
    by_cases hlt : j < l.length
    · have hji : (j : Int) < (l.length : Int) := by omega
      obtain ⟨bb, off, rfl, e0, e1⟩ := (HC.out.later HB.out) j hlt
      have hbbl : bb < wr.heap.size := World.block_lt_of_cell? _ _ e0
      have HN1 : Hid (∀ W, Calls Tryz.prog 27 #[.string l[j].nm] W fun e w' => e = .returned (.bool (nmX l[j].nm)) ∧ w' = W) := HN.out l[j] (List.getElem_mem hlt)
      have BAD : Hid (¬ colX l j l[j] → (false = true ↔ colsX l)) := fun h => ⟨fun h => (by cases h), fun h' => absurd (h'.2 j hlt) h⟩
      have HX : Hid (colX l j l[j] ↔ nmX l[j].nm = true ∧ colIx l l[j].nm = some j ∧ (l[j].k = 1 ∨ l[j].k = 2 ∨ l[j].k = 3)) := Iff.rfl
      have HSAME : Hid (∀ (k : Nat) (hk : k < l.length), k < j → l[k].nm = l[j].nm → ¬ colX l j l[j]) := fun k hk hkj he h => by
        have h2 : colIx l l[j].nm = some j := h.2.1
        unfold colIx at h2
        rw [List.findIdx?_eq_some_iff_getElem] at h2
        exact h2.2.2 k hkj (by simpa using he)
      have HDIFF : Hid ((∀ (k : Nat) (hk : k < l.length), k < j → l[k].nm ≠ l[j].nm) → colIx l l[j].nm = some j) := fun h => colIx_some hlt rfl h
      have HNO2 : Hid (colX l j l[j] → ∀ m (hm : m < l.length), m < j + 1 → colX l m l[m]) := fun h m hm hmj => by
        rcases Nat.lt_or_ge m j with h' | h'
        · exact HNO.out m hm h'
        · have : m = j := by omega
          subst this; exact h
      obtain ⟨NM, hNM⟩ : ∃ NM, NM = l[j].nm := ⟨_, rfl⟩
      obtain ⟨KK, hKK⟩ : ∃ KK, KK = l[j].k := ⟨_, rfl⟩
      rw [← hNM] at e0 HN1 HX HSAME HDIFF
      rw [← hKK] at e1 HX
      generalize colX l j l[j] = CX at *
      clear hNM hKK HN HNO
      cases hnm : nmX NM
      · have FB : Hid (false = true ↔ colsX l) := BAD.out (fun h => by have := (HX.out.1 h).1; rw [hnm] at this; cases this)
        rw [hnm] at HN1
        clear hnm BAD HX HSAME HDIFF HNO2
        go_wp2_with fail
        refine (HN1.out _).mono ?_
        rintro e w2 ⟨rfl, h⟩
        have := h.symm; subst this
        go_wp2_with fail
        go_ret
        exact ⟨⟨_, rfl, FB.out⟩, HB.out⟩
      · rw [hnm] at HN1
        have HNM := hidMk' hnm
        clear hnm
        by_cases q1 : KK < 1
        · have FB : Hid (false = true ↔ colsX l) := BAD.out (fun h => by rcases (HX.out.1 h).2.2 with h | h | h <;> omega)
          clear BAD HX HSAME HDIFF HNO2
          go_wp2_with fail
          refine (HN1.out _).mono ?_
          rintro e w2 ⟨rfl, h⟩
          have := h.symm; subst this
          go_wp2_with fail
          go_ret
          exact ⟨⟨_, rfl, FB.out⟩, HB.out⟩
        by_cases q2 : 3 < KK
        · have FB : Hid (false = true ↔ colsX l) := BAD.out (fun h => by rcases (HX.out.1 h).2.2 with h | h | h <;> omega)
          clear BAD HX HSAME HDIFF HNO2
          go_wp2_with fail
          refine (HN1.out _).mono ?_
          rintro e w2 ⟨rfl, h⟩
          have := h.symm; subst this
          go_wp2_with fail
          go_ret
          exact ⟨⟨_, rfl, FB.out⟩, HB.out⟩
        have HKD : Hid (KK = 1 ∨ KK = 2 ∨ KK = 3) := by unfold Hid; omega
        go_wp2_with fail
        refine (HN1.out _).mono ?_
        rintro e w2 ⟨rfl, h⟩
        have := h.symm; subst this
        go_wp2_with fail
        go_loopw [5] (fun i w' => ∃ k : Nat, k ≤ j ∧ i = .int .i64 k ∧ (∀ m (hm : m < l.length), m < k → l[m].nm ≠ NM) ∧ Below w.heap.size w w' ∧ Below wr.heap.size wr w') (fun i _ => j - (intOf i).toNat)
        case atStart => exact ⟨0, Nat.zero_le _, rfl, fun m _ h => absurd h (by omega), HB.out, Below.refl _ _⟩
        case round =>
          obtain ⟨k, hkj, rfl, hdk, hbk, hbk2⟩ := hrel
          have HBK := hidMk' hbk
          have HDK := hidMk' hdk
          have e0' := xcell hbk2 e0
          have HBK2 := hidMk' hbk2
          clear hbk hbk2 hdk e0 e1
          by_cases hklt : k < j
          · have hkji : (k : Int) < (j : Int) := by omega
            have hkl : k < l.length := by omega
            have hkli : (k : Int) < (l.length : Int) := by omega
            obtain ⟨bb2, off2, ha2, e2, _⟩ := (HC.out.later HBK.out) k hkl
            obtain ⟨rfl, rfl⟩ : bb = bb2 ∧ off = off2 := by simpa using ha2
            have hbl2 : bb < wr.heap.size := World.block_lt_of_cell? _ _ e2
            by_cases hsame : l[k].nm = NM
            · have hq : (l[k].nm.toList == NM.toList) = true := xeq hsame
              have FB : Hid (false = true ↔ colsX l) := BAD.out (HSAME.out k hkl hklt hsame)
              generalize l[k].nm = NK at *
              clear BAD HX HSAME HDIFF HNO2 HC hsame HDK
              go_wp2_with fail
              go_quiet (fail)
              go_wp2_with fail
              go_ret
              exact ⟨⟨_, rfl, FB.out⟩, by first | exact HBK.out | exact Below.drewN' HBK.out⟩
            · have hq : (l[k].nm.toList == NM.toList) = false := xne hsame
              have F : Hid (∀ m (hm : m < l.length), m < k + 1 → l[m].nm ≠ NM) := fun m hm hmj => by
                rcases Nat.lt_or_ge m k with h' | h'
                · exact HDK.out m hm h'
                · have : m = k := by omega
                  subst this; exact hsame
              generalize l[k].nm = NK at *
              clear BAD HX HSAME HDIFF HNO2 HC hsame HDK
              go_wp2_with fail
              go_quiet (fail)
              go_wp2_with fail
              exact ⟨⟨k + 1, by omega, by go_num, F.out, Below.drewN' HBK.out, Below.drewN' HBK2.out⟩, by simp [intOf]; omega⟩
          · obtain rfl : k = j := by omega
            have F : Hid (∀ m (hm : m < l.length), m < k + 1 → colX l m l[m]) := HNO2.out (HX.out.2 ⟨HNM.out, HDIFF.out HDK.out, HKD.out⟩)
            clear BAD HX HSAME HDIFF HNO2 HC HDK
            go_wp2_with fail
            exact ⟨⟨k + 1, by omega, by go_num, HBK.out, F.out⟩, by simp [intOf]; omega⟩
    · obtain rfl : j = l.length := by omega
      have FG : Hid (decide ((l.length : Int) ≤ 8) = true ↔ colsX l) := by
        rw [Hid, decide_eq_true_iff]
        exact ⟨fun h => ⟨by omega, fun m hm => HNO.out m hm hm⟩, fun h => by have := h.1; omega⟩
      clear HNO HN HC
      go_wp2_with fail
      go_ret
      exact ⟨⟨_, rfl, FG.out⟩, HB.out⟩
end Go.Proofs.YtnmelljaangfiaaGreatDoor.Dc
namespace Go.Proofs.YtnmelljaangfiaaGreatDoor.Dc
open Go.RowKit
set_option linter.unusedVariables false
set_option linter.unusedSimpArgs false
set_option maxRecDepth 100000

theorem signs_ne {s : ByteArray} (h : sgn s ≠ 7) : (s.toList == [118, 97, 108, 117, 101]) = false ∧ (s.toList == [110, 97, 109, 101]) = false ∧ (s.toList == [99, 97, 108, 108]) = false := by
  refine ⟨xnl fun e => h (by rw [e]; decide), xnl fun e => h (by rw [e]; decide), xnl fun e => h (by rw [e]; decide)⟩
/-- What the document's result is of two parts. -/
theorem resI_any (s : ByteArray) (hs : sgn s ≠ 7) (b kb : Nat) (nv k0 k1 k2 k3 : Int) (w : World) (c0 : w.cell? ⟨b, 0, none⟩ = some (.string s)) (hk : K4 w kb k0 k1 k2 k3) (hk0 : k0 ≠ 0) :
    Calls Tryz.prog 30 #[.pointer (some ⟨b, 0, none⟩), .int .i64 nv, .slice (some ⟨kb, 0, none⟩) 4 4] w fun e w' => e = .returned (.int .i64 (orZ (kOf (opInf s) [k0, k1]))) ∧ Below w.heap.size w w' := by
  have hb2 : ∀ a g : Int, a ≠ 0 → g ≠ 0 → orZ (kOf ([a, a], g) [k0, k1]) = if k0 = a ∧ k1 = a then g else 0 := fun a g ha hg => by rw [kOf2 a g k0 k1 ha hg]; split <;> rfl
  have he2 : orZ (kOf ([0, 0], 2) [k0, k1]) = if k0 = k1 then 2 else 0 := by rw [kOfE 2 k0 k1 (by decide) hk0]; split <;> rfl
  by_cases hOr : s = bOr
  · subst hOr; rw [show opInf bOr = ([2, 2], 2) by decide +kernel, hb2 2 2 (by decide) (by decide)]; exact res_or b kb nv k0 k1 k2 k3 w c0 hk
  by_cases hAnd : s = bAnd
  · subst hAnd; rw [show opInf bAnd = ([2, 2], 2) by decide +kernel, hb2 2 2 (by decide) (by decide)]; exact res_and b kb nv k0 k1 k2 k3 w c0 hk
  by_cases hEq : s = bEq
  · subst hEq; rw [show opInf bEq = ([0, 0], 2) by decide +kernel, he2]; exact res_Eq b kb nv k0 k1 k2 k3 w c0 hk
  by_cases hNe : s = bNe
  · subst hNe; rw [show opInf bNe = ([0, 0], 2) by decide +kernel, he2]; exact res_Ne b kb nv k0 k1 k2 k3 w c0 hk
  by_cases hLt : s = bLt
  · subst hLt; rw [show opInf bLt = ([0, 0], 2) by decide +kernel, he2]; exact res_Lt b kb nv k0 k1 k2 k3 w c0 hk
  by_cases hLe : s = bLe
  · subst hLe; rw [show opInf bLe = ([0, 0], 2) by decide +kernel, he2]; exact res_Le b kb nv k0 k1 k2 k3 w c0 hk
  by_cases hGt : s = bGt
  · subst hGt; rw [show opInf bGt = ([0, 0], 2) by decide +kernel, he2]; exact res_Gt b kb nv k0 k1 k2 k3 w c0 hk
  by_cases hGe : s = bGe
  · subst hGe; rw [show opInf bGe = ([0, 0], 2) by decide +kernel, he2]; exact res_Ge b kb nv k0 k1 k2 k3 w c0 hk
  by_cases hCat : s = bCat
  · subst hCat; rw [show opInf bCat = ([3, 3], 3) by decide +kernel, hb2 3 3 (by decide) (by decide)]; exact res_cat b kb nv k0 k1 k2 k3 w c0 hk
  by_cases hPlus : s = bPlus
  · subst hPlus; rw [show opInf bPlus = ([1, 1], 1) by decide +kernel, hb2 1 1 (by decide) (by decide)]; exact res_sPlus b kb nv k0 k1 k2 k3 w c0 hk
  by_cases hMinus : s = bMinus
  · subst hMinus; rw [show opInf bMinus = ([1, 1], 1) by decide +kernel, hb2 1 1 (by decide) (by decide)]; exact res_sMinus b kb nv k0 k1 k2 k3 w c0 hk
  by_cases hMul : s = bMul
  · subst hMul; rw [show opInf bMul = ([1, 1], 1) by decide +kernel, hb2 1 1 (by decide) (by decide)]; exact res_sMul b kb nv k0 k1 k2 k3 w c0 hk
  by_cases hDiv : s = bDiv
  · subst hDiv; rw [show opInf bDiv = ([1, 1], 1) by decide +kernel, hb2 1 1 (by decide) (by decide)]; exact res_sDiv b kb nv k0 k1 k2 k3 w c0 hk
  by_cases hMod : s = bMod
  · subst hMod; rw [show opInf bMod = ([1, 1], 1) by decide +kernel, hb2 1 1 (by decide) (by decide)]; exact res_sMod b kb nv k0 k1 k2 k3 w c0 hk
  refine absurd ?_ hs
  unfold sgn
  simp [hOr, hAnd, hEq, hNe, hLt, hLe, hGt, hGe, hPlus, hMinus, hCat, hMul, hDiv, hMod]
/-- What the document's result is of arguments. -/
theorem resA_any {nm : ByteArray} {o : List Int × Int} (h : opApp nm = some o) (ks : List Int) (hz : ∀ k ∈ ks, k ≠ 0) (b kb : Nat) (ka : Option Addr) (kc : Nat) (w : World) (c0 : w.cell? ⟨b, 0, none⟩ = some (.string bCall)) (c2 : w.cell? ⟨b, 2, none⟩ = some (.slice ka ks.length kc)) (c6 : w.cell? ⟨b, 6, none⟩ = some (.string nm)) (hk : K4 w kb (ks.getD 0 0) (ks.getD 1 0) (ks.getD 2 0) (ks.getD 3 0)) :
    Calls Tryz.prog 30 #[.pointer (some ⟨b, 0, none⟩), .int .i64 (argN nm), .slice (some ⟨kb, 0, none⟩) 4 4] w fun e w' => e = .returned (.int .i64 (orZ (kOf o ks))) ∧ Below w.heap.size w w' := by
  have hn : argN nm = (o.1.length : Int) := by unfold argN; rw [h]
  by_cases hl : ks.length = o.1.length
  · rw [hn, ← hl]
    rcases opApp_cases h with ⟨rfl, rfl⟩ | ⟨rfl, rfl⟩ | ⟨rfl, rfl⟩ | ⟨rfl, rfl⟩ | ⟨rfl, rfl⟩ | ⟨rfl, rfl⟩
    · obtain ⟨a, rfl⟩ := len1 hl
      rw [show orZ (kOf ([3], 1) [a]) = if a = 3 then 1 else 0 by rw [kO_len]; split <;> rfl]
      exact resA_len b kb ka kc a 0 0 0 w c0 c2 c6 hk
    · obtain ⟨a, rfl⟩ := len1 hl
      rw [show orZ (kOf ([1], 1) [a]) = if a = 1 then 1 else 0 by rw [kO_abs]; split <;> rfl]
      exact resA_abs b kb ka kc a 0 0 0 w c0 c2 c6 hk
    · obtain ⟨a, a', rfl⟩ := len2 hl
      rw [show orZ (kOf ([3, 1], 3) [a, a']) = if a = 3 ∧ a' = 1 then 3 else 0 by rw [kO_cut]; split <;> rfl]
      exact resA_cut b kb ka kc a a' 0 0 w c0 c2 c6 hk
    · obtain ⟨a, rfl⟩ := len1 hl
      rw [kO_isnull]
      exact resA_isnull b kb ka kc a 0 0 0 w c0 c2 c6 hk
    · obtain ⟨a, a', rfl⟩ := len2 hl
      rw [show orZ (kOf ([0, 0], 0) [a, a']) = if a = a' then a else 0 by rw [kO_coalesce a a' (hz a (by simp))]; split <;> rfl]
      exact resA_coalesce b kb ka kc a a' 0 0 w c0 c2 c6 hk
    · obtain ⟨a, a', a2, rfl⟩ := len3 hl
      rw [show orZ (kOf ([2, 0, 0], 0) [a, a', a2]) = if a = 2 ∧ a' = a2 then a' else 0 by rw [kO_if a a' a2 (hz a' (by simp))]; split <;> rfl]
      exact resA_if b kb ka kc a a' a2 0 w c0 c2 c6 hk
  · rw [kOf_len o ks hl]
    exact resA_bad b kb ka ks.length kc (argN nm) nm _ _ _ _ w c0 c2 c6 hk (by rw [hn]; omega)
theorem argN_neg {nm : ByteArray} : argN nm < 0 ↔ opApp nm = none := by
  unfold argN
  cases h : opApp nm with
  | none => simp
  | some o => simp
mutual
/-- The document's Kind is the kind. -/
theorem kindD_x (c : List Co) (a : Option Addr) (cc : Nat) (hm : c.length ≤ maxLen) (hz : ∀ x ∈ c, x.k ≠ 0) (w : World) (lo hi : Nat) (hc : ColsAt w a c) : ∀ (x : X) (v : Value), Et w lo hi x v → NX x → szX x ≤ 200 → ∀ W, Below w.heap.size w W → Calls Tryz.prog 15 #[v, .slice a c.length cc] W (KdD W (kindX c x))
  | .lit k n t, v, h, hx, hs, W, hW => by
    rw [Et] at h
    obtain ⟨b, rfl, _, _, c0, c3, _⟩ := h
    rw [kindX]
    exact kindD_lit b k (.bool true) a c.length cc W (xcell hW c0) (xcell hW c3)
  | .col pl nm, v, h, hx, hs, W, hW => by
    rw [Et] at h
    obtain ⟨b, rfl, _, _, c0, c1, c6⟩ := h
    exact kindD_col c b pl nm a cc W (xcell hW c0) (xcell hW c1) (xcell hW c6) (hc.later hW) hm
  | .pre pl s x, v, h, hx, hs, W, hW => by
    rw [Et] at h
    obtain ⟨b, kv, u, rfl, _, _, c0, c1, c2, hka, he⟩ := h
    rw [szX] at hs
    have ih := kindD_x c a cc hm hz w lo hi hc x u he hx.2 (by omega)
    have e : kindX c (.pre pl s x) = (kindsX c [x]).bind fun ks => if orZ (kOf (opPre s) ks) = 0 then .error ⟨pl, 3⟩ else .ok (orZ (kOf (opPre s) ks)) := by
      rw [kindX, kindsX, kindsX]
      cases kindX c x with
      | error f => rfl
      | ok k => exact orFlt_eq (opPre_nz s k)
    rw [e]
    have hS : wPre s = bNot ∨ wPre s = bMinusW := by unfold wPre; split <;> simp
    refine nodeN c a cc b pl kv [x] [u] lo hi (fun ks => orZ (kOf (opPre s) ks)) W (wPre s) ?_ ?_ ?_ (xcell hW c0) (xcell hW c1) (xcell hW c2) (hka.keep (fun b i u _ _ hc => xcell hW hc) (Nat.le_refl _) (Nat.le_refl _)) rfl (by simp) (fun i h h' W' hW' => ?_) (fun ks kb W' hks hW' hk => ?_)
    · rcases hS with h | h <;> rw [h] <;> decide +kernel
    · rcases hS with h | h <;> rw [h] <;> decide +kernel
    · rcases hS with h | h <;> rw [h] <;> decide +kernel
    · obtain rfl : i = 0 := by simp at h; exact h
      exact ih W' (hW.trans (hW'.mono hW.size))
    · obtain ⟨k, rfl⟩ := len1 (kindsX_len hks)
      have c0' := xcell hW' (xcell hW c0)
      rcases hx.1 with rfl | rfl
      · rw [show opPre bNot = ([2], 2) by decide +kernel, show orZ (kOf ([2], 2) [k]) = if k = 2 then 2 else 0 by rw [kOf1 2 2 k (by decide) (by decide)]; split <;> rfl]
        rw [wPre_not] at c0'
        exact res_not b kb (-1) k 0 0 0 W' c0' hk
      · rw [show opPre bMinus = ([1], 1) by decide +kernel, show orZ (kOf ([1], 1) [k]) = if k = 1 then 1 else 0 by rw [kOf1 1 1 k (by decide) (by decide)]; split <;> rfl]
        rw [wPre_minus] at c0'
        exact res_minus b kb (-1) k 0 0 0 W' c0' hk
  | .inf pl s l r, v, h, hx, hs, W, hW => by
    rw [Et] at h
    obtain ⟨b, kv, u, u', rfl, _, _, c0, c1, c2, hka, he1, he2⟩ := h
    rw [szX] at hs
    have ih1 := kindD_x c a cc hm hz w lo hi hc l u he1 hx.2.1 (by omega)
    have ih2 := kindD_x c a cc hm hz w lo hi hc r u' he2 hx.2.2 (by omega)
    have e : kindX c (.inf pl s l r) = (kindsX c [l, r]).bind fun ks => if orZ (kOf (opInf s) ks) = 0 then .error ⟨pl, 3⟩ else .ok (orZ (kOf (opInf s) ks)) := by
      rw [kindX, kindsX, kindsX, kindsX]
      cases h1 : kindX c l with
      | error f => rfl
      | ok k =>
        cases kindX c r with
        | error f => rfl
        | ok k2 => exact orFlt_eq (opInf_nz s k k2 (kindX_nz hz l hx.2.1 k h1))
    rw [e]
    obtain ⟨q1, q2, q3⟩ := signs_ne hx.1
    refine nodeN c a cc b pl kv [l, r] [u, u'] lo hi (fun ks => orZ (kOf (opInf s) ks)) W s q1 q2 q3 (xcell hW c0) (xcell hW c1) (xcell hW c2) (hka.keep (fun b i u _ _ hc => xcell hW hc) (Nat.le_refl _) (Nat.le_refl _)) rfl (by simp) (fun i h h' W' hW' => ?_) (fun ks kb W' hks hW' hk => ?_)
    · match i, h with
      | 0, _ => exact ih1 W' (hW.trans (hW'.mono hW.size))
      | 1, _ => exact ih2 W' (hW.trans (hW'.mono hW.size))
      | i + 2, h => exact absurd h (by simp)
    · obtain ⟨k, k2, rfl⟩ := len2 (kindsX_len hks)
      have hnz := kindsX_nz hz [l, r] ⟨hx.2.1, hx.2.2, trivial⟩ _ hks k (by simp)
      exact resI_any s hx.1 b kb (-1) k k2 0 0 W' (xcell hW' (xcell hW c0)) hk hnz
  | .app pl nm l, v, h, hx, hs, W, hW => by
    rw [Et] at h
    obtain ⟨b, kv, us, rfl, _, _, c0, c1, c6, c2, hka, he⟩ := h
    rw [szX] at hs
    have hll := szXs_len l
    have ih := kindD_l c a cc hm hz w lo hi hc l us he hx (by omega)
    rw [kindX]
    cases ho : opApp nm with
    | none => exact kindD_noname b pl nm a c.length cc W (xcell hW c0) (xcell hW c1) (xcell hW c6) (argN_neg.2 ho)
    | some o =>
      have e : ((kindsX c l).bind fun ks => orFlt pl (kOf o ks)) = (kindsX c l).bind fun ks => if orZ (kOf o ks) = 0 then .error ⟨pl, 3⟩ else .ok (orZ (kOf o ks)) := by
        cases h1 : kindsX c l with
        | error f => rfl
        | ok ks => exact orFlt_eq (opApp_nz ho ks (kindsX_nz hz l hx ks h1))
      show Calls Tryz.prog _ _ W (KdD W ((kindsX c l).bind fun ks => orFlt pl (kOf o ks)))
      rw [e]
      have hul : us.length = l.length := ih.1
      obtain ⟨ka, kc, rfl, hk⟩ := id hka
      refine nodeC c a cc b pl (.slice ka us.length kc) l us lo hi (fun ks => orZ (kOf o ks)) W nm (xcell hW c6) (fun h => by rw [argN_neg, ho] at h; cases h) (xcell hW c0) (xcell hW c1) (xcell hW c2) (hka.keep (fun b i u _ _ hc => xcell hW hc) (Nat.le_refl _) (Nat.le_refl _)) hul (by omega) (fun i h h' W' hW' => ih.2 i h h' W' (hW.trans (hW'.mono hW.size))) (fun ks kb W' hks hW' hk' => ?_)
      have hkl := kindsX_len hks
      exact resA_any ho ks (kindsX_nz hz l hx ks hks) b kb ka kc W' (xcell hW' (xcell hW c0)) (by rw [hkl, ← hul]; exact xcell hW' (xcell hW c2)) (xcell hW' (xcell hW c6)) hk'
theorem kindD_l (c : List Co) (a : Option Addr) (cc : Nat) (hm : c.length ≤ maxLen) (hz : ∀ x ∈ c, x.k ≠ 0) (w : World) (lo hi : Nat) (hc : ColsAt w a c) : ∀ (l : List X) (us : List Value), Ets w lo hi l us → NXs l → szXs l ≤ 200 → us.length = l.length ∧ ∀ i (h : i < l.length) (h' : i < us.length) W, Below w.heap.size w W → Calls Tryz.prog 15 #[us[i], .slice a c.length cc] W (KdD W (kindX c l[i]))
  | [], us, h, _, _ => by
    rw [Ets] at h
    subst h
    exact ⟨rfl, fun i h => absurd h (by simp)⟩
  | x :: l, us, h, hx, hs => by
    rw [Ets] at h
    obtain ⟨u, us', rfl, he, hl⟩ := h
    rw [szXs] at hs
    have ih1 := kindD_x c a cc hm hz w lo hi hc x u he hx.1 (by omega)
    have ih2 := kindD_l c a cc hm hz w lo hi hc l us' hl hx.2 (by omega)
    refine ⟨by simp [ih2.1], fun i h h' W hW => ?_⟩
    cases i with
    | zero => exact ih1 W hW
    | succ i => exact ih2.2 i (by simpa using h) (by simpa using h') W hW
end
end Go.Proofs.YtnmelljaangfiaaGreatDoor.Dc
namespace Go.Proofs.YtnmelljaangfiaaGreatDoor
open Go.RowKit
set_option linter.unusedVariables false
set_option linter.unusedSimpArgs false
set_option maxRecDepth 100000

def ints (l : List Int) : List Value := l.map (Value.int .i64 ·)
theorem ints_len (l : List Int) : (ints l).length = l.length := by simp [ints]
theorem ints_at (l : List Int) (i : Nat) (h : i < (ints l).length) : (ints l)[i] = .int .i64 (l[i]'(by simpa [ints] using h)) := by simp [ints]
theorem Lst.int {w : World} {B : Nat} {a : Option Addr} {n c : Nat} {l : List Int} (h : Lst w B (.slice a n c) (ints l)) (i : Nat) (hi : i < l.length) : ∃ b, a = some ⟨b, 0, none⟩ ∧ w.cell? ⟨b, i, none⟩ = some (.int .i64 l[i]) := by
  rcases h with ⟨h1, h2⟩ | ⟨b, c', h1, h2, h3, h4, h5⟩
  · have := congrArg List.length h2; rw [ints_len, List.length_nil] at this; omega
  · cases h1
    refine ⟨b, rfl, ?_⟩
    rw [h5 i (by rw [ints_len]; exact hi), ints_at]
theorem Lst.len {w : World} {B : Nat} {a : Option Addr} {n c : Nat} {vs : List Value} (h : Lst w B (.slice a n c) vs) : n = vs.length := by
  rcases h with ⟨h1, h2⟩ | ⟨b, c', h1, h2, h3, h4, h5⟩
  · cases h1; rw [h2]; rfl
  · cases h1; rfl

def KoPost (w : World) (r : Option Int) (e : Ending) (w' : World) : Prop := Below w.heap.size w w' ∧
  match r with
  | some k => e = .returned (.tuple #[.int .i64 k, .bool true])
  | none => e = .returned (.tuple #[.int .i64 0, .bool false])
theorem kLoop_on {tl ks : List Int} {m0 m : Int} {i : Nat} (ha : i < tl.length) (hk : i < ks.length) (h : kLoop tl ks m0 = kLoop (tl.drop i) (ks.drop i) m) :
    kLoop tl ks m0 = (kStep tl[i] ks[i] m).bind (kLoop (tl.drop (i + 1)) (ks.drop (i + 1))) := by
  rw [h, List.drop_eq_getElem_cons ha, List.drop_eq_getElem_cons hk]
  rfl
set_option maxHeartbeats 4000000 in
theorem kindOf_any (o : List Int × Int) (f : Value) (hf : f = .nilFunc ∨ ∃ n k, f = .func (.func n) #[] k) (ta : Option Addr) (tn tc : Nat) (ka : Option Addr) (kn kc : Nat) (ks : List Int) (B B' : Nat) (w : World) (hT : Lst w B (.slice ta tn tc) (ints o.1)) (hK : Lst w B' (.slice ka kn kc) (ints ks)) (hm : ks.length ≤ maxLen) (hm2 : o.1.length ≤ 3) :
    Calls Tryz.prog 221 #[.agg #[.slice ta tn tc, .int .i64 o.2, f], .slice ka kn kc] w (KoPost w (kOf o ks)) := by
  obtain rfl : tn = o.1.length := by rw [hT.len, ints_len]
  obtain rfl : kn = ks.length := by rw [hK.len, ints_len]
  have HT : Hid (Lst w B (.slice ta o.1.length tc) (ints o.1)) := hT
  have HK : Hid (Lst w B' (.slice ka ks.length kc) (ints ks)) := hK
  have hm' : ks.length ≤ 9223372036854775807 := hm
  clear hT hK hm
  by_cases hl : ks.length = o.1.length
  · have hli : ((ks.length : Int) == (o.1.length : Int)) = true := by rw [hl]; simp
    have hli2 : ((ks.length : Int) != (o.1.length : Int)) = false := by rw [bne, hli]; rfl
    have HL : Hid (ks.length = o.1.length) := hl
    clear hl
    rcases hf with rfl | ⟨fn, fk, rfl⟩
    · go_enter Tryz.func221, Tryz.ntmps221
      go_wp2
      have HT2 : Hid (Lst (w.alloc (.cells #[.slice ta o.1.length tc, .int .i64 o.2, .nilFunc] 97)) B (.slice ta o.1.length tc) (ints o.1)) := HT.out.later (xbel1 _ _)
      have HK2 : Hid (Lst (w.alloc (.cells #[.slice ta o.1.length tc, .int .i64 o.2, .nilFunc] 97)) B' (.slice ka ks.length kc) (ints ks)) := HK.out.later (xbel1 _ _)
      have r0 : (w.alloc (.cells #[.slice ta o.1.length tc, .int .i64 o.2, .nilFunc] 97)).cell? ⟨w.heap.size, 0, none⟩ = some (.slice ta o.1.length tc) := by go_simp
      have r1 : (w.alloc (.cells #[.slice ta o.1.length tc, .int .i64 o.2, .nilFunc] 97)).cell? ⟨w.heap.size, 1, none⟩ = some (.int .i64 o.2) := by go_simp
      have HB : Hid (Below w.heap.size w (w.alloc (.cells #[.slice ta o.1.length tc, .int .i64 o.2, .nilFunc] 97))) := xbel1 _ _
      generalize (w.alloc (.cells #[.slice ta o.1.length tc, .int .i64 o.2, .nilFunc] 97)) = V0 at *
      go_loopw [6, 18] (fun m i w' => ∃ (j : Nat) (M : Int), j ≤ ks.length ∧ i = .int .i64 j ∧ m = .int .i64 M ∧ w' = V0 ∧ kLoop o.1 ks 0 = kLoop (o.1.drop j) (ks.drop j) M) (fun _ i _ => ks.length - (intOf i).toNat)
      case atStart => exact ⟨0, 0, Nat.zero_le _, rfl, rfl, rfl, by simp⟩
      case round =>
        obtain ⟨j, M, hj, rfl, rfl, hw, hkl⟩ := hrel
        subst hw
        have HKL : Hid (kLoop o.1 ks 0 = kLoop (o.1.drop j) (ks.drop j) M) := hkl
        clear hkl
        by_cases hlt : j < ks.length
        · have hji : (j : Int) < (ks.length : Int) := by omega
          have hlt2 : j < o.1.length := by rw [← HL.out]; exact hlt
          have hji2 : (j : Int) < (o.1.length : Int) := by omega
          obtain ⟨b1, ea, d1⟩ := HT2.out.int j hlt2
          obtain ⟨b2, eb, d2⟩ := HK2.out.int j hlt
          have HON : Hid (kLoop o.1 ks 0 = (kStep o.1[j] ks[j] M).bind (kLoop (o.1.drop (j + 1)) (ks.drop (j + 1)))) := kLoop_on hlt2 hlt HKL.out
          generalize o.1[j] = A at *
          generalize ks[j] = K at *
          have BAD : Hid (kStep A K M = none → KoPost w (kOf o ks) (.returned (.tuple #[.int .i64 0, .bool false])) wr) := fun h => by
            unfold KoPost kOf
            rw [if_pos HL.out, HON.out, h]
            exact ⟨HB.out, rfl⟩
          have GOOD : Hid (∀ M', kStep A K M = some M' → kLoop o.1 ks 0 = kLoop (o.1.drop (j + 1)) (ks.drop (j + 1)) M') := fun M' h => by rw [HON.out, h]; rfl
          subst ea
          subst eb
          clear HON HKL HT HK
          by_cases hA : A = 0
          · have a1 : (A == 0) = true := by rw [hA]; rfl
            by_cases hM : M = 0
            · have m1 : (M == 0) = true := by rw [hM]; rfl
              have FG : Hid (kLoop o.1 ks 0 = kLoop (o.1.drop (j + 1)) (ks.drop (j + 1)) K) := GOOD.out K (by unfold kStep; simp [hA, hM])
              have kk : (K == K) = true := by simp
              have kn : (K != K) = false := by simp
              clear hA hM BAD GOOD
              go_wp2_with fail
              exact ⟨⟨j + 1, K, by omega, by go_num, rfl, trivial, FG.out⟩, by simp [intOf]; omega⟩
            · have m1 : (M == 0) = false := by rw [beq_eq_false_iff_ne]; exact hM
              by_cases hK : K = M
              · have kn : (K != M) = false := by rw [hK]; simp
                have FG : Hid (kLoop o.1 ks 0 = kLoop (o.1.drop (j + 1)) (ks.drop (j + 1)) M) := GOOD.out M (by unfold kStep; simp [hA, hM, hK])
                have kn2 : (K == M) = true := by rw [hK]; simp
                clear hA hM hK BAD GOOD
                go_wp2_with fail
                exact ⟨⟨j + 1, M, by omega, by go_num, rfl, trivial, FG.out⟩, by simp [intOf]; omega⟩
              · have kn : (K != M) = true := by rw [bne_iff_ne]; exact hK
                have kn2 : (K == M) = false := by rw [beq_eq_false_iff_ne]; exact hK
                have FB : Hid (KoPost w (kOf o ks) (.returned (.tuple #[.int .i64 0, .bool false])) wr) := BAD.out (by unfold kStep; simp [hA, hM, hK])
                clear hA hM hK BAD GOOD
                go_wp2_with fail
                go_ret2
                exact FB.out
          · have a1 : (A == 0) = false := by rw [beq_eq_false_iff_ne]; exact hA
            by_cases hK : K = A
            · have kn : (K != A) = false := by rw [hK]; simp
              have kn2 : (K == A) = true := by rw [hK]; simp
              have FG : Hid (kLoop o.1 ks 0 = kLoop (o.1.drop (j + 1)) (ks.drop (j + 1)) M) := GOOD.out M (by unfold kStep; simp [hA, hK])
              clear hA hK BAD GOOD
              go_wp2_with fail
              exact ⟨⟨j + 1, M, by omega, by go_num, rfl, trivial, FG.out⟩, by simp [intOf]; omega⟩
            · have kn : (K != A) = true := by rw [bne_iff_ne]; exact hK
              have kn2 : (K == A) = false := by rw [beq_eq_false_iff_ne]; exact hK
              have FB : Hid (KoPost w (kOf o ks) (.returned (.tuple #[.int .i64 0, .bool false])) wr) := BAD.out (by unfold kStep; simp [hA, hK])
              clear hA hK BAD GOOD
              go_wp2_with fail
              go_ret2
              exact FB.out
        · obtain rfl : j = ks.length := by omega
          have FIN : Hid (KoPost w (kOf o ks) (.returned (.tuple #[.int .i64 (if o.2 = 0 then M else o.2), .bool true])) wr) := by
            have h1 : kLoop o.1 ks 0 = some M := by
              rw [HKL.out, List.drop_eq_nil_of_le (Nat.le_refl _)]
              cases o.1.drop ks.length <;> rfl
            unfold Hid KoPost kOf
            rw [if_pos HL.out, h1]
            exact ⟨HB.out, rfl⟩
          clear HKL
          by_cases hg : o.2 = 0
          · rw [if_pos hg] at FIN
            have g1 : (o.2 == 0) = true := by rw [hg]; rfl
            clear hg
            go_wp2_with fail
            go_ret2
            exact FIN.out
          · rw [if_neg hg] at FIN
            have g1 : (o.2 == 0) = false := by rw [beq_eq_false_iff_ne]; exact hg
            clear hg
            go_wp2_with fail
            go_ret2
            exact FIN.out
    · go_enter Tryz.func221, Tryz.ntmps221
      go_wp2
      have HT2 : Hid (Lst (w.alloc (.cells #[.slice ta o.1.length tc, .int .i64 o.2, .func (.func fn) #[] fk] 97)) B (.slice ta o.1.length tc) (ints o.1)) := HT.out.later (xbel1 _ _)
      have HK2 : Hid (Lst (w.alloc (.cells #[.slice ta o.1.length tc, .int .i64 o.2, .func (.func fn) #[] fk] 97)) B' (.slice ka ks.length kc) (ints ks)) := HK.out.later (xbel1 _ _)
      have r0 : (w.alloc (.cells #[.slice ta o.1.length tc, .int .i64 o.2, .func (.func fn) #[] fk] 97)).cell? ⟨w.heap.size, 0, none⟩ = some (.slice ta o.1.length tc) := by go_simp
      have r1 : (w.alloc (.cells #[.slice ta o.1.length tc, .int .i64 o.2, .func (.func fn) #[] fk] 97)).cell? ⟨w.heap.size, 1, none⟩ = some (.int .i64 o.2) := by go_simp
      have HB : Hid (Below w.heap.size w (w.alloc (.cells #[.slice ta o.1.length tc, .int .i64 o.2, .func (.func fn) #[] fk] 97))) := xbel1 _ _
      generalize (w.alloc (.cells #[.slice ta o.1.length tc, .int .i64 o.2, .func (.func fn) #[] fk] 97)) = V0 at *
      go_loopw [6, 18] (fun m i w' => ∃ (j : Nat) (M : Int), j ≤ ks.length ∧ i = .int .i64 j ∧ m = .int .i64 M ∧ w' = V0 ∧ kLoop o.1 ks 0 = kLoop (o.1.drop j) (ks.drop j) M) (fun _ i _ => ks.length - (intOf i).toNat)
      case atStart => exact ⟨0, 0, Nat.zero_le _, rfl, rfl, rfl, by simp⟩
      case round =>
        obtain ⟨j, M, hj, rfl, rfl, hw, hkl⟩ := hrel
        subst hw
        have HKL : Hid (kLoop o.1 ks 0 = kLoop (o.1.drop j) (ks.drop j) M) := hkl
        clear hkl
        by_cases hlt : j < ks.length
        · have hji : (j : Int) < (ks.length : Int) := by omega
          have hlt2 : j < o.1.length := by rw [← HL.out]; exact hlt
          have hji2 : (j : Int) < (o.1.length : Int) := by omega
          obtain ⟨b1, ea, d1⟩ := HT2.out.int j hlt2
          obtain ⟨b2, eb, d2⟩ := HK2.out.int j hlt
          have HON : Hid (kLoop o.1 ks 0 = (kStep o.1[j] ks[j] M).bind (kLoop (o.1.drop (j + 1)) (ks.drop (j + 1)))) := kLoop_on hlt2 hlt HKL.out
          generalize o.1[j] = A at *
          generalize ks[j] = K at *
          have BAD : Hid (kStep A K M = none → KoPost w (kOf o ks) (.returned (.tuple #[.int .i64 0, .bool false])) wr) := fun h => by
            unfold KoPost kOf
            rw [if_pos HL.out, HON.out, h]
            exact ⟨HB.out, rfl⟩
          have GOOD : Hid (∀ M', kStep A K M = some M' → kLoop o.1 ks 0 = kLoop (o.1.drop (j + 1)) (ks.drop (j + 1)) M') := fun M' h => by rw [HON.out, h]; rfl
          subst ea
          subst eb
          clear HON HKL HT HK
          by_cases hA : A = 0
          · have a1 : (A == 0) = true := by rw [hA]; rfl
            by_cases hM : M = 0
            · have m1 : (M == 0) = true := by rw [hM]; rfl
              have FG : Hid (kLoop o.1 ks 0 = kLoop (o.1.drop (j + 1)) (ks.drop (j + 1)) K) := GOOD.out K (by unfold kStep; simp [hA, hM])
              have kk : (K == K) = true := by simp
              have kn : (K != K) = false := by simp
              clear hA hM BAD GOOD
              go_wp2_with fail
              exact ⟨⟨j + 1, K, by omega, by go_num, rfl, trivial, FG.out⟩, by simp [intOf]; omega⟩
            · have m1 : (M == 0) = false := by rw [beq_eq_false_iff_ne]; exact hM
              by_cases hK : K = M
              · have kn : (K != M) = false := by rw [hK]; simp
                have FG : Hid (kLoop o.1 ks 0 = kLoop (o.1.drop (j + 1)) (ks.drop (j + 1)) M) := GOOD.out M (by unfold kStep; simp [hA, hM, hK])
                have kn2 : (K == M) = true := by rw [hK]; simp
                clear hA hM hK BAD GOOD
                go_wp2_with fail
                exact ⟨⟨j + 1, M, by omega, by go_num, rfl, trivial, FG.out⟩, by simp [intOf]; omega⟩
              · have kn : (K != M) = true := by rw [bne_iff_ne]; exact hK
                have kn2 : (K == M) = false := by rw [beq_eq_false_iff_ne]; exact hK
                have FB : Hid (KoPost w (kOf o ks) (.returned (.tuple #[.int .i64 0, .bool false])) wr) := BAD.out (by unfold kStep; simp [hA, hM, hK])
                clear hA hM hK BAD GOOD
                go_wp2_with fail
                go_ret2
                exact FB.out
          · have a1 : (A == 0) = false := by rw [beq_eq_false_iff_ne]; exact hA
            by_cases hK : K = A
            · have kn : (K != A) = false := by rw [hK]; simp
              have kn2 : (K == A) = true := by rw [hK]; simp
              have FG : Hid (kLoop o.1 ks 0 = kLoop (o.1.drop (j + 1)) (ks.drop (j + 1)) M) := GOOD.out M (by unfold kStep; simp [hA, hK])
              clear hA hK BAD GOOD
              go_wp2_with fail
              exact ⟨⟨j + 1, M, by omega, by go_num, rfl, trivial, FG.out⟩, by simp [intOf]; omega⟩
            · have kn : (K != A) = true := by rw [bne_iff_ne]; exact hK
              have kn2 : (K == A) = false := by rw [beq_eq_false_iff_ne]; exact hK
              have FB : Hid (KoPost w (kOf o ks) (.returned (.tuple #[.int .i64 0, .bool false])) wr) := BAD.out (by unfold kStep; simp [hA, hK])
              clear hA hK BAD GOOD
              go_wp2_with fail
              go_ret2
              exact FB.out
        · obtain rfl : j = ks.length := by omega
          have FIN : Hid (KoPost w (kOf o ks) (.returned (.tuple #[.int .i64 (if o.2 = 0 then M else o.2), .bool true])) wr) := by
            have h1 : kLoop o.1 ks 0 = some M := by
              rw [HKL.out, List.drop_eq_nil_of_le (Nat.le_refl _)]
              cases o.1.drop ks.length <;> rfl
            unfold Hid KoPost kOf
            rw [if_pos HL.out, h1]
            exact ⟨HB.out, rfl⟩
          clear HKL
          by_cases hg : o.2 = 0
          · rw [if_pos hg] at FIN
            have g1 : (o.2 == 0) = true := by rw [hg]; rfl
            clear hg
            go_wp2_with fail
            go_ret2
            exact FIN.out
          · rw [if_neg hg] at FIN
            have g1 : (o.2 == 0) = false := by rw [beq_eq_false_iff_ne]; exact hg
            clear hg
            go_wp2_with fail
            go_ret2
            exact FIN.out
  · have hli : ((ks.length : Int) == (o.1.length : Int)) = false := by rw [beq_eq_false_iff_ne]; omega
    have hli2 : ((ks.length : Int) != (o.1.length : Int)) = true := by rw [bne, hli]; rfl
    have FIN : Hid (∀ w', Below w.heap.size w w' → KoPost w (kOf o ks) (.returned (.tuple #[.int .i64 0, .bool false])) w') := fun w' hb => by
      unfold KoPost kOf
      rw [if_neg hl]
      exact ⟨hb, rfl⟩
    clear hl
    rcases hf with rfl | ⟨fn, fk, rfl⟩
    all_goals
      go_enter Tryz.func221, Tryz.ntmps221
      go_wp2
      go_ret2
      exact FIN.out _ (xbel1 _ _)
end Go.Proofs.YtnmelljaangfiaaGreatDoor
namespace Go.Proofs.YtnmelljaangfiaaGreatDoor
open Go.RowKit
set_option linter.unusedVariables false
set_option linter.unusedSimpArgs false
set_option maxRecDepth 100000

/-- What telling a kind leaves. -/
def KdPost (w : World) (r : Except Flt Int) (e : Ending) (w' : World) : Prop := Below w.heap.size w w' ∧
  match r with
  | .ok k => e = .returned (.int .i64 k)
  | .error f => e = fltE f.pl f.why

set_option maxHeartbeats 2000000 in
theorem kind_lit (c : List Co) (k n : Int) (t : ByteArray) (x : Value) (w : World) :
    Calls Tryz.prog 217 #[.agg #[.int .i64 k, .int .i64 n, .string t], x] w (KdPost w (kindX c (.lit k n t))) := by
  rw [kindX]
  unfold KdPost
  go_enter Tryz.func217, Tryz.ntmps217
  go_wp2_with fail
  go_ret
  exact ⟨by repeat (first | exact xbel1 _ _ | exact Below.refl _ _), rfl⟩

set_option maxHeartbeats 2000000 in
theorem kind_col (c : List Co) (pl : Nat) (nm : ByteArray) (a : Option Addr) (cc : Nat) (w : World) (hc : ColsAt w a c) (hm : c.length ≤ maxLen) :
    Calls Tryz.prog 219 #[.agg #[.int .i64 pl, .string nm], .slice a c.length cc] w (KdPost w (kindX c (.col pl nm))) := by
  have HP : Hid (∀ W, Below w.heap.size w W → Calls Tryz.prog 53 #[.slice a c.length cc, .string nm] W fun e w' => e = .returned (.int .i64 (ixI (colIx c nm))) ∧ Below W.heap.size W w') := fun W hW => place_any nm a cc c W (hc.later hW) hm
  have HC : Hid (ColsAt w a c) := hc
  have hm' : c.length ≤ 9223372036854775807 := hm
  have hmf := xmf
  clear hc hm
  have r0 : ∀ W, Below w.heap.size w W → True := fun _ _ => trivial
  cases hx : colIx c nm with
  | none =>
    have FIN : Hid (∀ W, Below w.heap.size w W → KdPost w (kindX c (.col pl nm)) (.panicked [{ v := fltV pl 2, recovered := false }]) W) := fun W hW => by
      rw [kindX, hx]
      simp
      exact ⟨hW, rfl⟩
    rw [hx] at HP
    have hix : ixI none = -1 := rfl
    rw [hix] at HP
    go_enter Tryz.func219, Tryz.ntmps219
    go_wp2_with fail
    refine (HP.out _ (xbel1 _ _)).mono ?_
    rintro e w2 ⟨rfl, hb2⟩
    have q0 := xcell (a := ⟨w.heap.size, 0, none⟩) (v := .int .i64 pl) hb2 (by go_simp)
    have HB : Hid (Below w.heap.size w w2) := (xbel1 w _).trans (hb2.mono (by simp))
    have F2 := FIN.out w2 HB.out
    clear hb2 FIN
    have F3 : Hid (KdPost w (kindX c (.col pl nm)) (.panicked [{ v := fltV pl 2, recovered := false }]) w2) := F2
    clear F2
    go_wp2_with fail
    exact ⟨rfl, F3.out⟩
  | some j =>
    have hj : j < c.length := by
      unfold colIx at hx
      rw [List.findIdx?_eq_some_iff_getElem] at hx
      exact hx.1
    have hji : (j : Int) < (c.length : Int) := by omega
    have FIN : Hid (∀ W, Below w.heap.size w W → KdPost w (kindX c (.col pl nm)) (.returned (.int .i64 c[j].k)) W) := fun W hW => by
      rw [kindX, hx]
      simp [hj]
      exact ⟨hW, rfl⟩
    rw [hx] at HP
    have hix : ixI (some j) = (j : Int) := rfl
    rw [hix] at HP
    obtain ⟨b, off, rfl, h1, h2⟩ := HC.out j hj
    generalize c[j].k = Kj at *
    generalize c[j].nm = Nj at *
    go_enter Tryz.func219, Tryz.ntmps219
    go_wp2_with fail
    refine (HP.out _ (xbel1 _ _)).mono ?_
    rintro e w2 ⟨rfl, hb2⟩
    have HB : Hid (Below w.heap.size w w2) := (xbel1 w _).trans (hb2.mono (by simp))
    have q1 := xcell HB.out h1
    have q2 := xcell HB.out h2
    have F3 : Hid (KdPost w (kindX c (.col pl nm)) (.returned (.int .i64 Kj)) w2) := FIN.out w2 HB.out
    clear hb2 FIN
    go_wp2_with fail
    go_ret
    exact F3.out

theorem infoKind : (Tryz.prog.info? 23).map (fun i => (i.zero, i.size, i.bytes)) = some (some (.int .i64 0), 1, 8) := by kernel_rfl

/-- What a part's kind is, told by its own method. -/
def KD (w : World) (v cv : Value) (r : Except Flt Int) : Prop := ∃ t p fn rc, v = .iface t p ∧ (∀ W, (method 368 t p "streamwright/expr.kindOver").run Tryz.prog W = .ok (fn, rc) W) ∧ (∀ W, (nilAhead 368 t p "streamwright/expr.kindOver").run Tryz.prog W = .ok (some false) W) ∧ (∀ (a : Array Value) (W : World), (callFunc fn a).run Tryz.prog W = .ok (.enter fn a) W) ∧ ∀ W, Below w.heap.size w W → Calls Tryz.prog fn #[rc, cv] W (KdPost W r)
def allK : List (Except Flt Int) → Except Flt (List Int)
  | [] => .ok []
  | r :: rs => r.bind fun k => (allK rs).bind fun ks => .ok (k :: ks)
theorem allK_ok : ∀ (rs : List (Except Flt Int)) (ks : List Int), (∀ i (h : i < rs.length), ∃ h' : i < ks.length, rs[i] = .ok ks[i]) → rs.length = ks.length → allK rs = .ok ks
  | [], [], _, _ => rfl
  | r :: rs, k :: ks, h, hl => by
    obtain ⟨h1, h2⟩ := h 0 (by simp)
    have h2' : r = .ok k := h2
    rw [allK, h2', allK_ok rs ks (fun i hi => by
      obtain ⟨h3, h4⟩ := h (i + 1) (by simpa using hi)
      exact ⟨by simpa using h3, by simpa using h4⟩) (by simpa using hl)]
    rfl
theorem allK_bad : ∀ (rs : List (Except Flt Int)) (ks : List Int) (f : Flt), (∀ i (h : i < ks.length), ∃ h' : i < rs.length, rs[i] = .ok ks[i]) → (∃ h : ks.length < rs.length, rs[ks.length] = .error f) → allK rs = .error f
  | r :: rs, [], f, _, ⟨h, h2⟩ => by
    have h2' : r = .error f := h2
    rw [allK, h2']; rfl
  | r :: rs, k :: ks, f, h, ⟨h5, h6⟩ => by
    obtain ⟨h1, h2⟩ := h 0 (by simp)
    have h2' : r = .ok k := h2
    rw [allK, h2', show (Except.bind (Except.ok k) fun k => (allK rs).bind fun ks => Except.ok (k :: ks) : Except Flt (List Int)) = (allK rs).bind fun ks => .ok (k :: ks) from rfl, allK_bad rs ks f (fun i hi => by
      obtain ⟨h3, h4⟩ := h (i + 1) (by simpa using hi)
      exact ⟨by simpa using h3, by simpa using h4⟩) ⟨by simpa using h5, by simpa using h6⟩]
    rfl
theorem mcl (z : Value) (n : Nat) : (madeCells #[z] n).toList = List.replicate n z := by
  unfold madeCells
  refine List.ext_getElem (by simp) (fun i h1 h2 => ?_)
  simp [Nat.mod_one]
set_option maxHeartbeats 2000000 in
theorem kind_app (pl : Nat) (o : List Int × Int) (fn : Nat) (fk : Array Value) (ta : Option Addr) (tn tc : Nat) (pa : Option Addr) (pn pc : Nat) (us : List Value) (cv : Value) (B : Nat) (w : World) (hT : Lst w B (.slice ta tn tc) (ints o.1)) (hP : Lst w B (.slice pa pn pc) us) (hm : us.length ≤ 200) (hm2 : o.1.length ≤ 3) (rs : List (Except Flt Int)) (hl : rs.length = us.length)
    (hk : ∀ i (h : i < us.length), KD w us[i] cv (rs[i]'(by rw [hl]; exact h))) :
    Calls Tryz.prog 222 #[.agg #[.int .i64 pl, .slice ta tn tc, .int .i64 o.2, .func (.func fn) #[] fk, .slice pa pn pc], cv] w (KdPost w ((allK rs).bind fun ks => orFlt pl (kOf o ks))) := by
  obtain rfl : pn = us.length := hP.len
  obtain ⟨i0, hi0, hz0, hz1, hz2⟩ := info_parts infoKind
  have HP : Hid (Lst w B (.slice pa us.length pc) us) := hP
  have hmk : ∀ W : World, (Instr.makeSlice 76 (.int .i64 (us.length : Int)) (.int .i64 (us.length : Int))).run Tryz.prog W = .ok (.slice (some ⟨W.heap.size, 0, none⟩) us.length us.length) (W.alloc (.cells (madeCells #[.int .i64 0] us.length) 23)) := fun W => by
    have := run_make (P := Tryz.prog) W 76 23 i0 (.int .i64 0) Tryz.underlying76 hi0 hz0 .i64 .i64 (us.length : Int) (us.length : Int) (by omega) (by omega) (by rw [hz2]; omega) (by omega)
    rw [this, hz1, Nat.mul_one]
    rw [Int.toNat_natCast]
    rfl
  have hm' : us.length ≤ 200 := hm
  have HT : Hid (Lst w B (.slice ta tn tc) (ints o.1)) := hT
  have HKD : Hid (∀ i (h : i < us.length) (h' : i < rs.length), KD w us[i] cv rs[i]) := fun i h _ => hk i h
  have HL : Hid (rs.length = us.length) := hl
  have HO0 : Hid (Own ((w.alloc (.cells #[.int .i64 pl, .slice ta tn tc, .int .i64 o.2, .func (.func fn) #[] fk, .slice pa us.length pc] 100)).alloc (.cells (madeCells #[.int .i64 0] us.length) 23)) (w.heap.size + 1) 23 us.length (List.replicate us.length (.int .i64 0))) := by
    have := Own.new (w.alloc (.cells #[.int .i64 pl, .slice ta tn tc, .int .i64 o.2, .func (.func fn) #[] fk, .slice pa us.length pc] 100)) 23 us.length (madeCells #[.int .i64 0] us.length) (by simp [madeCells])
    rw [mcl, show (w.alloc (.cells #[.int .i64 pl, .slice ta tn tc, .int .i64 o.2, .func (.func fn) #[] fk, .slice pa us.length pc] 100)).heap.size = w.heap.size + 1 from by simp] at this
    exact this
  have HO1 : Hid (Own ((w.alloc (.cells #[.int .i64 pl, .slice ta tn tc, .int .i64 o.2, .func (.func fn) #[] fk, .slice pa us.length pc] 100)).alloc (.cells (madeCells #[.int .i64 0] us.length) 23)) w.heap.size 100 5 [.int .i64 pl, .slice ta tn tc, .int .i64 o.2, .func (.func fn) #[] fk, .slice pa us.length pc]) :=
    (Own.new w 100 5 #[.int .i64 pl, .slice ta tn tc, .int .i64 o.2, .func (.func fn) #[] fk, .slice pa us.length pc] rfl).later (xbel1 _ _)
  have HB0 : Hid (Below w.heap.size w ((w.alloc (.cells #[.int .i64 pl, .slice ta tn tc, .int .i64 o.2, .func (.func fn) #[] fk, .slice pa us.length pc] 100)).alloc (.cells (madeCells #[.int .i64 0] us.length) 23))) := (xbel1 w _).alloc (by simp) _
  clear hP hm hk hT hl
  go_enter Tryz.func222, Tryz.ntmps222
  go_wp2_with fail
  generalize ((w.alloc (.cells #[.int .i64 pl, .slice ta tn tc, .int .i64 o.2, .func (.func fn) #[] fk, .slice pa us.length pc] 100)).alloc (.cells (madeCells #[.int .i64 0] us.length) 23)) = V0 at *
  go_loopw [17] (fun i w' => ∃ (ks : List Int), ks.length ≤ us.length ∧ i = .int .i64 (ks.length : Nat) ∧ Own w' (w.heap.size + 1) 23 us.length (ints ks ++ List.replicate (us.length - ks.length) (.int .i64 0)) ∧ Own w' w.heap.size 100 5 [.int .i64 pl, .slice ta tn tc, .int .i64 o.2, .func (.func fn) #[] fk, .slice pa us.length pc] ∧ Below w.heap.size w w' ∧ (∀ i (h : i < ks.length), ∃ h' : i < rs.length, rs[i] = .ok ks[i])) (fun i _ => us.length - (intOf i).toNat)
  case atStart => exact ⟨[], Nat.zero_le _, rfl, by simpa [ints] using HO0.out, HO1.out, HB0.out, fun i h => absurd h (by simp)⟩
  case round =>
    obtain ⟨ks, hk, rfl, hO, hS, hB, hR⟩ := hrel
    have HO : Hid (Own wr (w.heap.size + 1) 23 us.length (ints ks ++ List.replicate (us.length - ks.length) (.int .i64 0))) := hO
    have HS : Hid (Own wr w.heap.size 100 5 [.int .i64 pl, .slice ta tn tc, .int .i64 o.2, .func (.func fn) #[] fk, .slice pa us.length pc]) := hS
    have HB : Hid (Below w.heap.size w wr) := hB
    have HR : Hid (∀ i (h : i < ks.length), ∃ h' : i < rs.length, rs[i] = .ok ks[i]) := hR
    clear hO hS hB hR HO0 HO1 HB0
    by_cases hlt : ks.length < us.length
    · have hki : (ks.length : Int) < (us.length : Int) := by omega
      obtain ⟨t, p, g1, rc, hu, hme, hna, hent, hca⟩ := HKD.out ks.length hlt (by rw [HL.out]; exact hlt)
      have hcell : ∃ b, pa = some ⟨b, 0, none⟩ ∧ wr.cell? ⟨b, ks.length, none⟩ = some (.iface t p) := by
        rcases HP.out with ⟨h1, h2⟩ | ⟨b, c', h1, h2, h3, h4, h5⟩
        · rw [h2] at hlt; exact absurd hlt (by simp)
        · cases h1
          exact ⟨b, rfl, by rw [← hu]; exact xcell HB.out (h5 _ hlt)⟩
      obtain ⟨b, rfl, hc1⟩ := hcell
      have HCA : Hid (∀ W, Below w.heap.size w W → Calls Tryz.prog g1 #[rc, cv] W (KdPost W (rs[ks.length]'(by rw [HL.out]; exact hlt)))) := hca
      clear hca hu
      go_wp2_with fail
      have hrl : ks.length < rs.length := by rw [HL.out]; exact hlt
      cases hres : rs[ks.length] with
      | error f =>
        have HC : Hid (∀ W, Below w.heap.size w W → Calls Tryz.prog g1 #[rc, cv] W fun e w' => Below W.heap.size W w' ∧ e = .panicked [{ v := fltV f.pl f.why, recovered := false }]) := fun W hW => by
          refine (HCA.out W hW).mono ?_
          rintro e w' h
          rw [hres] at h
          exact h
        have FIN : Hid (∀ w', Below w.heap.size w w' → KdPost w ((allK rs).bind fun ks => orFlt pl (kOf o ks)) (.panicked [{ v := fltV f.pl f.why, recovered := false }]) w') := fun w' h => by
          rw [allK_bad rs ks f HR.out ⟨hrl, hres⟩]
          exact ⟨h, rfl⟩
        clear HCA HO HS hres
        refine (HC.out _ HB.out).mono ?_
        rintro e w2 ⟨hb2, rfl⟩
        exact ⟨rfl, FIN.out w2 (HB.out.trans (hb2.mono HB.out.size))⟩
      | ok k =>
        have HC : Hid (∀ W, Below w.heap.size w W → Calls Tryz.prog g1 #[rc, cv] W fun e w' => Below W.heap.size W w' ∧ e = .returned (.int .i64 k)) := fun W hW => by
          refine (HCA.out W hW).mono ?_
          rintro e w' h
          rw [hres] at h
          exact h
        have HRS : Hid (rs[ks.length] = .ok k) := hres
        clear HCA hres
        refine (HC.out _ HB.out).mono ?_
        rintro e w2 ⟨hb2, rfl⟩
        have HO2 : Hid (Own w2 (w.heap.size + 1) 23 us.length (ints ks ++ List.replicate (us.length - ks.length) (.int .i64 0))) := HO.out.later hb2
        have HS2 : Hid (Own w2 w.heap.size 100 5 [.int .i64 pl, .slice ta tn tc, .int .i64 o.2, .func (.func fn) #[] fk, .slice (some ⟨b, 0, none⟩) us.length pc]) := HS.out.later hb2
        have HB2 : Hid (Below w.heap.size w w2) := HB.out.trans (hb2.mono HB.out.size)
        have qc : w2.cell? ⟨w.heap.size + 1, ks.length, none⟩ = some (.int .i64 0) := by
          rw [HO2.out.cell _ hlt, List.getElem?_append_right (by rw [ints_len]; exact Nat.le_refl _), ints_len, List.getElem?_replicate]
          simp; omega
        have qf : w2.frozen? ⟨w.heap.size + 1, ks.length, none⟩ = false := HO2.out.soft _
        clear hb2 HO HS HB
        go_wp2_with fail
        refine ⟨⟨ks ++ [k], by first | (simp; done) | (simp; omega), by first | rfl | (simp; done) | (simp; omega), ?_, ?_, ?_, ?_⟩, by simp [intOf]; omega⟩
        · have := (HO2.out.put ks.length (.int .i64 k)).1
          rw [List.set_append_right _ _ (by rw [ints_len]; exact Nat.le_refl _), ints_len, Nat.sub_self, show us.length - ks.length = (us.length - (ks.length + 1)) + 1 from by omega, List.replicate_succ, List.set_cons_zero] at this
          simpa [ints] using this
        · exact HS2.out.grown (HO2.out.put ks.length (.int .i64 k)).2 (by simp)
        · exact xbNew HB2.out (HO2.out.put ks.length (.int .i64 k)).2 (fun n hn => by cases hn; omega)
        · intro i hi
          rw [List.length_append, List.length_singleton] at hi
          rcases Nat.lt_or_ge i ks.length with h | h
          · obtain ⟨h1, h2⟩ := HR.out i h
            exact ⟨h1, by rw [h2, List.getElem_append_left h]⟩
          · have : i = ks.length := by omega
            subst this
            exact ⟨hrl, by rw [HRS.out]; simp⟩
    · have hke : ks.length = us.length := by omega
      have hnl : ¬ (ks.length : Int) < (us.length : Int) := by omega
      have hks : allK rs = .ok ks := allK_ok rs ks (fun i hi => by
        have hi' : i < ks.length := by rw [hke, ← HL.out]; exact hi
        obtain ⟨h1, h2⟩ := HR.out i hi'
        exact ⟨hi', h2⟩) (by rw [HL.out, hke])
      have qa0 : wr.cell? ⟨w.heap.size, 0, none⟩ = some (.int .i64 pl) := HS.out.cell 0 (by decide)
      have qa1 : wr.cell? ⟨w.heap.size, 1, none⟩ = some (.slice ta tn tc) := HS.out.cell 1 (by decide)
      have qa2 : wr.cell? ⟨w.heap.size, 2, none⟩ = some (.int .i64 o.2) := HS.out.cell 2 (by decide)
      have qa3 : wr.cell? ⟨w.heap.size, 3, none⟩ = some (.func (.func fn) #[] fk) := HS.out.cell 3 (by decide)
      have qa4 : wr.cell? ⟨w.heap.size, 4, none⟩ = some (.slice pa us.length pc) := HS.out.cell 4 (by decide)
      have HLK : Hid (Lst wr w.heap.size (.slice (some ⟨w.heap.size + 1, 0, none⟩) us.length us.length) (ints ks)) := by
        refine .inr ⟨w.heap.size + 1, us.length, by rw [ints_len, hke], by omega, by rw [ints_len, hke]; exact Nat.le_refl _, by unfold maxLen; omega, fun i hi => ?_⟩
        rw [ints_len] at hi
        rw [HO.out.cell i (by omega), List.getElem?_append_left (by rw [ints_len]; exact hi), List.getElem?_eq_getElem]
      have HKO : Hid (∀ W, Below wr.heap.size wr W → Calls Tryz.prog 221 #[.agg #[.slice ta tn tc, .int .i64 o.2, .func (.func fn) #[] fk], .slice (some ⟨w.heap.size + 1, 0, none⟩) us.length us.length] W (KoPost W (kOf o ks))) := fun W hW =>
        kindOf_any o _ (.inr ⟨fn, fk, rfl⟩) ta tn tc _ _ _ ks B w.heap.size W ((HT.out.later HB.out).later hW) (HLK.out.later hW) (by unfold maxLen; omega) hm2
      have hlt' := HS.out.lt
      have FIN : Hid (∀ e w', Below w.heap.size w w' → (match orFlt pl (kOf o ks) with | .ok k => e = .returned (.int .i64 k) | .error f => e = fltE f.pl f.why) → KdPost w ((allK rs).bind fun ks => orFlt pl (kOf o ks)) e w') := fun e w' h1 h2 => by
        rw [hks]
        exact ⟨h1, h2⟩
      clear hks HO HS HLK HKD HR HP
      go_wp2_with fail
      refine (HKO.out _ (Below.refl _ _)).mono ?_
      rintro e w2 ⟨hb2, h2⟩
      have qb0 := xcell hb2 qa0
      have HB2 : Hid (Below w.heap.size w w2) := HB.out.trans (hb2.mono HB.out.size)
      clear hb2
      cases hko : kOf o ks with
      | none =>
        rw [hko] at h2 FIN
        subst h2
        have F3 := FIN.out (.panicked [{ v := fltV pl 3, recovered := false }]) w2 HB2.out rfl
        have F4 : Hid (KdPost w ((allK rs).bind fun ks => orFlt pl (kOf o ks)) (.panicked [{ v := fltV pl 3, recovered := false }]) w2) := F3
        clear F3 FIN
        go_wp2_with fail
        exact ⟨rfl, F4.out⟩
      | some k =>
        rw [hko] at h2 FIN
        subst h2
        have F3 := FIN.out (.returned (.int .i64 k)) w2 HB2.out rfl
        have F4 : Hid (KdPost w ((allK rs).bind fun ks => orFlt pl (kOf o ks)) (.returned (.int .i64 k)) w2) := F3
        clear F3 FIN
        go_wp2_with fail
        go_ret
        exact F4.out
end Go.Proofs.YtnmelljaangfiaaGreatDoor
namespace Go.Proofs.YtnmelljaangfiaaGreatDoor
open Go.RowKit
set_option linter.unusedVariables false
set_option linter.unusedSimpArgs false
set_option maxRecDepth 100000

set_option maxHeartbeats 2000000 in
theorem kind_call_bad (pl : Nat) (tk : Option Addr) (tn tc : Nat) (gv : Int) (f : Value) (hf : f = .nilFunc ∨ ∃ n k, f = .func (.func n) #[] k) (pa : Option Addr) (pn pc : Nat) (nm : ByteArray) (cv : Value) (w : World) :
    Calls Tryz.prog 224 #[.agg #[.int .i64 pl, .slice tk tn tc, .int .i64 gv, f, .slice pa pn pc, .string nm, .bool false], cv] w (KdPost w (.error ⟨pl, 2⟩)) := by
  have FIN : Hid (∀ w', Below w.heap.size w w' → KdPost w (.error ⟨pl, 2⟩) (.panicked [{ v := fltV pl 2, recovered := false }]) w') := fun w' h => ⟨h, rfl⟩
  rcases hf with rfl | ⟨n, k, rfl⟩
  · go_enter Tryz.func224, Tryz.ntmps224
    go_wp2_with fail
    exact ⟨rfl, FIN.out _ (xbel1 _ _)⟩
  · go_enter Tryz.func224, Tryz.ntmps224
    go_wp2_with fail
    exact ⟨rfl, FIN.out _ (xbel1 _ _)⟩

set_option maxHeartbeats 2000000 in
theorem kind_call_ok (pl : Nat) (ta : Option Addr) (tn tc : Nat) (gv : Int) (n : Nat) (k : Array Value) (pa : Option Addr) (pn pc : Nat) (nm : ByteArray) (cv : Value) (w : World) (r : Except Flt Int)
    (h : ∀ W, Below w.heap.size w W → Calls Tryz.prog 222 #[.agg #[.int .i64 pl, .slice ta tn tc, .int .i64 gv, .func (.func n) #[] k, .slice pa pn pc], cv] W (KdPost W r)) :
    Calls Tryz.prog 224 #[.agg #[.int .i64 pl, .slice ta tn tc, .int .i64 gv, .func (.func n) #[] k, .slice pa pn pc, .string nm, .bool true], cv] w (KdPost w r) := by
  have HH : Hid (∀ W, Below w.heap.size w W → Calls Tryz.prog 222 #[.agg #[.int .i64 pl, .slice ta tn tc, .int .i64 gv, .func (.func n) #[] k, .slice pa pn pc], cv] W (KdPost W r)) := h
  clear h
  go_enter Tryz.func224, Tryz.ntmps224
  go_wp2_with fail
  refine (HH.out _ (xbel1 _ _)).mono ?_
  rintro e w2 ⟨hb2, h2⟩
  have FIN : Hid (∀ e, (match r with | .ok k => e = .returned (.int .i64 k) | .error f => e = fltE f.pl f.why) → KdPost w r e w2) := fun e h => ⟨(xbel1 w _).trans (hb2.mono (by simp)), h⟩
  clear hb2
  cases r with
  | ok k =>
    have h2' : e = .returned (.int .i64 k) := h2
    subst h2'
    have F3 : Hid (KdPost w (.ok k) (.returned (.int .i64 k)) w2) := FIN.out _ rfl
    clear FIN h2
    go_wp2_with fail
    go_ret
    exact F3.out
  | error f =>
    have h2' : e = .panicked [{ v := fltV f.pl f.why, recovered := false }] := h2
    subst h2'
    first | exact FIN.out _ rfl | exact ⟨rfl, FIN.out _ rfl⟩

theorem KD.later {w w' : World} {v cv : Value} {r : Except Flt Int} (h : KD w v cv r) (hb : Below w.heap.size w w') : KD w' v cv r := by
  obtain ⟨t, p, fn, rc, h1, h2, h3, h4, h5⟩ := h
  exact ⟨t, p, fn, rc, h1, h2, h3, h4, fun W hW => h5 W (hb.trans (hW.mono hb.size))⟩
theorem ent_klit (a : Array Value) (W : World) : (callFunc 217 a).run Tryz.prog W = .ok (.enter 217 a) W := xent Tryz.func217 (by kernel_rfl) (by rfl) a W
theorem ent_kcol (a : Array Value) (W : World) : (callFunc 219 a).run Tryz.prog W = .ok (.enter 219 a) W := xent Tryz.func219 (by kernel_rfl) (by rfl) a W
theorem ent_kapp (a : Array Value) (W : World) : (callFunc 222 a).run Tryz.prog W = .ok (.enter 222 a) W := xent Tryz.func222 (by kernel_rfl) (by rfl) a W
theorem ent_kcall (a : Array Value) (W : World) : (callFunc 224 a).run Tryz.prog W = .ok (.enter 224 a) W := xent Tryz.func224 (by kernel_rfl) (by rfl) a W

theorem opPre_len (s : ByteArray) : (opPre s).1.length ≤ 3 := by unfold opPre; split <;> simp
theorem opInf_len (s : ByteArray) : (opInf s).1.length ≤ 3 := by unfold opInf; (repeat' split) <;> simp
theorem opApp_len (s : ByteArray) (o : List Int × Int) (h : opApp s = some o) : o.1.length ≤ 3 := by
  unfold opApp at h
  repeat' split at h
  all_goals first | (cases h; simp; done) | cases h
theorem map_len_le {o : List Int} {n : Nat} : (o.map (Value.int .i64 ·)) = ints o := rfl

mutual
theorem kind_nd (c : List Co) (a : Option Addr) (cc : Nat) (hm : c.length ≤ maxLen) (w : World) (g : Nat) (hc : ColsAt w a c) : ∀ (x : X) (v : Value), Nd w g x v → szX x ≤ 200 → KD w v (.slice a c.length cc) (kindX c x)
  | .lit k n t, v, h, _ => by
    rw [Nd] at h
    exact ⟨_, _, _, _, h, fun W => by kernel_rfl, fun W => by kernel_rfl, ent_klit, fun W hW => kind_lit c k n t _ W⟩
  | .col pl nm, v, h, _ => by
    rw [Nd] at h
    exact ⟨_, _, _, _, h, fun W => by kernel_rfl, fun W => by kernel_rfl, ent_kcol, fun W hW => kind_col c pl nm a cc W (hc.later hW) hm⟩
  | .pre pl s x, v, h, hs => by
    rw [Nd] at h
    obtain ⟨tk, f, ps, u, h1, h2, h3, h4, h5⟩ := h
    rw [szX] at hs
    have ih := kind_nd c a cc hm w g hc x u h5 (by omega)
    obtain ⟨ta, tn, tc, rfl⟩ := h2.form
    obtain ⟨pa, pn, pc, rfl⟩ := h4.form
    obtain ⟨n, k, rfl⟩ := h3.form
    refine ⟨_, _, _, .agg #[.int .i64 pl, .slice ta tn tc, .int .i64 (opPre s).2, .func (.func n) #[] k, .slice pa pn pc], h1, fun W => by kernel_rfl, fun W => by kernel_rfl, ent_kapp, fun W hW => ?_⟩
    have := kind_app pl (opPre s) n k ta _ tc pa _ pc [u] (.slice a c.length cc) g W (h2.later hW) (h4.later hW) (by simp) (opPre_len s) [kindX c x] rfl (fun i hi => by
      obtain rfl : i = 0 := by simp at hi; exact hi
      exact ih.later hW)
    rw [kindX]
    refine this.mono ?_
    intro e w' h
    have e1 : ((allK [kindX c x]).bind fun ks => orFlt pl (kOf (opPre s) ks)) = (kindX c x).bind fun k => orFlt pl (kOf (opPre s) [k]) := by
      rw [allK, allK]
      cases kindX c x <;> rfl
    rw [e1] at h
    exact h
  | .inf pl s l r, v, h, hs => by
    rw [Nd] at h
    obtain ⟨tk, f, ps, u, u', h1, h0, h2, h3, h4, h5, h6⟩ := h
    rw [szX] at hs
    have ih := kind_nd c a cc hm w g hc l u h5 (by omega)
    have ih' := kind_nd c a cc hm w g hc r u' h6 (by omega)
    obtain ⟨ta, tn, tc, rfl⟩ := h2.form
    obtain ⟨pa, pn, pc, rfl⟩ := h4.form
    obtain ⟨n, k, rfl⟩ := h3.form
    refine ⟨_, _, _, .agg #[.int .i64 pl, .slice ta tn tc, .int .i64 (opInf s).2, .func (.func n) #[] k, .slice pa pn pc], h1, fun W => by kernel_rfl, fun W => by kernel_rfl, ent_kapp, fun W hW => ?_⟩
    have := kind_app pl (opInf s) n k ta _ tc pa _ pc [u, u'] (.slice a c.length cc) g W (h2.later hW) (h4.later hW) (by simp) (opInf_len s) [kindX c l, kindX c r] rfl (fun i hi => by
      match i, hi with
      | 0, _ => exact ih.later hW
      | 1, _ => exact ih'.later hW
      | i + 2, h => exact absurd h (by simp))
    rw [kindX]
    refine this.mono ?_
    intro e w' h
    have e1 : ((allK [kindX c l, kindX c r]).bind fun ks => orFlt pl (kOf (opInf s) ks)) = (kindX c l).bind fun k => (kindX c r).bind fun k' => orFlt pl (kOf (opInf s) [k, k']) := by
      rw [allK, allK, allK]
      cases kindX c l <;> cases kindX c r <;> rfl
    rw [e1] at h
    exact h
  | .app pl nm l, v, h, hs => by
    rw [Nd] at h
    obtain ⟨tk, gv, f, ps, us, h1, h2, h3, h4, ⟨ta', tn', tc', e9⟩, hf9⟩ := h
    rw [szX] at hs
    obtain ⟨pa, pn, pc, rfl⟩ := h3.form
    cases ho : opApp nm with
    | none =>
      rw [ho] at h1
      subst e9
      refine ⟨_, _, _, .agg #[.int .i64 pl, .slice ta' tn' tc', .int .i64 gv, f, .slice pa pn pc, .string nm, .bool false], h1, fun W => ?_, fun W => ?_, ent_kcall, fun W hW => ?_⟩
      · rcases hf9 with rfl | ⟨n, k, rfl⟩ <;> kernel_rfl
      · rcases hf9 with rfl | ⟨n, k, rfl⟩ <;> kernel_rfl
      · rw [kindX, ho]
        exact kind_call_bad pl ta' tn' tc' gv f hf9 pa pn pc nm _ W
    | some o =>
      obtain ⟨rs, hl, hall, hi⟩ := kind_nds c a cc hm w g hc l us h4 (by omega)
      obtain ⟨rfl, h5, h6⟩ := h2 o ho
      obtain ⟨ta, tn, tc, rfl⟩ := h5.form
      obtain ⟨n, k, rfl⟩ := h6.form
      rw [ho] at h1
      have hlen := h4.length
      have hsz := szXs_len l
      refine ⟨_, _, _, .agg #[.int .i64 pl, .slice ta tn tc, .int .i64 o.2, .func (.func n) #[] k, .slice pa pn pc, .string nm, .bool true], h1, fun W => by kernel_rfl, fun W => by kernel_rfl, ent_kcall, fun W hW => ?_⟩
      refine kind_call_ok pl ta _ tc o.2 n k pa _ pc nm (.slice a c.length cc) W _ (fun W' hW' => ?_)
      have hb : Below w.heap.size w W' := hW.trans (hW'.mono hW.size)
      have := kind_app pl o n k ta _ tc pa _ pc us (.slice a c.length cc) g W' (h5.later hb) (h3.later hb) (by omega) (opApp_len nm o ho) rs hl (fun i h => (hi i h).later hb)
      rw [kindX, ho]
      rw [hall] at this
      exact this
theorem kind_nds (c : List Co) (a : Option Addr) (cc : Nat) (hm : c.length ≤ maxLen) (w : World) (g : Nat) (hc : ColsAt w a c) : ∀ (l : List X) (us : List Value), Nds w g l us → szXs l ≤ 200 → ∃ rs : List (Except Flt Int), ∃ hl : rs.length = us.length, allK rs = kindsX c l ∧ ∀ i (h : i < us.length), KD w us[i] (.slice a c.length cc) (rs[i]'(by rw [hl]; exact h))
  | [], us, h, _ => by
    rw [Nds] at h
    subst h
    exact ⟨[], rfl, by rw [allK, kindsX], fun i h => absurd h (by simp)⟩
  | x :: l, us, h, hs => by
    rw [Nds] at h
    obtain ⟨u, us', rfl, h2, h3⟩ := h
    rw [szXs] at hs
    have ih := kind_nd c a cc hm w g hc x u h2 (by omega)
    obtain ⟨rs, hl, hall, hi⟩ := kind_nds c a cc hm w g hc l us' h3 (by omega)
    refine ⟨kindX c x :: rs, by simp [hl], by rw [allK, kindsX, hall], fun i h => ?_⟩
    match i, h with
    | 0, _ => exact ih
    | i + 1, h => exact hi i (by simpa using h)
end
end Go.Proofs.YtnmelljaangfiaaGreatDoor
namespace Go.Proofs.YtnmelljaangfiaaGreatDoor
open Go.RowKit
set_option linter.unusedVariables false
set_option linter.unusedSimpArgs false
set_option maxRecDepth 100000

theorem PX.size {L : ByteArray → Int → Int → ByteArray → Prop} {s : ByteArray} {x : X} (h : PX L s (.ok x)) : szX x ≤ 200 := by
  cases h with
  | ok a b c =>
    have h1 := c.size _ _ rfl
    obtain ⟨h2, _⟩ := tok_few _ _ _ _ b
    have h3 : s.data.toList.length = s.size := by simp
    rw [h3] at h2
    simp only [szM, List.length_nil] at h1
    omega
open Classical in
/-- What a text is over columns: its tree and its kind, or the first fault. -/
noncomputable def ckO (c : List Co) : Except Flt X → Except Flt (X × Int)
  | .error f => .error f
  | .ok x => if colsX c then (kindX c x).bind fun k => .ok (x, k) else .error ⟨0, 4⟩
def CkPost (L : ByteArray → Int → Int → ByteArray → Prop) (w : World) (s : ByteArray) (c : List Co) (e : Ending) (w' : World) : Prop := Below w.heap.size w w' ∧ ∃ o, PX L s o ∧
  match ckO c o with
  | .ok (x, k) => ∃ t p, e = .returned (.tuple #[.iface t p, .int .i64 k]) ∧ Nd w' (w.heap.size - 1) x (.iface t p)
  | .error f => e = .panicked [{ v := fltV f.pl f.why, recovered := false }]
set_option maxHeartbeats 4000000 in
theorem checked_any {L : ByteArray → Int → Int → ByteArray → Prop} {G : World → Prop} (hL : OneL L) (hR : RdOk L G) (s : ByteArray) (a : Option Addr) (cc : Nat) (c : List Co) (w : World) (hG : ∀ W W' r, (∀ k, r = some k → w.heap.size ≤ k) → G W → W.grownBy W' r → G W') (hw : G w) (hc : ColsAt w a c) (hm : c.length ≤ maxLen) (hz : ∀ x ∈ c, x.nm.size ≤ 140737488355328) :
    Calls Tryz.prog 13 #[.string s, .slice a c.length cc] w (CkPost L w s c) := by
  have HP : Hid (Calls Tryz.prog 19 #[.string s] w (TPost L w s)) := parse_any hL hR s w hG hw
  have HC : Hid (ColsAt w a c) := hc
  have HM : Hid (c.length ≤ maxLen) := hm
  have HZ : Hid (∀ x ∈ c, x.nm.size ≤ 140737488355328) := hz
  clear hL hR hG hw hc hm hz
  go_enter Tryz.func13, Tryz.ntmps13
  go_wp2_with fail
  refine HP.out.mono ?_
  rintro e w1 ⟨hb1, o, hpx, ho⟩
  have HPX : Hid (PX L s o) := hpx
  have HB1 : Hid (Below w.heap.size w w1) := hb1
  clear hpx hb1
  cases o with
  | error f =>
    subst ho
    have FIN : Hid (CkPost L w s c (.panicked [{ v := fltV f.pl f.why, recovered := false }]) w1) := ⟨HB1.out, .error f, HPX.out, rfl⟩
    first | exact FIN.out | exact ⟨rfl, FIN.out⟩
  | ok x =>
    obtain ⟨t, p, rfl, hnd⟩ := ho
    have HN : Hid (Nd w1 (w.heap.size - 1) x (.iface t p)) := hnd
    clear hnd
    go_wp2_with fail
    refine (columns_any a cc c w1 (HC.out.later HB1.out) HM.out HZ.out).mono ?_
    rintro e w2 ⟨⟨r, rfl, hr⟩, hb2⟩
    have HB2 : Hid (Below w.heap.size w w2) := HB1.out.trans (hb2.mono HB1.out.size)
    have HN2 : Hid (Nd w2 (w.heap.size - 1) x (.iface t p)) := HN.out.later hb2
    clear hb2 HN
    by_cases hcol : colsX c
    · obtain rfl : r = true := hr.2 hcol
      obtain ⟨t', p', fn, rc, hv, hme, hna, hent, hca⟩ := kind_nd c a cc HM.out w2 _ (HC.out.later HB2.out) x _ HN2.out HPX.out.size
      cases hv
      have HCA : Hid (∀ W, Below w2.heap.size w2 W → Calls Tryz.prog fn #[rc, .slice a c.length cc] W (KdPost W (kindX c x))) := hca
      have HCO : Hid (colsX c) := hcol
      clear hca hcol hr
      cases hk : kindX c x with
      | error f =>
        have FIN : Hid (∀ w', Below w2.heap.size w2 w' → CkPost L w s c (.panicked [{ v := fltV f.pl f.why, recovered := false }]) w') := fun w' h => ⟨HB2.out.trans (h.mono HB2.out.size), .ok x, HPX.out, by rw [ckO, if_pos HCO.out, hk]; rfl⟩
        have HC2 : Hid (∀ W, Below w2.heap.size w2 W → Calls Tryz.prog fn #[rc, .slice a c.length cc] W fun e w' => Below w2.heap.size w2 w' ∧ e = .panicked [{ v := fltV f.pl f.why, recovered := false }]) := fun W hW => by
          refine (HCA.out W hW).mono ?_
          rintro e w' h
          rw [hk] at h
          exact ⟨hW.trans (h.1.mono hW.size), h.2⟩
        clear hk HCA
        go_wp2_with fail
        refine (HC2.out _ (Below.refl _ _)).mono ?_
        rintro e w3 ⟨hb3, rfl⟩
        first | exact FIN.out w3 hb3 | exact ⟨rfl, FIN.out w3 hb3⟩
      | ok k =>
        have FIN : Hid (∀ w', Below w2.heap.size w2 w' → CkPost L w s c (.returned (.tuple #[.iface t p, .int .i64 k])) w') := fun w' h => ⟨HB2.out.trans (h.mono HB2.out.size), .ok x, HPX.out, by rw [ckO, if_pos HCO.out, hk]; exact ⟨_, _, rfl, HN2.out.later h⟩⟩
        have HC2 : Hid (∀ W, Below w2.heap.size w2 W → Calls Tryz.prog fn #[rc, .slice a c.length cc] W fun e w' => Below w2.heap.size w2 w' ∧ e = .returned (.int .i64 k)) := fun W hW => by
          refine (HCA.out W hW).mono ?_
          rintro e w' h
          rw [hk] at h
          exact ⟨hW.trans (h.1.mono hW.size), h.2⟩
        clear hk HCA
        go_wp2_with fail
        refine (HC2.out _ (Below.refl _ _)).mono ?_
        rintro e w3 ⟨hb3, rfl⟩
        have F3 : Hid (CkPost L w s c (.returned (.tuple #[.iface t p, .int .i64 k])) w3) := FIN.out w3 hb3
        clear FIN hb3
        go_wp2_with fail
        go_ret2
        exact F3.out
    · obtain rfl : r = false := by cases r with | false => rfl | true => exact absurd (hr.1 rfl) hcol
      have FIN : Hid (CkPost L w s c (.panicked [{ v := fltV 0 4, recovered := false }]) w2) := ⟨HB2.out, .ok x, HPX.out, by rw [ckO, if_neg hcol]⟩
      clear hr hcol
      go_wp2_with fail
      first | exact FIN.out | exact ⟨rfl, FIN.out⟩
end Go.Proofs.YtnmelljaangfiaaGreatDoor
