import Derived.Test.YtplaplhmjpfbjaaGreatDoorDrS
import Derived.Deep.LoopGhost
import Derived.Test.YtplaplhmjpfbjaaGreatDoorDd1
import Derived.Test.YtplaplhmjpfbjaaGreatDoorDf1
namespace Go.Proofs.YtplaplhmjpfbjaaGreatDoor.Dc
open Go.RowKit
set_option linter.unusedVariables false
set_option linter.unusedSimpArgs false
set_option maxRecDepth 100000

/-- What Kind gives back. -/
def KdV : Except Flt Int → Value
  | .ok k => .tuple #[.int .i64 k, .int .i64 0, .int .i64 0]
  | .error f => .tuple #[.int .i64 0, .int .i64 f.why, .int .i64 f.pl]
def KdD (W : World) (r : Except Flt Int) (e : Ending) (w' : World) : Prop := Below W.heap.size W w' ∧ e = .returned (KdV r)
theorem kindsX_snoc (c : List Co) (x : X) : ∀ l : List X, kindsX c (l ++ [x]) = (kindsX c l).bind fun ks => (kindX c x).bind fun k => .ok (ks ++ [k])
  | [] => by
    show kindsX c [x] = _
    rw [kindsX, kindsX]
    cases kindX c x <;> rfl
  | y :: l => by
    show kindsX c (y :: (l ++ [x])) = _
    rw [kindsX, kindsX_snoc c x l, kindsX]
    cases kindX c y with
    | error f => rfl
    | ok k =>
      cases kindsX c l with
      | error f => rfl
      | ok ks => cases kindX c x <;> rfl
theorem kindsX_bad {c : List Co} {f : Flt} : ∀ {l : List X} (j : Nat) (hj : j < l.length) {ks : List Int}, kindsX c (l.take j) = .ok ks → kindX c l[j] = .error f → kindsX c l = .error f
  | x :: l, 0, _, _, _, h => by rw [kindsX, show kindX c x = .error f from h]; rfl
  | x :: l, j + 1, hj, ks, h1, h => by
    rw [List.take_succ_cons, kindsX] at h1
    cases hx : kindX c x with
    | error f' => rw [hx] at h1; cases h1
    | ok k =>
      rw [hx] at h1
      cases hl : kindsX c (l.take j) with
      | error f' => rw [hl] at h1; cases h1
      | ok ks' =>
        rw [kindsX, hx, kindsX_bad j (by simpa using hj) hl h]; rfl
theorem kindsX_len {c : List Co} : ∀ {l : List X} {ks : List Int}, kindsX c l = .ok ks → ks.length = l.length
  | [], ks, h => by cases h; rfl
  | x :: l, ks, h => by
    rw [kindsX] at h
    cases hx : kindX c x with
    | error f => rw [hx] at h; cases h
    | ok k =>
      rw [hx] at h
      cases hl : kindsX c l with
      | error f => rw [hl] at h; cases h
      | ok ks' => rw [hl] at h; cases h; simp [kindsX_len hl]
mutual
theorem kindX_why (c : List Co) : ∀ (x : X) (f : Flt), kindX c x = .error f → f.why ≠ 0
  | .lit k n t, f, h => by rw [kindX] at h; cases h
  | .col pl nm, f, h => by
    rw [kindX] at h
    split at h
    · cases h
    · cases h; simp
  | .pre pl s x, f, h => by
    rw [kindX] at h
    cases hx : kindX c x with
    | error f' => rw [hx] at h; cases h; exact kindX_why c x f hx
    | ok k =>
      rw [hx] at h
      change orFlt pl _ = _ at h
      cases hk : kOf (opPre s) [k] with
      | none => rw [hk] at h; cases h; simp
      | some k' => rw [hk] at h; cases h
  | .inf pl s l r, f, h => by
    rw [kindX] at h
    cases hx : kindX c l with
    | error f' => rw [hx] at h; cases h; exact kindX_why c l f hx
    | ok k =>
      rw [hx] at h
      cases hy : kindX c r with
      | error f' => rw [hy] at h; cases h; exact kindX_why c r f hy
      | ok k2 =>
        rw [hy] at h
        change orFlt pl _ = _ at h
        cases hk : kOf (opInf s) [k, k2] with
        | none => rw [hk] at h; cases h; simp
        | some k' => rw [hk] at h; cases h
  | .app pl nm l, f, h => by
    rw [kindX] at h
    split at h
    · cases h; simp
    · rename_i o _
      cases hx : kindsX c l with
      | error f' => rw [hx] at h; cases h; exact kindsX_why c l f hx
      | ok ks =>
        rw [hx] at h
        change orFlt pl _ = _ at h
        cases hk : kOf o ks with
        | none => rw [hk] at h; cases h; simp
        | some k' => rw [hk] at h; cases h
theorem kindsX_why (c : List Co) : ∀ (l : List X) (f : Flt), kindsX c l = .error f → f.why ≠ 0
  | [], f, h => by rw [kindsX] at h; cases h
  | x :: l, f, h => by
    rw [kindsX] at h
    cases hx : kindX c x with
    | error f' => rw [hx] at h; cases h; exact kindX_why c x f hx
    | ok k =>
      rw [hx] at h
      cases hy : kindsX c l with
      | error f' => rw [hy] at h; cases h; exact kindsX_why c l f hy
      | ok ks => rw [hy] at h; cases h
end
theorem getD_app (ks : List Int) (k : Int) (m : Nat) : (ks ++ [k]).getD m 0 = if m = ks.length then k else ks.getD m 0 := by
  simp only [List.getD_eq_getElem?_getD]
  rcases Nat.lt_trichotomy m ks.length with h | h | h
  · rw [List.getElem?_append_left h, if_neg (by omega)]
  · subst h; simp
  · rw [List.getElem?_eq_none (by simp; omega), if_neg (by omega), List.getElem?_eq_none (by omega)]
def cells4 (ks : List Int) : List Value := [.int .i64 (ks.getD 0 0), .int .i64 (ks.getD 1 0), .int .i64 (ks.getD 2 0), .int .i64 (ks.getD 3 0)]
theorem cells4_set (ks : List Int) (k : Int) (h : ks.length < 4) : (cells4 ks).set ks.length (.int .i64 k) = cells4 (ks ++ [k]) := by
  unfold cells4
  simp only [getD_app]
  match hn : ks.length, h with
  | 0, _ => simp
  | 1, _ => simp
  | 2, _ => simp
  | 3, _ => simp
  | n + 4, h => omega
theorem cells4_far (ks : List Int) (k : Int) (h : ¬ ks.length < 4) : cells4 ks = cells4 (ks ++ [k]) := by
  unfold cells4
  simp only [getD_app]
  rw [if_neg (by omega), if_neg (by omega), if_neg (by omega), if_neg (by omega)]
set_option maxHeartbeats 8000000 in
theorem nodeN (c : List Co) (a : Option Addr) (cc : Nat) (b pl : Nat) (kv : Value) (xs : List X) (us : List Value) (lo hi : Nat) (R : List Int → Int) (w : World) (S : ByteArray) (hS1 : (S.toList == [118, 97, 108, 117, 101]) = false) (hS2 : (S.toList == [110, 97, 109, 101]) = false) (hS3 : (S.toList == [99, 97, 108, 108]) = false) (c0 : w.cell? ⟨b, 0, none⟩ = some (.string S)) (c1 : w.cell? ⟨b, 1, none⟩ = some (.int .i64 pl)) (c2 : w.cell? ⟨b, 2, none⟩ = some kv) (hka : KAt w lo hi kv us) (hlen : us.length = xs.length) (hmax : xs.length ≤ 200)
    (hfam : ∀ i (h : i < xs.length) (h' : i < us.length) W, Below w.heap.size w W → Calls Tryz.prog 31 #[us[i], .slice a c.length cc] W (KdD W (kindX c xs[i])))
    (hres : ∀ ks kb W, kindsX c xs = .ok ks → Below w.heap.size w W → K4 W kb (ks.getD 0 0) (ks.getD 1 0) (ks.getD 2 0) (ks.getD 3 0) → Calls Tryz.prog 59 #[.pointer (some ⟨b, 0, none⟩), .int .i64 (-1), .slice (some ⟨kb, 0, none⟩) 4 4] W fun e w' => e = .returned (.int .i64 (R ks)) ∧ Below W.heap.size W w') :
    Calls Tryz.prog 31 #[.pointer (some ⟨b, 0, none⟩), .slice a c.length cc] w (KdD w ((kindsX c xs).bind fun ks => if R ks = 0 then .error ⟨pl, 3⟩ else .ok (R ks))) := by
  obtain ⟨ka, kc, rfl, hk⟩ := hka
  have HK := hidMk' hk
  have HFAM := hidMk' hfam
  have HRES := hidMk' hres
  have hbl : b < w.heap.size := World.block_lt_of_cell? _ _ c0
  have hlz : (us.length : Int) ≤ 200 := by omega
  clear hk hfam hres
  go_enter Tryz.func31, Tryz.ntmps31
  go_wp2_with fail
  have HO0 : Hid (Own (w.alloc (.cells #[.int .i64 0, .int .i64 0, .int .i64 0, .int .i64 0] 41)) w.heap.size 41 4 (cells4 [])) := Own.new w 41 4 #[.int .i64 0, .int .i64 0, .int .i64 0, .int .i64 0] rfl
  go_loopw [10] (fun i w' => ∃ (j : Nat) (ks : List Int), j ≤ xs.length ∧ i = .int .i64 j ∧ kindsX c (xs.take j) = .ok ks ∧ Own w' w.heap.size 41 4 (cells4 ks) ∧ Below w.heap.size w w') (fun i _ => xs.length - (intOf i).toNat)
  case atStart => exact ⟨0, [], Nat.zero_le _, rfl, rfl, HO0.out, xbel1 _ _⟩
  case round =>
    clear HO0
    obtain ⟨j, ks, hj, rfl, hks, hO, hb⟩ := hrel
    have HKS := hidMk' hks
    have HO := hidMk' hO
    have HB := hidMk' hb
    have hkl : ks.length = j := by rw [kindsX_len hks, List.length_take]; omega
    have c0' := xcell hb c0
    have c1' := xcell hb c1
    have c2' := xcell hb c2
    have hwl := hO.lt
    clear hks hO hb
    by_cases hlt : j < xs.length
    · have hlu : j < us.length := by omega
      have hji : (j : Int) < (us.length : Int) := by omega
      obtain ⟨sb, rfl, hs1, hs2, e0⟩ := HK.out j hlu
      have hsbl : sb < w.heap.size := World.block_lt_of_cell? _ _ e0
      have e0' := xcell HB.out e0
      have HF : Hid (∀ W, Below w.heap.size w W → Calls Tryz.prog 31 #[us[j], .slice a c.length cc] W (KdD W (kindX c xs[j]))) := HFAM.out j hlt hlu
      have hsb2 : sb < wr.heap.size := by omega
      generalize us[j] = U at *
      clear e0 c0 c1 c2
      go_wp2_with fail
      refine (HF.out _ HB.out).mono ?_
      rintro e w2 ⟨hb2, rfl⟩
      have HB2 : Hid (Below w.heap.size w w2) := HB.out.trans (hb2.mono HB.out.size)
      have HO2 : Hid (Own w2 w.heap.size 41 4 (cells4 ks)) := HO.out.later hb2
      clear hb2 HO HB c0' c1' c2' e0'
      cases hx : kindX c xs[j] with
      | error f =>
        have FIN : Hid (KdD w ((kindsX c xs).bind fun ks => if R ks = 0 then .error ⟨pl, 3⟩ else .ok (R ks)) (.returned (.tuple #[.int .i64 0, .int .i64 f.why, .int .i64 f.pl])) w2) := ⟨HB2.out, by rw [kindsX_bad j hlt HKS.out hx]; rfl⟩
        have hfw : ((f.why : Int) != 0) = true := by have := kindX_why c _ _ hx; simp; omega
        clear hx HO2 HB2 HF HFAM HRES HK HKS
        simp only [KdV]
        go_wp2_with fail
        go_ret3
        exact FIN.out
      | ok k =>
        have HK2 : Hid (kindsX c (xs.take (j + 1)) = .ok (ks ++ [k])) := by
          rw [Hid, List.take_succ_eq_append_getElem hlt, kindsX_snoc, HKS.out, hx]; rfl
        clear hx HF HKS
        simp only [KdV]
        by_cases h4 : j < 4
        · have h4i : (j : Int) < 4 := by omega
          have HP := hidMk' (HO2.out.put j (.int .i64 k))
          have HO3 : Hid (Own (w2.setCell ⟨w.heap.size, j, none⟩ (.int .i64 k)) w.heap.size 41 4 (cells4 (ks ++ [k]))) := by
            have h1 := HP.out.1
            rw [← hkl] at h1
            rw [cells4_set ks k (by omega)] at h1
            rw [Hid, ← hkl]; exact h1
          have HB3 : Hid (Below w.heap.size w (w2.setCell ⟨w.heap.size, j, none⟩ (.int .i64 k))) := xbNew HB2.out HP.out.2 (fun n hn => by cases hn; exact Nat.le_refl _)
          have q0 : ∃ v, w2.cell? ⟨w.heap.size, j, none⟩ = some v := by
            rw [HO2.out.cell j (by omega)]
            exact ⟨_, List.getElem?_eq_getElem (show j < (cells4 ks).length by simpa [cells4] using h4)⟩
          obtain ⟨v0, q0⟩ := q0
          have q1 := HO2.out.soft j
          have q2 := HO2.out.lt
          clear HP HO2 HB2
          go_wp2_with fail
          exact ⟨⟨j + 1, ks ++ [k], by omega, by go_num, HK2.out, HO3.out, HB3.out⟩, by simp [intOf]; omega⟩
        · have h4i : ¬ (j : Int) < 4 := by omega
          have HO3 : Hid (Own w2 w.heap.size 41 4 (cells4 (ks ++ [k]))) := by rw [← cells4_far ks k (by omega)]; exact HO2.out
          clear HO2
          go_wp2_with fail
          exact ⟨⟨j + 1, ks ++ [k], by omega, by go_num, HK2.out, HO3.out, HB2.out⟩, by simp [intOf]; omega⟩
    · obtain rfl : j = xs.length := by omega
      have hxl : ¬ ((xs.length : Nat) : Int) < (us.length : Int) := by omega
      rw [List.take_length] at HKS
      have HR : Hid (Calls Tryz.prog 59 #[.pointer (some ⟨b, 0, none⟩), .int .i64 (-1), .slice (some ⟨w.heap.size, 0, none⟩) 4 4] wr fun e w' => e = .returned (.int .i64 (R ks)) ∧ Below wr.heap.size wr w') := HRES.out ks w.heap.size wr HKS.out HB.out ⟨by rw [HO.out.cell 0 (by decide)]; rfl, by rw [HO.out.cell 1 (by decide)]; rfl, by rw [HO.out.cell 2 (by decide)]; rfl, by rw [HO.out.cell 3 (by decide)]; rfl, HO.out.lt⟩
      clear HRES HFAM HK HO
      go_wp2_with fail
      refine HR.out.mono ?_
      rintro e w2 ⟨rfl, hb2⟩
      have HB2 : Hid (Below w.heap.size w w2) := HB.out.trans (hb2.mono HB.out.size)
      have c1'' := xcell hb2 c1'
      have hbl2 : b < w2.heap.size := by have := HB2.out.size; omega
      clear hb2 HR c0 c1 c2 c0' c1' c2'
      by_cases hr : R ks = 0
      · have FIN : Hid (∀ W, Below w2.heap.size w2 W → KdD w ((kindsX c xs).bind fun ks => if R ks = 0 then .error ⟨pl, 3⟩ else .ok (R ks)) (.returned (.tuple #[.int .i64 0, .int .i64 3, .int .i64 pl])) W) := fun W hW => ⟨HB2.out.trans (hW.mono HB2.out.size), by rw [HKS.out]; simp only [Except.bind]; rw [if_pos hr]; rfl⟩
        have hrb : (R ks == 0) = true := by simp [hr]
        clear hr HKS
        generalize R ks = RR at *
        go_wp2_with fail
        go_quiet (fail)
        go_wp2_with fail
        go_ret3
        exact FIN.out _ (by first | exact Below.refl _ _ | exact (Below.refl _ _).drew | exact Below.drewN' (Below.refl _ _))
      · have FIN : Hid (KdD w ((kindsX c xs).bind fun ks => if R ks = 0 then .error ⟨pl, 3⟩ else .ok (R ks)) (.returned (.tuple #[.int .i64 (R ks), .int .i64 0, .int .i64 0])) w2) := ⟨HB2.out, by rw [HKS.out]; simp only [Except.bind]; rw [if_neg hr]; rfl⟩
        have hrb : (R ks == 0) = false := by simp [hr]
        clear hr HKS
        generalize R ks = RR at *
        go_wp2_with fail
        go_ret3
        exact FIN.out
set_option maxHeartbeats 8000000 in
theorem nodeC (c : List Co) (a : Option Addr) (cc : Nat) (b pl : Nat) (kv : Value) (xs : List X) (us : List Value) (lo hi : Nat) (R : List Int → Int) (w : World) (nm : ByteArray) (c6 : w.cell? ⟨b, 6, none⟩ = some (.string nm)) (hn : ¬ argN nm < 0) (c0 : w.cell? ⟨b, 0, none⟩ = some (.string bCall)) (c1 : w.cell? ⟨b, 1, none⟩ = some (.int .i64 pl)) (c2 : w.cell? ⟨b, 2, none⟩ = some kv) (hka : KAt w lo hi kv us) (hlen : us.length = xs.length) (hmax : xs.length ≤ 200)
    (hfam : ∀ i (h : i < xs.length) (h' : i < us.length) W, Below w.heap.size w W → Calls Tryz.prog 31 #[us[i], .slice a c.length cc] W (KdD W (kindX c xs[i])))
    (hres : ∀ ks kb W, kindsX c xs = .ok ks → Below w.heap.size w W → K4 W kb (ks.getD 0 0) (ks.getD 1 0) (ks.getD 2 0) (ks.getD 3 0) → Calls Tryz.prog 59 #[.pointer (some ⟨b, 0, none⟩), .int .i64 (argN nm), .slice (some ⟨kb, 0, none⟩) 4 4] W fun e w' => e = .returned (.int .i64 (R ks)) ∧ Below W.heap.size W w') :
    Calls Tryz.prog 31 #[.pointer (some ⟨b, 0, none⟩), .slice a c.length cc] w (KdD w ((kindsX c xs).bind fun ks => if R ks = 0 then .error ⟨pl, 3⟩ else .ok (R ks))) := by
  obtain ⟨ka, kc, rfl, hk⟩ := hka
  have HK := hidMk' hk
  have HFAM := hidMk' hfam
  have HRES := hidMk' hres
  have hbl : b < w.heap.size := World.block_lt_of_cell? _ _ c0
  have hlz : (us.length : Int) ≤ 200 := by omega
  clear hk hfam hres
  have HAR : Hid (∀ W, Calls Tryz.prog 58 #[.string nm] W fun e w' => e = .returned (.int .i64 (argN nm)) ∧ w' = W) := fun W => argsD_any nm W
  generalize argN nm = AN at *
  unfold bCall at c0
  go_enter Tryz.func31, Tryz.ntmps31
  go_wp2_with fail
  refine (HAR.out _).mono ?_
  rintro e w1 ⟨rfl, h⟩
  have := h.symm; subst this
  go_wp2_with fail
  have HO0 : Hid (Own (w.alloc (.cells #[.int .i64 0, .int .i64 0, .int .i64 0, .int .i64 0] 41)) w.heap.size 41 4 (cells4 [])) := Own.new w 41 4 #[.int .i64 0, .int .i64 0, .int .i64 0, .int .i64 0] rfl
  go_loopw [10] (fun i w' => ∃ (j : Nat) (ks : List Int), j ≤ xs.length ∧ i = .int .i64 j ∧ kindsX c (xs.take j) = .ok ks ∧ Own w' w.heap.size 41 4 (cells4 ks) ∧ Below w.heap.size w w') (fun i _ => xs.length - (intOf i).toNat)
  case atStart => exact ⟨0, [], Nat.zero_le _, rfl, rfl, HO0.out, xbel1 _ _⟩
  case round =>
    clear HO0
    obtain ⟨j, ks, hj, rfl, hks, hO, hb⟩ := hrel
    have HKS := hidMk' hks
    have HO := hidMk' hO
    have HB := hidMk' hb
    have hkl : ks.length = j := by rw [kindsX_len hks, List.length_take]; omega
    have c0' := xcell hb c0
    have c1' := xcell hb c1
    have c2' := xcell hb c2
    have hwl := hO.lt
    clear hks hO hb
    by_cases hlt : j < xs.length
    · have hlu : j < us.length := by omega
      have hji : (j : Int) < (us.length : Int) := by omega
      obtain ⟨sb, rfl, hs1, hs2, e0⟩ := HK.out j hlu
      have hsbl : sb < w.heap.size := World.block_lt_of_cell? _ _ e0
      have e0' := xcell HB.out e0
      have HF : Hid (∀ W, Below w.heap.size w W → Calls Tryz.prog 31 #[us[j], .slice a c.length cc] W (KdD W (kindX c xs[j]))) := HFAM.out j hlt hlu
      have hsb2 : sb < wr.heap.size := by omega
      generalize us[j] = U at *
      clear e0 c0 c1 c2
      go_wp2_with fail
      refine (HF.out _ HB.out).mono ?_
      rintro e w2 ⟨hb2, rfl⟩
      have HB2 : Hid (Below w.heap.size w w2) := HB.out.trans (hb2.mono HB.out.size)
      have HO2 : Hid (Own w2 w.heap.size 41 4 (cells4 ks)) := HO.out.later hb2
      clear hb2 HO HB c0' c1' c2' e0'
      cases hx : kindX c xs[j] with
      | error f =>
        have FIN : Hid (KdD w ((kindsX c xs).bind fun ks => if R ks = 0 then .error ⟨pl, 3⟩ else .ok (R ks)) (.returned (.tuple #[.int .i64 0, .int .i64 f.why, .int .i64 f.pl])) w2) := ⟨HB2.out, by rw [kindsX_bad j hlt HKS.out hx]; rfl⟩
        have hfw : ((f.why : Int) != 0) = true := by have := kindX_why c _ _ hx; simp; omega
        clear hx HO2 HB2 HF HFAM HRES HK HKS
        simp only [KdV]
        go_wp2_with fail
        go_ret3
        exact FIN.out
      | ok k =>
        have HK2 : Hid (kindsX c (xs.take (j + 1)) = .ok (ks ++ [k])) := by
          rw [Hid, List.take_succ_eq_append_getElem hlt, kindsX_snoc, HKS.out, hx]; rfl
        clear hx HF HKS
        simp only [KdV]
        by_cases h4 : j < 4
        · have h4i : (j : Int) < 4 := by omega
          have HP := hidMk' (HO2.out.put j (.int .i64 k))
          have HO3 : Hid (Own (w2.setCell ⟨w.heap.size, j, none⟩ (.int .i64 k)) w.heap.size 41 4 (cells4 (ks ++ [k]))) := by
            have h1 := HP.out.1
            rw [← hkl] at h1
            rw [cells4_set ks k (by omega)] at h1
            rw [Hid, ← hkl]; exact h1
          have HB3 : Hid (Below w.heap.size w (w2.setCell ⟨w.heap.size, j, none⟩ (.int .i64 k))) := xbNew HB2.out HP.out.2 (fun n hn => by cases hn; exact Nat.le_refl _)
          have q0 : ∃ v, w2.cell? ⟨w.heap.size, j, none⟩ = some v := by
            rw [HO2.out.cell j (by omega)]
            exact ⟨_, List.getElem?_eq_getElem (show j < (cells4 ks).length by simpa [cells4] using h4)⟩
          obtain ⟨v0, q0⟩ := q0
          have q1 := HO2.out.soft j
          have q2 := HO2.out.lt
          clear HP HO2 HB2
          go_wp2_with fail
          exact ⟨⟨j + 1, ks ++ [k], by omega, by go_num, HK2.out, HO3.out, HB3.out⟩, by simp [intOf]; omega⟩
        · have h4i : ¬ (j : Int) < 4 := by omega
          have HO3 : Hid (Own w2 w.heap.size 41 4 (cells4 (ks ++ [k]))) := by rw [← cells4_far ks k (by omega)]; exact HO2.out
          clear HO2
          go_wp2_with fail
          exact ⟨⟨j + 1, ks ++ [k], by omega, by go_num, HK2.out, HO3.out, HB2.out⟩, by simp [intOf]; omega⟩
    · obtain rfl : j = xs.length := by omega
      have hxl : ¬ ((xs.length : Nat) : Int) < (us.length : Int) := by omega
      rw [List.take_length] at HKS
      have HR : Hid (Calls Tryz.prog 59 #[.pointer (some ⟨b, 0, none⟩), .int .i64 AN, .slice (some ⟨w.heap.size, 0, none⟩) 4 4] wr fun e w' => e = .returned (.int .i64 (R ks)) ∧ Below wr.heap.size wr w') := HRES.out ks w.heap.size wr HKS.out HB.out ⟨by rw [HO.out.cell 0 (by decide)]; rfl, by rw [HO.out.cell 1 (by decide)]; rfl, by rw [HO.out.cell 2 (by decide)]; rfl, by rw [HO.out.cell 3 (by decide)]; rfl, HO.out.lt⟩
      clear HRES HFAM HK HO
      go_wp2_with fail
      refine HR.out.mono ?_
      rintro e w2 ⟨rfl, hb2⟩
      have HB2 : Hid (Below w.heap.size w w2) := HB.out.trans (hb2.mono HB.out.size)
      have c1'' := xcell hb2 c1'
      have hbl2 : b < w2.heap.size := by have := HB2.out.size; omega
      clear hb2 HR c0 c1 c2 c0' c1' c2'
      by_cases hr : R ks = 0
      · have FIN : Hid (∀ W, Below w2.heap.size w2 W → KdD w ((kindsX c xs).bind fun ks => if R ks = 0 then .error ⟨pl, 3⟩ else .ok (R ks)) (.returned (.tuple #[.int .i64 0, .int .i64 3, .int .i64 pl])) W) := fun W hW => ⟨HB2.out.trans (hW.mono HB2.out.size), by rw [HKS.out]; simp only [Except.bind]; rw [if_pos hr]; rfl⟩
        have hrb : (R ks == 0) = true := by simp [hr]
        clear hr HKS
        generalize R ks = RR at *
        go_wp2_with fail
        go_quiet (fail)
        go_wp2_with fail
        go_ret3
        exact FIN.out _ (by first | exact Below.refl _ _ | exact (Below.refl _ _).drew | exact Below.drewN' (Below.refl _ _))
      · have FIN : Hid (KdD w ((kindsX c xs).bind fun ks => if R ks = 0 then .error ⟨pl, 3⟩ else .ok (R ks)) (.returned (.tuple #[.int .i64 (R ks), .int .i64 0, .int .i64 0])) w2) := ⟨HB2.out, by rw [HKS.out]; simp only [Except.bind]; rw [if_neg hr]; rfl⟩
        have hrb : (R ks == 0) = false := by simp [hr]
        clear hr HKS
        generalize R ks = RR at *
        go_wp2_with fail
        go_ret3
        exact FIN.out
set_option maxHeartbeats 2000000 in
theorem kindD_lit (b : Nat) (k : Int) (cv : Value) (a : Option Addr) (n cc : Nat) (w : World) (c0 : w.cell? ⟨b, 0, none⟩ = some (.string bValue)) (c3 : w.cell? ⟨b, 3, none⟩ = some (.int .i64 k)) :
    Calls Tryz.prog 31 #[.pointer (some ⟨b, 0, none⟩), .slice a n cc] w (KdD w (.ok k)) := by
  have hbl : b < w.heap.size := World.block_lt_of_cell? _ _ c0
  have FIN : Hid (∀ W, Below w.heap.size w W → KdD w (.ok k) (.returned (.tuple #[.int .i64 k, .int .i64 0, .int .i64 0])) W) := fun W h => ⟨h, rfl⟩
  unfold bValue at c0
  go_enter Tryz.func31, Tryz.ntmps31
  go_wp2
  try (go_quiet (fail))
  try go_wp2
  go_ret3
  exact FIN.out _ (by first | exact Below.refl _ _ | exact (Below.refl _ _).drew | exact Below.drewN' (Below.refl _ _))
set_option maxHeartbeats 2000000 in
theorem kindD_noname (b pl : Nat) (nm : ByteArray) (a : Option Addr) (n cc : Nat) (w : World) (c0 : w.cell? ⟨b, 0, none⟩ = some (.string bCall)) (c1 : w.cell? ⟨b, 1, none⟩ = some (.int .i64 pl)) (c6 : w.cell? ⟨b, 6, none⟩ = some (.string nm)) (hn : argN nm < 0) :
    Calls Tryz.prog 31 #[.pointer (some ⟨b, 0, none⟩), .slice a n cc] w (KdD w (.error ⟨pl, 2⟩)) := by
  have hbl : b < w.heap.size := World.block_lt_of_cell? _ _ c0
  have FIN : Hid (∀ W, Below w.heap.size w W → KdD w (.error ⟨pl, 2⟩) (.returned (.tuple #[.int .i64 0, .int .i64 2, .int .i64 pl])) W) := fun W h => ⟨h, rfl⟩
  have HAR : Hid (∀ W, Calls Tryz.prog 58 #[.string nm] W fun e w' => e = .returned (.int .i64 (argN nm)) ∧ w' = W) := fun W => argsD_any nm W
  generalize argN nm = AN at *
  unfold bCall at c0
  go_enter Tryz.func31, Tryz.ntmps31
  go_wp2_with fail
  refine (HAR.out _).mono ?_
  rintro e w1 ⟨rfl, h⟩
  have := h.symm; subst this
  go_wp2_with fail
  try (go_quiet (fail))
  try go_wp2
  go_ret3
  exact FIN.out _ (by first | exact Below.refl _ _ | exact (Below.refl _ _).drew | exact Below.drewN' (Below.refl _ _))
set_option maxHeartbeats 4000000 in
theorem kindD_col (c : List Co) (b pl : Nat) (nm : ByteArray) (a : Option Addr) (cc : Nat) (w : World) (c0 : w.cell? ⟨b, 0, none⟩ = some (.string bName)) (c1 : w.cell? ⟨b, 1, none⟩ = some (.int .i64 pl)) (c6 : w.cell? ⟨b, 6, none⟩ = some (.string nm)) (hc : ColsAt w a c) (hm : c.length ≤ maxLen) :
    Calls Tryz.prog 31 #[.pointer (some ⟨b, 0, none⟩), .slice a c.length cc] w (KdD w (kindX c (.col pl nm))) := by
  have hbl : b < w.heap.size := World.block_lt_of_cell? _ _ c0
  have HAT : Hid (∀ W, Below w.heap.size w W → Calls Tryz.prog 57 #[.slice a c.length cc, .string nm] W fun e w' => e = .returned (.int .i64 (ixI (colIx c nm))) ∧ Below W.heap.size W w') := fun W hW => atD_any nm a cc c W (hc.later hW) hm
  have HC := hidMk' hc
  have hmx : (c.length : Int) ≤ 9223372036854775807 := by unfold maxLen at hm; omega
  unfold bName at c0
  clear hc hm
  cases hix : colIx c nm with
  | none =>
    have FIN : Hid (∀ W, Below w.heap.size w W → KdD w (kindX c (.col pl nm)) (.returned (.tuple #[.int .i64 0, .int .i64 2, .int .i64 pl])) W) := fun W h => ⟨h, by rw [kindX, hix]; simp [KdV]⟩
    rw [hix] at HAT
    simp only [ixI] at HAT
    clear hix HC
    go_enter Tryz.func31, Tryz.ntmps31
    go_wp2_with fail
    refine (HAT.out _ (Below.refl _ _)).mono ?_
    rintro e w1 ⟨rfl, hb1⟩
    have HB1 := hidMk' hb1
    have c1' := xcell hb1 c1
    have hbl1 : b < w1.heap.size := World.block_lt_of_cell? _ _ c1'
    clear hb1 c0 c1 c6
    go_wp2_with fail
    try (go_quiet (fail))
    try go_wp2
    go_ret3
    exact FIN.out _ (by first | exact HB1.out | exact HB1.out.drew | exact Below.drewN' HB1.out)
  | some i =>
    have hi : i < c.length := by
      unfold colIx at hix
      rw [List.findIdx?_eq_some_iff_getElem] at hix
      exact hix.1
    have FIN : Hid (∀ W, Below w.heap.size w W → KdD w (kindX c (.col pl nm)) (.returned (.tuple #[.int .i64 c[i].k, .int .i64 0, .int .i64 0])) W) := fun W h => ⟨h, by rw [kindX, hix]; simp [hi, KdV]⟩
    rw [hix] at HAT
    simp only [ixI] at HAT
    have hii : (i : Int) < (c.length : Int) := by omega
    obtain ⟨bb, off, rfl, e0, e1⟩ := HC.out i hi
    generalize c[i].k = KK at *
    clear hix HC e0
    go_enter Tryz.func31, Tryz.ntmps31
    go_wp2_with fail
    refine (HAT.out _ (Below.refl _ _)).mono ?_
    rintro e w1 ⟨rfl, hb1⟩
    have HB1 := hidMk' hb1
    have e1' := xcell hb1 e1
    have hbl1 : bb < w1.heap.size := World.block_lt_of_cell? _ _ e1'
    clear hb1 c0 c1 c6 e1
    go_wp2_with fail
    try (go_quiet (fail))
    try go_wp2
    go_ret3
    exact FIN.out _ (by first | exact HB1.out | exact HB1.out.drew | exact Below.drewN' HB1.out)
end Go.Proofs.YtplaplhmjpfbjaaGreatDoor.Dc
namespace Go.Proofs.YtplaplhmjpfbjaaGreatDoor.Dc
open Go.RowKit
set_option linter.unusedVariables false
set_option linter.unusedSimpArgs false
set_option maxRecDepth 100000

def K4' (w : World) (kb : Nat) (k0 k1 k2 k3 : Int) : Prop := w.cell? ⟨kb, 0, none⟩ = some (.int .i64 k0) ∧ w.cell? ⟨kb, 1, none⟩ = some (.int .i64 k1) ∧ w.cell? ⟨kb, 2, none⟩ = some (.int .i64 k2) ∧ w.cell? ⟨kb, 3, none⟩ = some (.int .i64 k3) ∧ kb < w.heap.size
set_option maxHeartbeats 2000000 in
theorem resA_bad (b kb : Nat) (ka : Option Addr) (m kc : Nat) (nv : Int) (nm : ByteArray) (k0 k1 k2 k3 : Int) (w : World) (c0 : w.cell? ⟨b, 0, none⟩ = some (.string bCall)) (c2 : w.cell? ⟨b, 2, none⟩ = some (.slice ka m kc)) (c6 : w.cell? ⟨b, 6, none⟩ = some (.string nm)) (hk : K4' w kb k0 k1 k2 k3) (hne : (m : Int) ≠ nv) :
    Calls Tryz.prog 59 #[.pointer (some ⟨b, 0, none⟩), .int .i64 nv, .slice (some ⟨kb, 0, none⟩) 4 4] w fun e w' => e = .returned (.int .i64 0) ∧ Below w.heap.size w w' := by
  obtain ⟨d0, d1, d2, d3, hkl⟩ := hk
  have hbl : b < w.heap.size := World.block_lt_of_cell? _ _ c0
  have hb : ((m : Int) != nv) = true := by simp [hne]
  unfold bCall at c0
  clear hne
  go_enter Tryz.func59, Tryz.ntmps59
  go_wp2
  go_ret
  exact ⟨rfl, Below.refl _ _⟩
set_option maxHeartbeats 2000000 in
theorem resA_len (b kb : Nat) (ka : Option Addr) (kc : Nat) (k0 k1 k2 k3 : Int) (w : World) (c0 : w.cell? ⟨b, 0, none⟩ = some (.string bCall)) (c2 : w.cell? ⟨b, 2, none⟩ = some (.slice ka 1 kc)) (c6 : w.cell? ⟨b, 6, none⟩ = some (.string bLen)) (hk : K4' w kb k0 k1 k2 k3) :
    Calls Tryz.prog 59 #[.pointer (some ⟨b, 0, none⟩), .int .i64 1, .slice (some ⟨kb, 0, none⟩) 4 4] w fun e w' => e = .returned (.int .i64 (if k0 = 3 then 1 else 0)) ∧ Below w.heap.size w w' := by
  obtain ⟨d0, d1, d2, d3, hkl⟩ := hk
  have hbl : b < w.heap.size := World.block_lt_of_cell? _ _ c0
  unfold bCall at c0
  unfold bLen at c6
  by_cases h1 : k0 = 3
  · have hb1 : (k0 == 3) = true := by simp [h1]
    go_enter Tryz.func59, Tryz.ntmps59
    go_wp2
    try (go_quiet (fail))
    try go_wp2
    go_ret
    exact ⟨by simp_all, by first | exact Below.refl _ _ | exact Below.drewN' (Below.refl _ _)⟩
  · have hb1 : (k0 == 3) = false := by simp [h1]
    go_enter Tryz.func59, Tryz.ntmps59
    go_wp2
    try (go_quiet (fail))
    try go_wp2
    go_ret
    exact ⟨by simp_all, by first | exact Below.refl _ _ | exact Below.drewN' (Below.refl _ _)⟩
set_option maxHeartbeats 2000000 in
theorem resA_abs (b kb : Nat) (ka : Option Addr) (kc : Nat) (k0 k1 k2 k3 : Int) (w : World) (c0 : w.cell? ⟨b, 0, none⟩ = some (.string bCall)) (c2 : w.cell? ⟨b, 2, none⟩ = some (.slice ka 1 kc)) (c6 : w.cell? ⟨b, 6, none⟩ = some (.string bAbs)) (hk : K4' w kb k0 k1 k2 k3) :
    Calls Tryz.prog 59 #[.pointer (some ⟨b, 0, none⟩), .int .i64 1, .slice (some ⟨kb, 0, none⟩) 4 4] w fun e w' => e = .returned (.int .i64 (if k0 = 1 then 1 else 0)) ∧ Below w.heap.size w w' := by
  obtain ⟨d0, d1, d2, d3, hkl⟩ := hk
  have hbl : b < w.heap.size := World.block_lt_of_cell? _ _ c0
  unfold bCall at c0
  unfold bAbs at c6
  by_cases h1 : k0 = 1
  · have hb1 : (k0 == 1) = true := by simp [h1]
    go_enter Tryz.func59, Tryz.ntmps59
    go_wp2
    try (go_quiet (fail))
    try go_wp2
    go_ret
    exact ⟨by simp_all, by first | exact Below.refl _ _ | exact Below.drewN' (Below.refl _ _)⟩
  · have hb1 : (k0 == 1) = false := by simp [h1]
    go_enter Tryz.func59, Tryz.ntmps59
    go_wp2
    try (go_quiet (fail))
    try go_wp2
    go_ret
    exact ⟨by simp_all, by first | exact Below.refl _ _ | exact Below.drewN' (Below.refl _ _)⟩
set_option maxHeartbeats 2000000 in
theorem resA_isnull (b kb : Nat) (ka : Option Addr) (kc : Nat) (k0 k1 k2 k3 : Int) (w : World) (c0 : w.cell? ⟨b, 0, none⟩ = some (.string bCall)) (c2 : w.cell? ⟨b, 2, none⟩ = some (.slice ka 1 kc)) (c6 : w.cell? ⟨b, 6, none⟩ = some (.string bIsnull)) (hk : K4' w kb k0 k1 k2 k3) :
    Calls Tryz.prog 59 #[.pointer (some ⟨b, 0, none⟩), .int .i64 1, .slice (some ⟨kb, 0, none⟩) 4 4] w fun e w' => e = .returned (.int .i64 (2)) ∧ Below w.heap.size w w' := by
  obtain ⟨d0, d1, d2, d3, hkl⟩ := hk
  have hbl : b < w.heap.size := World.block_lt_of_cell? _ _ c0
  unfold bCall at c0
  unfold bIsnull at c6
  go_enter Tryz.func59, Tryz.ntmps59
  go_wp2
  try (go_quiet (fail))
  try go_wp2
  go_ret
  exact ⟨by simp_all, by first | exact Below.refl _ _ | exact Below.drewN' (Below.refl _ _)⟩
set_option maxHeartbeats 2000000 in
theorem resA_cut (b kb : Nat) (ka : Option Addr) (kc : Nat) (k0 k1 k2 k3 : Int) (w : World) (c0 : w.cell? ⟨b, 0, none⟩ = some (.string bCall)) (c2 : w.cell? ⟨b, 2, none⟩ = some (.slice ka 2 kc)) (c6 : w.cell? ⟨b, 6, none⟩ = some (.string bCut)) (hk : K4' w kb k0 k1 k2 k3) :
    Calls Tryz.prog 59 #[.pointer (some ⟨b, 0, none⟩), .int .i64 2, .slice (some ⟨kb, 0, none⟩) 4 4] w fun e w' => e = .returned (.int .i64 (if k0 = 3 ∧ k1 = 1 then 3 else 0)) ∧ Below w.heap.size w w' := by
  obtain ⟨d0, d1, d2, d3, hkl⟩ := hk
  have hbl : b < w.heap.size := World.block_lt_of_cell? _ _ c0
  unfold bCall at c0
  unfold bCut at c6
  by_cases h2 : k0 = 3
  · have hb2 : (k0 == 3) = true := by simp [h2]
    by_cases h1 : k1 = 1
    · have hb1 : (k1 == 1) = true := by simp [h1]
      go_enter Tryz.func59, Tryz.ntmps59
      go_wp2
      try (go_quiet (fail))
      try go_wp2
      go_ret
      exact ⟨by simp_all, by first | exact Below.refl _ _ | exact Below.drewN' (Below.refl _ _)⟩
    · have hb1 : (k1 == 1) = false := by simp [h1]
      go_enter Tryz.func59, Tryz.ntmps59
      go_wp2
      try (go_quiet (fail))
      try go_wp2
      go_ret
      exact ⟨by simp_all, by first | exact Below.refl _ _ | exact Below.drewN' (Below.refl _ _)⟩
  · have hb2 : (k0 == 3) = false := by simp [h2]
    by_cases h1 : k1 = 1
    · have hb1 : (k1 == 1) = true := by simp [h1]
      go_enter Tryz.func59, Tryz.ntmps59
      go_wp2
      try (go_quiet (fail))
      try go_wp2
      go_ret
      exact ⟨by simp_all, by first | exact Below.refl _ _ | exact Below.drewN' (Below.refl _ _)⟩
    · have hb1 : (k1 == 1) = false := by simp [h1]
      go_enter Tryz.func59, Tryz.ntmps59
      go_wp2
      try (go_quiet (fail))
      try go_wp2
      go_ret
      exact ⟨by simp_all, by first | exact Below.refl _ _ | exact Below.drewN' (Below.refl _ _)⟩
set_option maxHeartbeats 2000000 in
theorem resA_coalesce (b kb : Nat) (ka : Option Addr) (kc : Nat) (k0 k1 k2 k3 : Int) (w : World) (c0 : w.cell? ⟨b, 0, none⟩ = some (.string bCall)) (c2 : w.cell? ⟨b, 2, none⟩ = some (.slice ka 2 kc)) (c6 : w.cell? ⟨b, 6, none⟩ = some (.string bCoalesce)) (hk : K4' w kb k0 k1 k2 k3) :
    Calls Tryz.prog 59 #[.pointer (some ⟨b, 0, none⟩), .int .i64 2, .slice (some ⟨kb, 0, none⟩) 4 4] w fun e w' => e = .returned (.int .i64 (if k0 = k1 then k0 else 0)) ∧ Below w.heap.size w w' := by
  obtain ⟨d0, d1, d2, d3, hkl⟩ := hk
  have hbl : b < w.heap.size := World.block_lt_of_cell? _ _ c0
  unfold bCall at c0
  unfold bCoalesce at c6
  by_cases h1 : k0 = k1
  · have hb1 : (k0 == k1) = true := by simp [h1]
    go_enter Tryz.func59, Tryz.ntmps59
    go_wp2
    try (go_quiet (fail))
    try go_wp2
    go_ret
    exact ⟨by simp_all, by first | exact Below.refl _ _ | exact Below.drewN' (Below.refl _ _)⟩
  · have hb1 : (k0 == k1) = false := by simp [h1]
    go_enter Tryz.func59, Tryz.ntmps59
    go_wp2
    try (go_quiet (fail))
    try go_wp2
    go_ret
    exact ⟨by simp_all, by first | exact Below.refl _ _ | exact Below.drewN' (Below.refl _ _)⟩
set_option maxHeartbeats 2000000 in
theorem resA_if (b kb : Nat) (ka : Option Addr) (kc : Nat) (k0 k1 k2 k3 : Int) (w : World) (c0 : w.cell? ⟨b, 0, none⟩ = some (.string bCall)) (c2 : w.cell? ⟨b, 2, none⟩ = some (.slice ka 3 kc)) (c6 : w.cell? ⟨b, 6, none⟩ = some (.string bIf)) (hk : K4' w kb k0 k1 k2 k3) :
    Calls Tryz.prog 59 #[.pointer (some ⟨b, 0, none⟩), .int .i64 3, .slice (some ⟨kb, 0, none⟩) 4 4] w fun e w' => e = .returned (.int .i64 (if k0 = 2 ∧ k1 = k2 then k1 else 0)) ∧ Below w.heap.size w w' := by
  obtain ⟨d0, d1, d2, d3, hkl⟩ := hk
  have hbl : b < w.heap.size := World.block_lt_of_cell? _ _ c0
  unfold bCall at c0
  unfold bIf at c6
  by_cases h2 : k0 = 2
  · have hb2 : (k0 == 2) = true := by simp [h2]
    by_cases h1 : k1 = k2
    · have hb1 : (k1 == k2) = true := by simp [h1]
      go_enter Tryz.func59, Tryz.ntmps59
      go_wp2
      try (go_quiet (fail))
      try go_wp2
      go_ret
      exact ⟨by simp_all, by first | exact Below.refl _ _ | exact Below.drewN' (Below.refl _ _)⟩
    · have hb1 : (k1 == k2) = false := by simp [h1]
      go_enter Tryz.func59, Tryz.ntmps59
      go_wp2
      try (go_quiet (fail))
      try go_wp2
      go_ret
      exact ⟨by simp_all, by first | exact Below.refl _ _ | exact Below.drewN' (Below.refl _ _)⟩
  · have hb2 : (k0 == 2) = false := by simp [h2]
    by_cases h1 : k1 = k2
    · have hb1 : (k1 == k2) = true := by simp [h1]
      go_enter Tryz.func59, Tryz.ntmps59
      go_wp2
      try (go_quiet (fail))
      try go_wp2
      go_ret
      exact ⟨by simp_all, by first | exact Below.refl _ _ | exact Below.drewN' (Below.refl _ _)⟩
    · have hb1 : (k1 == k2) = false := by simp [h1]
      go_enter Tryz.func59, Tryz.ntmps59
      go_wp2
      try (go_quiet (fail))
      try go_wp2
      go_ret
      exact ⟨by simp_all, by first | exact Below.refl _ _ | exact Below.drewN' (Below.refl _ _)⟩
end Go.Proofs.YtplaplhmjpfbjaaGreatDoor.Dc
