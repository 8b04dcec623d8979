import Derived.Test.YtplaplhmjpfbjaaGreatDoorXa1
import Derived.Test.YtplaplhmjpfbjaaGreatDoorXb1
import Derived.Deep.RegionHeld3
namespace Go.Proofs.YtplaplhmjpfbjaaGreatDoor.Dc
open Go.RowKit
set_option linter.unusedVariables false
set_option linter.unusedSimpArgs false
set_option maxRecDepth 100000

theorem digitD_any (c : UInt8) (w : World) : Calls Tryz.prog 52 #[.int .u8 c.toNat] w fun e w' => e = .returned (.bool (isDg c)) ∧ w' = w := by
  have hc : isDg c = (decide ((48 : Int) ≤ c.toNat) && decide ((c.toNat : Int) ≤ 57)) := by
    exact allB (P := fun c => isDg c = (decide ((48 : Int) ≤ c.toNat) && decide ((c.toNat : Int) ≤ 57))) (by decide +kernel) c
  rw [hc]
  generalize (c.toNat : Int) = n
  by_cases h1 : (48 : Int) ≤ n <;> by_cases h2 : n ≤ 57 <;>
  · go_enter Tryz.func52, Tryz.ntmps52
    go_wp2
    go_ret
    simp [h1, h2]
/-- A letter. -/
def isLt (c : UInt8) : Bool := (decide (97 ≤ c.toNat) && decide (c.toNat ≤ 122)) || (decide (65 ≤ c.toNat) && decide (c.toNat ≤ 90)) || c == 95
theorem isWb_lt : ∀ c : UInt8, isWb c = (isLt c || isDg c) := allB (P := fun c => isWb c = (isLt c || isDg c)) (by decide +kernel)
theorem isLt_dg : ∀ c : UInt8, isDg c = true → isLt c = false := allB (P := fun c => isDg c = true → isLt c = false) (by decide +kernel)
theorem letterD_any (c : UInt8) (w : World) : Calls Tryz.prog 51 #[.int .u8 c.toNat] w fun e w' => e = .returned (.bool (isLt c)) ∧ w' = w := by
  have hc : isLt c = ((decide ((97 : Int) ≤ c.toNat) && decide ((c.toNat : Int) ≤ 122)) || (decide ((65 : Int) ≤ c.toNat) && decide ((c.toNat : Int) ≤ 90)) || ((c.toNat : Int) == 95)) := by
    exact allB (P := fun c => isLt c = ((decide ((97 : Int) ≤ c.toNat) && decide ((c.toNat : Int) ≤ 122)) || (decide ((65 : Int) ≤ c.toNat) && decide ((c.toNat : Int) ≤ 90)) || ((c.toNat : Int) == 95))) (by decide +kernel) c
  rw [hc]
  generalize (c.toNat : Int) = n
  by_cases h1 : (97 : Int) ≤ n <;> by_cases h2 : n ≤ 122 <;> by_cases h3 : (65 : Int) ≤ n <;> by_cases h4 : n ≤ 90 <;> cases h5 : (n == 95) <;> (try (exfalso; omega)) <;>
  · go_enter Tryz.func51, Tryz.ntmps51
    go_wp2
    go_ret
    simp [h1, h2, h3, h4, h5]
theorem word_any (t : ByteArray) (w : World) : Calls Tryz.prog 53 #[.string t] w fun e w' => e = .returned (.bool (decide (res t))) ∧ w' = w := by
  have e1 := xl t [97, 110, 100]
  have e2 := xl t [111, 114]
  have e3 := xl t [110, 111, 116]
  have e4 := xl t [116, 114, 117, 101]
  have e5 := xl t [102, 97, 108, 115, 101]
  have e6 := xl t [97, 115]
  have hr : decide (res t) = (decide (t = bAnd) || decide (t = bOr) || decide (t = bNot) || decide (t = bTrue) || decide (t = bFalse) || decide (t = bAs)) := by
    rw [Bool.eq_iff_iff, decide_eq_true_iff]; unfold res; simp [or_assoc]
  rw [hr]
  change (t.toList == [97, 110, 100]) = decide (t = bAnd) at e1
  change (t.toList == [111, 114]) = decide (t = bOr) at e2
  change (t.toList == [110, 111, 116]) = decide (t = bNot) at e3
  change (t.toList == [116, 114, 117, 101]) = decide (t = bTrue) at e4
  change (t.toList == [102, 97, 108, 115, 101]) = decide (t = bFalse) at e5
  change (t.toList == [97, 115]) = decide (t = bAs) at e6
  generalize decide (t = bAnd) = D1 at *
  generalize decide (t = bOr) = D2 at *
  generalize decide (t = bNot) = D3 at *
  generalize decide (t = bTrue) = D4 at *
  generalize decide (t = bFalse) = D5 at *
  generalize decide (t = bAs) = D6 at *
  clear hr
  cases D1
  · cases D2
    · cases D3
      · cases D4
        · cases D5
          all_goals
            go_enter Tryz.func53, Tryz.ntmps53
            go_wp2
            go_ret
            exact ⟨by simp, rfl⟩
        · go_enter Tryz.func53, Tryz.ntmps53
          go_wp2
          go_ret
          exact ⟨rfl, rfl⟩
      · go_enter Tryz.func53, Tryz.ntmps53
        go_wp2
        go_ret
        exact ⟨rfl, rfl⟩
    · go_enter Tryz.func53, Tryz.ntmps53
      go_wp2
      go_ret
      exact ⟨rfl, rfl⟩
  · go_enter Tryz.func53, Tryz.ntmps53
    go_wp2
    go_ret
    exact ⟨rfl, rfl⟩
/-- power: how tightly an operator joins; 0: it is none. -/
def pow (t : ByteArray) : Int := if sgn t = 7 then 0 else (sgn t : Int) + 1
theorem power_any (t : ByteArray) (w : World) : Calls Tryz.prog 76 #[.string t] w fun e w' => e = .returned (.int .i64 (pow t)) ∧ w' = w := by
  by_cases hOr : t = bOr
  · subst hOr; rw [show pow bOr = 1 by decide +kernel]; unfold bOr
    go_enter Tryz.func76, Tryz.ntmps76
    go_wp2
    go_ret
    exact ⟨rfl, rfl⟩
  by_cases hAnd : t = bAnd
  · subst hAnd; rw [show pow bAnd = 2 by decide +kernel]; unfold bAnd
    go_enter Tryz.func76, Tryz.ntmps76
    go_wp2
    go_ret
    exact ⟨rfl, rfl⟩
  by_cases hEq : t = bEq
  · subst hEq; rw [show pow bEq = 4 by decide +kernel]; unfold bEq
    go_enter Tryz.func76, Tryz.ntmps76
    go_wp2
    go_ret
    exact ⟨rfl, rfl⟩
  by_cases hNe : t = bNe
  · subst hNe; rw [show pow bNe = 4 by decide +kernel]; unfold bNe
    go_enter Tryz.func76, Tryz.ntmps76
    go_wp2
    go_ret
    exact ⟨rfl, rfl⟩
  by_cases hLt : t = bLt
  · subst hLt; rw [show pow bLt = 4 by decide +kernel]; unfold bLt
    go_enter Tryz.func76, Tryz.ntmps76
    go_wp2
    go_ret
    exact ⟨rfl, rfl⟩
  by_cases hLe : t = bLe
  · subst hLe; rw [show pow bLe = 4 by decide +kernel]; unfold bLe
    go_enter Tryz.func76, Tryz.ntmps76
    go_wp2
    go_ret
    exact ⟨rfl, rfl⟩
  by_cases hGt : t = bGt
  · subst hGt; rw [show pow bGt = 4 by decide +kernel]; unfold bGt
    go_enter Tryz.func76, Tryz.ntmps76
    go_wp2
    go_ret
    exact ⟨rfl, rfl⟩
  by_cases hGe : t = bGe
  · subst hGe; rw [show pow bGe = 4 by decide +kernel]; unfold bGe
    go_enter Tryz.func76, Tryz.ntmps76
    go_wp2
    go_ret
    exact ⟨rfl, rfl⟩
  by_cases hPlus : t = bPlus
  · subst hPlus; rw [show pow bPlus = 5 by decide +kernel]; unfold bPlus
    go_enter Tryz.func76, Tryz.ntmps76
    go_wp2
    go_ret
    exact ⟨rfl, rfl⟩
  by_cases hMinus : t = bMinus
  · subst hMinus; rw [show pow bMinus = 5 by decide +kernel]; unfold bMinus
    go_enter Tryz.func76, Tryz.ntmps76
    go_wp2
    go_ret
    exact ⟨rfl, rfl⟩
  by_cases hCat : t = bCat
  · subst hCat; rw [show pow bCat = 5 by decide +kernel]; unfold bCat
    go_enter Tryz.func76, Tryz.ntmps76
    go_wp2
    go_ret
    exact ⟨rfl, rfl⟩
  by_cases hMul : t = bMul
  · subst hMul; rw [show pow bMul = 6 by decide +kernel]; unfold bMul
    go_enter Tryz.func76, Tryz.ntmps76
    go_wp2
    go_ret
    exact ⟨rfl, rfl⟩
  by_cases hDiv : t = bDiv
  · subst hDiv; rw [show pow bDiv = 6 by decide +kernel]; unfold bDiv
    go_enter Tryz.func76, Tryz.ntmps76
    go_wp2
    go_ret
    exact ⟨rfl, rfl⟩
  by_cases hMod : t = bMod
  · subst hMod; rw [show pow bMod = 6 by decide +kernel]; unfold bMod
    go_enter Tryz.func76, Tryz.ntmps76
    go_wp2
    go_ret
    exact ⟨rfl, rfl⟩
  have h7 : sgn t = 7 := by
    unfold sgn
    simp [hOr, hAnd, hEq, hNe, hLt, hLe, hGt, hGe, hPlus, hMinus, hCat, hMul, hDiv, hMod]
  rw [show pow t = 0 by unfold pow; rw [if_pos h7]]
  have e1 : (t.toList == [111, 114]) = false := xnl hOr
  have e2 : (t.toList == [97, 110, 100]) = false := xnl hAnd
  have e3 : (t.toList == [61]) = false := xnl hEq
  have e4 : (t.toList == [60, 62]) = false := xnl hNe
  have e5 : (t.toList == [60]) = false := xnl hLt
  have e6 : (t.toList == [60, 61]) = false := xnl hLe
  have e7 : (t.toList == [62]) = false := xnl hGt
  have e8 : (t.toList == [62, 61]) = false := xnl hGe
  have e9 : (t.toList == [43]) = false := xnl hPlus
  have e10 : (t.toList == [45]) = false := xnl hMinus
  have e11 : (t.toList == [43, 43]) = false := xnl hCat
  have e12 : (t.toList == [42]) = false := xnl hMul
  have e13 : (t.toList == [47]) = false := xnl hDiv
  have e14 : (t.toList == [37]) = false := xnl hMod
  clear hOr hAnd hEq hNe hLt hLe hGt hGe hPlus hMinus hCat hMul hDiv hMod h7
  go_enter Tryz.func76, Tryz.ntmps76
  go_wp2
  go_ret
  exact ⟨rfl, rfl⟩
end Go.Proofs.YtplaplhmjpfbjaaGreatDoor.Dc
namespace Go.Proofs.YtplaplhmjpfbjaaGreatDoor.Dc
open Go.RowKit
set_option linter.unusedVariables false
set_option linter.unusedSimpArgs false
set_option maxRecDepth 100000

theorem hidMk {p : Prop} (h : p) : Hid p := h
/-- The sort of a token, as the document's letters. -/
def srt : Nat → Int
  | 0 => 101
  | 1 => 110
  | 2 => 48
  | 3 => 39
  | _ => 111
/-- Tokens of the document that lie from a block's beginning on. -/
def TkD (w : World) (b : Nat) (l : List Tk) : Prop := ∀ i (h : i < l.length), w.cell? ⟨b, i * 3, none⟩ = some (.int .u8 (srt l[i].kd)) ∧ w.cell? ⟨b, i * 3 + 1, none⟩ = some (.string l[i].tx) ∧ w.cell? ⟨b, i * 3 + 2, none⟩ = some (.int .i64 l[i].pl)
theorem TkD.grown {w w' : World} {b : Nat} {l : List Tk} {r : Option Nat} (h : TkD w b l) (hg : w.grownBy w' r) (hne : some b ≠ r) : TkD w' b l := fun i hi =>
  have ⟨h1, h2, h3⟩ := h i hi
  ⟨hg.cell h1 hne, hg.cell h2 hne, hg.cell h3 hne⟩
def endT (E : Nat) : Tk := ⟨E, 0, ⟨#[]⟩⟩
/-- The document's reading: of tokens, at a place, so many levels in, with what is wrong. -/
def RS (w : World) (g E : Nat) (tks : List Tk) (p : Nat) (lev er bad : Int) : Prop := ∃ b cap, Own w g 103 5 [.slice (some ⟨b, 0, none⟩) (tks.length + 1) cap, .int .i64 p, .int .i64 lev, .int .i64 er, .int .i64 bad] ∧ b < g ∧ TkD w b (tks ++ [endT E]) ∧ tks.length ≤ 200 ∧ p ≤ tks.length
theorem RS.grown {w w' : World} {g E p : Nat} {tks : List Tk} {lev er bad : Int} {r : Option Nat} (h : RS w g E tks p lev er bad) (hg : w.grownBy w' r) (hr : ∀ k, r = some k → g < k) : RS w' g E tks p lev er bad := by
  obtain ⟨b, cap, h1, h2, h3, h4⟩ := h
  exact ⟨b, cap, h1.grown hg (fun e => by have := hr g e.symm; omega), h2, h3.grown hg (fun e => by have := hr b e.symm; omega), h4⟩
theorem RS.later {w w' : World} {g E p : Nat} {tks : List Tk} {lev er bad : Int} (h : RS w g E tks p lev er bad) (hb : Below w.heap.size w w') : RS w' g E tks p lev er bad := h.grown (r := none) (xgBelow hb) (fun k hk => by cases hk)
theorem RS.lt {w : World} {g E p : Nat} {tks : List Tk} {lev er bad : Int} (h : RS w g E tks p lev er bad) : g < w.heap.size := by obtain ⟨b, cap, h1, _⟩ := h; exact h1.lt
theorem hd_drop (E : Nat) (tks : List Tk) (p : Nat) (h : p ≤ tks.length) (hi : p < (tks ++ [endT E]).length) : (tks ++ [endT E])[p] = hd E (tks.drop p) := by
  rcases Nat.lt_or_ge p tks.length with h1 | h1
  · rw [List.getElem_append_left h1, List.drop_eq_getElem_cons h1]; rfl
  · rw [List.getElem_append_right h1, List.drop_eq_nil_of_le h1]; simp [hd, endT]
theorem RS.hd {w : World} {g E p : Nat} {tks : List Tk} {lev er bad : Int} (h : RS w g E tks p lev er bad) : ∃ b cap, b < g ∧ g < w.heap.size ∧ w.cell? ⟨g, 0, none⟩ = some (.slice (some ⟨b, 0, none⟩) (tks.length + 1) cap) ∧ w.cell? ⟨g, 1, none⟩ = some (.int .i64 p) ∧ w.cell? ⟨g, 2, none⟩ = some (.int .i64 lev) ∧ w.cell? ⟨g, 3, none⟩ = some (.int .i64 er) ∧ w.cell? ⟨g, 4, none⟩ = some (.int .i64 bad) ∧
    w.cell? ⟨b, p * 3, none⟩ = some (.int .u8 (srt (hd E (tks.drop p)).kd)) ∧ w.cell? ⟨b, p * 3 + 1, none⟩ = some (.string (hd E (tks.drop p)).tx) ∧ w.cell? ⟨b, p * 3 + 2, none⟩ = some (.int .i64 (hd E (tks.drop p)).pl) ∧ (p : Int) < (tks.length : Int) + 1 := by
  obtain ⟨b, cap, h1, h2, h3, h4, h5⟩ := h
  have hi : p < (tks ++ [endT E]).length := by simp; omega
  obtain ⟨d0, d1, d2⟩ := h3 p hi
  rw [hd_drop E tks p h5 hi] at d0 d1 d2
  refine ⟨b, cap, h2, h1.lt, ?_, ?_, ?_, ?_, ?_, d0, d1, d2, by omega⟩
  · rw [h1.cell 0 (by decide)]; rfl
  · rw [h1.cell 1 (by decide)]; rfl
  · rw [h1.cell 2 (by decide)]; rfl
  · rw [h1.cell 3 (by decide)]; rfl
  · rw [h1.cell 4 (by decide)]; rfl
theorem RS.put1 {w : World} {g E p q : Nat} {tks : List Tk} {lev er bad : Int} (h : RS w g E tks p lev er bad) (hq : q ≤ tks.length) : RS (w.setCell ⟨g, 1, none⟩ (.int .i64 q)) g E tks q lev er bad := by
  obtain ⟨b, cap, h1, h2, h3, h4, h5⟩ := h
  exact ⟨b, cap, (h1.put 1 _).1, h2, h3.grown (h1.put 1 (.int .i64 q)).2 (fun e => by simp at e; omega), h4, hq⟩
theorem RS.put2 {w : World} {g E p : Nat} {tks : List Tk} {lev er bad lev' : Int} (h : RS w g E tks p lev er bad) : RS (w.setCell ⟨g, 2, none⟩ (.int .i64 lev')) g E tks p lev' er bad := by
  obtain ⟨b, cap, h1, h2, h3, h4, h5⟩ := h
  exact ⟨b, cap, (h1.put 2 _).1, h2, h3.grown (h1.put 2 (.int .i64 lev')).2 (fun e => by simp at e; omega), h4, h5⟩
theorem RS.put34 {w : World} {g E p : Nat} {tks : List Tk} {lev er bad er' bad' : Int} (h : RS w g E tks p lev er bad) : RS ((w.setCell ⟨g, 3, none⟩ (.int .i64 er')).setCell ⟨g, 4, none⟩ (.int .i64 bad')) g E tks p lev er' bad' := by
  obtain ⟨b, cap, h1, h2, h3, h4, h5⟩ := h
  have k1 := (h1.put 3 (.int .i64 er'))
  have k2 := (k1.1.put 4 (.int .i64 bad'))
  exact ⟨b, cap, k2.1, h2, (h3.grown k1.2 (fun e => by simp at e; omega)).grown k2.2 (fun e => by simp at e; omega), h4, h5⟩
theorem RS.soft {w : World} {g E p : Nat} {tks : List Tk} {lev er bad : Int} (h : RS w g E tks p lev er bad) (j : Nat) : w.frozen? ⟨g, j, none⟩ = false := by
  obtain ⟨b, cap, h1, _⟩ := h
  exact h1.soft j

/-- sign: whether the next token is one. -/
def sgB (t : Tk) (s : ByteArray) : Bool := decide (t.tx = s) && (srt t.kd == 111 || srt t.kd == 110)
set_option maxHeartbeats 1000000 in
theorem sign_any (g E p : Nat) (tks : List Tk) (lev er bad : Int) (s : ByteArray) (w : World) (h : RS w g E tks p lev er bad) :
    Calls Tryz.prog 73 #[.pointer (some ⟨g, 0, none⟩), .string s] w fun e w' => e = .returned (.bool (decide (er = 0) && sgB (hd E (tks.drop p)) s)) ∧ Below w.heap.size w w' := by
  obtain ⟨b, cap, hbg, hgl, c0, c1, c2, c3, c4, d0, d1, d2, hl⟩ := h.hd
  have hbl : b < w.heap.size := by omega
  have hx := xl (hd E (tks.drop p)).tx s.toList
  have hs' : (⟨s.toList.toArray⟩ : ByteArray) = s := by apply xtoList; simp [ByteArray.toList_eq]
  rw [hs'] at hx
  have hp0 : (0 : Int) ≤ (p : Int) := by omega
  have he : decide (er = 0) = (er == 0) := by cases h : (er == 0) <;> simp_all
  unfold sgB
  rw [he]
  generalize (hd E (tks.drop p)).tx = X at *
  generalize srt (hd E (tks.drop p)).kd = K at *
  generalize (hd E (tks.drop p)).pl = PL at *
  generalize decide (X = s) = D at *
  clear h hs'
  cases q1 : (er == 0)
  rotate_left
  cases D
  rotate_left
  cases q2 : (K == 111)
  cases q3 : (K == 110)
  all_goals
    go_enter Tryz.func73, Tryz.ntmps73
    go_wp2
    go_region_held3 (fun w' => w'.cell? ⟨g, 0, none⟩ = some (.slice (some ⟨b, 0, none⟩) (tks.length + 1) cap) ∧ w'.cell? ⟨g, 1, none⟩ = some (.int .i64 p) ∧ w'.cell? ⟨b, p * 3, none⟩ = some (.int .u8 K) ∧ w'.cell? ⟨b, p * 3 + 1, none⟩ = some (.string X) ∧ w'.cell? ⟨b, p * 3 + 2, none⟩ = some (.int .i64 PL)) (first | go_keep) (first | fail)
    go_wp2
    go_ret
    refine ⟨?_, (xbel1 _ _).drew⟩
    first | rfl | simp_all
end Go.Proofs.YtplaplhmjpfbjaaGreatDoor.Dc
namespace Go.Proofs.YtplaplhmjpfbjaaGreatDoor.Dc
open Go.RowKit
set_option linter.unusedVariables false
set_option linter.unusedSimpArgs false
set_option maxRecDepth 100000

/-- What is wrong stays as it was first told. -/
def orE (er e : Int) : Int := if er = 0 then e else er
def orB (er bad pl : Int) : Int := if er = 0 then pl else bad
set_option maxHeartbeats 1000000 in
theorem fail_any (g E p : Nat) (tks : List Tk) (lev er bad e pl : Int) (w : World) (h : RS w g E tks p lev er bad) :
    Calls Tryz.prog 56 #[.pointer (some ⟨g, 0, none⟩), .int .i64 e, .int .i64 pl] w fun en w' => en = .returned (.tuple #[]) ∧ w.grownBy w' (some g) ∧ RS w' g E tks p lev (orE er e) (orB er bad pl) := by
  obtain ⟨b, cap, hbg, hgl, c0, c1, c2, c3, c4, d0, d1, d2, hl⟩ := h.hd
  have HR := hidMk h
  have f3 := h.soft 3
  have f4 := h.soft 4
  unfold orE orB
  clear h d0 d1 d2 hl
  by_cases q : er = 0
  · have q1 : (er == 0) = true := by simp [q]
    simp only [if_pos q]
    have F : Hid (w.grownBy ((w.setCell ⟨g, 3, none⟩ (.int .i64 e)).setCell ⟨g, 4, none⟩ (.int .i64 pl)) (some g) ∧ RS ((w.setCell ⟨g, 3, none⟩ (.int .i64 e)).setCell ⟨g, 4, none⟩ (.int .i64 pl)) g E tks p lev e pl) := ⟨xgTrans (xgSet _ _ _) (xgSet _ _ _), HR.out.put34⟩
    clear HR
    go_enter Tryz.func56, Tryz.ntmps56
    go_wp2
    go_end0
    exact ⟨rfl, F.out⟩
  · have q1 : (er == 0) = false := by simp [q]
    simp only [if_neg q]
    go_enter Tryz.func56, Tryz.ntmps56
    go_wp2
    go_end0
    exact ⟨rfl, xgBelow (Below.refl _ _), HR.out⟩
theorem xgUndrew {a b : World} {r : Option Nat} (h : a.drew.grownBy b r) : a.grownBy b r := ⟨h.os, h.tape, h.output, h.size, h.block⟩
theorem Below.drewN' {B : Nat} {a w : World} {n : Nat} (h : Below B a w) : Below B a (w.drewN n) := ⟨h.os, h.tape, h.output, h.size, h.block⟩
set_option maxHeartbeats 1000000 in
theorem in_any (g E p lev : Nat) (tks : List Tk) (er bad : Int) (w : World) (h : RS w g E tks p lev er bad) (hlev : lev ≤ 12) :
    Calls Tryz.prog 74 #[.pointer (some ⟨g, 0, none⟩)] w fun en w' => en = .returned (.tuple #[]) ∧ w.grownBy w' (some g) ∧ (if lev = 12 then RS w' g E tks p (lev + 1 : Nat) (orE er 4) (orB er bad (hd E (tks.drop p)).pl) else RS w' g E tks p (lev + 1 : Nat) er bad) := by
  obtain ⟨b, cap, hbg, hgl, c0, c1, c2, c3, c4, d0, d1, d2, hl⟩ := h.hd
  have HR := hidMk h
  have f2 := h.soft 2
  have hbl : b < w.heap.size := by omega
  have hbn : ¬ b = g := by omega
  have hp0 : (0 : Int) ≤ (p : Int) := by omega
  have H2 : Hid (RS (w.setCell ⟨g, 2, none⟩ (.int .i64 ((lev + 1 : Nat) : Int))) g E tks p ((lev + 1 : Nat) : Int) er bad) := h.put2
  have HG : Hid (w.grownBy (w.setCell ⟨g, 2, none⟩ (.int .i64 ((lev + 1 : Nat) : Int))) (some g)) := xgSet _ _ _
  have e1 : ((lev + 1 : Nat) : Int) = (lev : Int) + 1 := by omega
  rw [e1] at H2 HG ⊢
  clear h
  by_cases q : lev = 12
  · simp only [if_pos q]
    have q1 : (12 : Int) < (lev : Int) + 1 := by omega
    have hl1 : (lev : Int) ≤ 12 := by omega
    have hl0 : (0 : Int) ≤ (lev : Int) := by omega
    clear q hlev
    go_enter Tryz.func74, Tryz.ntmps74
    go_wp2_with fail
    go_region_with (go_at_call 56; refine (fail_any g E p tks ((lev : Int) + 1) er bad _ _ _ (RS.later H2.out (by first | exact Below.refl _ _ | exact (Below.refl _ _).drew | exact Below.drewN' (Below.refl _ _)))).mono ?_; rintro en w1 ⟨rfl, hg1, hr1⟩)
    all_goals
      have F : Hid (w.grownBy w1 (some g)) := xgTrans HG.out (xgUndrew hg1)
      have F2 := hidMk hr1
      clear hg1 hr1
      go_wp2
      go_end0
      exact ⟨rfl, F.out, F2.out⟩
  · simp only [if_neg q]
    have q1 : ¬ (12 : Int) < (lev : Int) + 1 := by omega
    go_enter Tryz.func74, Tryz.ntmps74
    go_wp2_with fail
    go_end0
    exact ⟨rfl, HG.out, H2.out⟩
def bShutS : ByteArray := bShut
set_option maxHeartbeats 1000000 in
theorem close_any (g E p : Nat) (tks : List Tk) (lev er bad : Int) (w : World) (h : RS w g E tks p lev er bad) (hp : sgB (hd E (tks.drop p)) bShut = true → p < tks.length) :
    Calls Tryz.prog 80 #[.pointer (some ⟨g, 0, none⟩)] w fun en w' => en = .returned (.tuple #[]) ∧ w.grownBy w' (some g) ∧ (if er = 0 ∧ sgB (hd E (tks.drop p)) bShut = true then RS w' g E tks (p + 1) lev er bad else RS w' g E tks p lev (orE er 1) (orB er bad (hd E (tks.drop p)).pl)) := by
  have HS : Hid (∀ W, Below w.heap.size w W → Calls Tryz.prog 73 #[.pointer (some ⟨g, 0, none⟩), .string bShut] W fun e w' => e = .returned (.bool (decide (er = 0) && sgB (hd E (tks.drop p)) bShut)) ∧ Below W.heap.size W w') := fun W hW => sign_any g E p tks lev er bad bShut W (h.later hW)
  have HR := hidMk h
  have hgl := h.lt
  have HP := hidMk hp
  clear h hp
  cases hB : (decide (er = 0) && sgB (hd E (tks.drop p)) bShut)
  · have hn : ¬ (er = 0 ∧ sgB (hd E (tks.drop p)) bShut = true) := fun ⟨a, b⟩ => by simp [a, b] at hB
    simp only [if_neg hn]
    rw [hB] at HS
    clear hB hn HP
    unfold bShut at HS
    go_enter Tryz.func80, Tryz.ntmps80
    go_wp2_with fail
    refine (HS.out _ (Below.refl _ _)).mono ?_
    rintro e w1 ⟨rfl, hb1⟩
    have hR1 := HR.out.later hb1
    have HB1 := hidMk hb1
    obtain ⟨b, cap, hbg, hgl1, c0, c1, c2, c3, c4, d0, d1, d2, hl⟩ := hR1.hd
    have HR1 := hidMk hR1
    have hbl : b < w1.heap.size := by omega
    have hp0 : (0 : Int) ≤ (p : Int) := by omega
    clear hR1 hb1 HR HS
    go_wp2_with fail
    go_region_with (go_at_call 56; refine (fail_any g E p tks lev er bad _ _ _ (RS.later HR1.out (by first | exact Below.refl _ _ | exact (Below.refl _ _).drew | exact Below.drewN' (Below.refl _ _)))).mono ?_; rintro en w2 ⟨rfl, hg2, hr2⟩)
    all_goals
      have F : Hid (w.grownBy w2 (some g)) := xgTrans (xgBelow HB1.out) (xgUndrew hg2)
      have F2 := hidMk hr2
      clear hg2 hr2
      go_wp2
      simp [bodyPost, results, Tryz.results80, go_sem]
      exact ⟨F.out, F2.out⟩
  · have hy : er = 0 ∧ sgB (hd E (tks.drop p)) bShut = true := by simpa using hB
    simp only [if_pos hy]
    have hlt := HP.out hy.2
    rw [hB] at HS
    clear hB hy HP
    unfold bShut at HS
    go_enter Tryz.func80, Tryz.ntmps80
    go_wp2_with fail
    refine (HS.out _ (Below.refl _ _)).mono ?_
    rintro e w1 ⟨rfl, hb1⟩
    have hR1 := HR.out.later hb1
    have HB1 := hidMk hb1
    obtain ⟨b, cap, hbg, hgl1, c0, c1, c2, c3, c4, d0, d1, d2, hl⟩ := hR1.hd
    have f1 := hR1.soft 1
    have e1 : ((p + 1 : Nat) : Int) = (p : Int) + 1 := by omega
    have hpl : tks.length ≤ 200 := by obtain ⟨_, _, _, _, _, h, _⟩ := hR1; exact h
    have F : Hid (w.grownBy (w1.setCell ⟨g, 1, none⟩ (.int .i64 ((p + 1 : Nat) : Int))) (some g) ∧ RS (w1.setCell ⟨g, 1, none⟩ (.int .i64 ((p + 1 : Nat) : Int))) g E tks (p + 1) lev er bad) := ⟨xgTrans (xgBelow HB1.out) (xgSet _ _ _), hR1.put1 hlt⟩
    rw [e1] at F
    clear hR1 hb1 HR HS
    go_wp2_with fail
    go_end0
    exact ⟨rfl, F.out⟩
end Go.Proofs.YtplaplhmjpfbjaaGreatDoor.Dc
namespace Go.Proofs.YtplaplhmjpfbjaaGreatDoor.Dc
open Go.RowKit
set_option linter.unusedVariables false
set_option linter.unusedSimpArgs false
set_option maxRecDepth 100000

def cellsD (t : Tk) : List Value := [.int .u8 (srt t.kd), .string t.tx, .int .i64 t.pl]
/-- The document's tokens in a row of one's own. -/
def OD (w : World) (B : Nat) (x : Value) (ts : List Tk) : Prop := w.ownsRow B 106 3 x ts.length (ts.flatMap cellsD)
theorem infoTD : (Tryz.prog.info? 106).map (fun i => (i.zero, i.size, i.bytes)) = some (some (.agg #[.int .u8 0, .string ⟨#[]⟩, .int .i64 0]), 3, 32) := by kernel_rfl
def ToksD (w : World) (s : ByteArray) (e : Ending) (w' : World) : Prop := Below w.heap.size w w' ∧
  match tok s.size 0 s.data.toList with
  | .error p => e = .returned (.tuple #[.slice none 0 0, .int .i64 p])
  | .ok l => ∃ x, e = .returned (.tuple #[x, .int .i64 (-1)]) ∧ OD w' w.heap.size x (l ++ [endT s.size])

/-- The document's signs, in its order. -/
def sgs : List ByteArray := [bNe, bLe, bGe, bCat, bEq, bLt, bGt, bPlus, bMinus, bMul, bDiv, bMod, bOpen, bShut, bComma]
/-- How long the first of them is with which a text begins. -/
def fl : List ByteArray → List UInt8 → Nat
  | [], _ => 0
  | g :: r, l => if g.data.toList <+: l then g.data.toList.length else fl r l
theorem fl_sLen (l : List UInt8) : fl sgs l = sLen l := by
  unfold sgs sLen
  simp only [fl, bNe, bLe, bGe, bCat, bEq, bLt, bGt, bPlus, bMinus, bMul, bDiv, bMod, bOpen, bShut, bComma]
  match l with
  | [] => simp
  | [c] =>
    simp [List.cons_prefix_cons]
    grind (splits := 60)
  | c :: d :: r =>
    simp [List.cons_prefix_cons]
    grind (splits := 60)
def SgsPost (w : World) (e : Ending) (w' : World) : Prop := ∃ b, e = .returned (.slice (some ⟨b, 0, none⟩) 15 15) ∧ Below w.heap.size w w' ∧ w.heap.size ≤ b ∧ ∀ i (h : i < sgs.length), w'.cell? ⟨b, i, none⟩ = some (.string sgs[i])
set_option maxHeartbeats 4000000 in
theorem signs_any (w : World) : Calls Tryz.prog 72 #[] w (SgsPost w) := by
  go_enter Tryz.func72, Tryz.ntmps72
  go_wp2
  go_ret
  refine ⟨_, rfl, ?_, ?_, ?_⟩
  · exact xbel1 _ _
  · simp
  · intro i hi
    match i, hi with
    | 0, _ => go_simp; rfl
    | 1, _ => go_simp; rfl
    | 2, _ => go_simp; rfl
    | 3, _ => go_simp; rfl
    | 4, _ => go_simp; rfl
    | 5, _ => go_simp; rfl
    | 6, _ => go_simp; rfl
    | 7, _ => go_simp; rfl
    | 8, _ => go_simp; rfl
    | 9, _ => go_simp; rfl
    | 10, _ => go_simp; rfl
    | 11, _ => go_simp; rfl
    | 12, _ => go_simp; rfl
    | 13, _ => go_simp; rfl
    | 14, _ => go_simp; rfl
    | i + 15, h => exact absurd h (by simp [sgs])
end Go.Proofs.YtplaplhmjpfbjaaGreatDoor.Dc
