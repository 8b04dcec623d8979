import Derived.Test.YtnmelljaangfiaaGreatDoorXpN
import Derived.Deep.RegionHeld3
namespace Go.Proofs.YtnmelljaangfiaaGreatDoor.Dc
open Go.RowKit
set_option linter.unusedVariables false
set_option linter.unusedSimpArgs false
set_option maxRecDepth 100000

theorem hidMk {p : Prop} (h : p) : Hid p := h
/-- The sort of a token, as the document's letters. -/
def srt : Nat → Int
  | 0 => 101
  | 1 => 110
  | 2 => 48
  | 3 => 39
  | _ => 111
/-- Tokens of the document that lie from a block's beginning on. -/
def TkD (w : World) (b : Nat) (l : List Tk) : Prop := ∀ i (h : i < l.length), w.cell? ⟨b, i * 3, none⟩ = some (.int .u8 (srt l[i].kd)) ∧ w.cell? ⟨b, i * 3 + 1, none⟩ = some (.string l[i].tx) ∧ w.cell? ⟨b, i * 3 + 2, none⟩ = some (.int .i64 l[i].pl)
theorem TkD.grown {w w' : World} {b : Nat} {l : List Tk} {r : Option Nat} (h : TkD w b l) (hg : w.grownBy w' r) (hne : some b ≠ r) : TkD w' b l := fun i hi =>
  have ⟨h1, h2, h3⟩ := h i hi
  ⟨hg.cell h1 hne, hg.cell h2 hne, hg.cell h3 hne⟩
def endT (E : Nat) : Tk := ⟨E, 0, ⟨#[]⟩⟩
/-- The document's reading: of tokens, at a place, so many levels in, with what is wrong. -/
def RS (w : World) (g E : Nat) (tks : List Tk) (p : Nat) (lev er bad : Int) : Prop := ∃ b cap, Own w g 58 5 [.slice (some ⟨b, 0, none⟩) (tks.length + 1) cap, .int .i64 p, .int .i64 lev, .int .i64 er, .int .i64 bad] ∧ b < g ∧ TkD w b (tks ++ [endT E]) ∧ tks.length ≤ 200 ∧ p ≤ tks.length
theorem RS.grown {w w' : World} {g E p : Nat} {tks : List Tk} {lev er bad : Int} {r : Option Nat} (h : RS w g E tks p lev er bad) (hg : w.grownBy w' r) (hr : ∀ k, r = some k → g < k) : RS w' g E tks p lev er bad := by
  obtain ⟨b, cap, h1, h2, h3, h4⟩ := h
  exact ⟨b, cap, h1.grown hg (fun e => by have := hr g e.symm; omega), h2, h3.grown hg (fun e => by have := hr b e.symm; omega), h4⟩
theorem RS.later {w w' : World} {g E p : Nat} {tks : List Tk} {lev er bad : Int} (h : RS w g E tks p lev er bad) (hb : Below w.heap.size w w') : RS w' g E tks p lev er bad := h.grown (r := none) (xgBelow hb) (fun k hk => by cases hk)
theorem RS.lt {w : World} {g E p : Nat} {tks : List Tk} {lev er bad : Int} (h : RS w g E tks p lev er bad) : g < w.heap.size := by obtain ⟨b, cap, h1, _⟩ := h; exact h1.lt
theorem hd_drop (E : Nat) (tks : List Tk) (p : Nat) (h : p ≤ tks.length) (hi : p < (tks ++ [endT E]).length) : (tks ++ [endT E])[p] = hd E (tks.drop p) := by
  rcases Nat.lt_or_ge p tks.length with h1 | h1
  · rw [List.getElem_append_left h1, List.drop_eq_getElem_cons h1]; rfl
  · rw [List.getElem_append_right h1, List.drop_eq_nil_of_le h1]; simp [hd, endT]
theorem RS.hd {w : World} {g E p : Nat} {tks : List Tk} {lev er bad : Int} (h : RS w g E tks p lev er bad) : ∃ b cap, b < g ∧ g < w.heap.size ∧ w.cell? ⟨g, 0, none⟩ = some (.slice (some ⟨b, 0, none⟩) (tks.length + 1) cap) ∧ w.cell? ⟨g, 1, none⟩ = some (.int .i64 p) ∧ w.cell? ⟨g, 2, none⟩ = some (.int .i64 lev) ∧ w.cell? ⟨g, 3, none⟩ = some (.int .i64 er) ∧ w.cell? ⟨g, 4, none⟩ = some (.int .i64 bad) ∧
    w.cell? ⟨b, p * 3, none⟩ = some (.int .u8 (srt (hd E (tks.drop p)).kd)) ∧ w.cell? ⟨b, p * 3 + 1, none⟩ = some (.string (hd E (tks.drop p)).tx) ∧ w.cell? ⟨b, p * 3 + 2, none⟩ = some (.int .i64 (hd E (tks.drop p)).pl) ∧ (p : Int) < (tks.length : Int) + 1 := by
  obtain ⟨b, cap, h1, h2, h3, h4, h5⟩ := h
  have hi : p < (tks ++ [endT E]).length := by simp; omega
  obtain ⟨d0, d1, d2⟩ := h3 p hi
  rw [hd_drop E tks p h5 hi] at d0 d1 d2
  refine ⟨b, cap, h2, h1.lt, ?_, ?_, ?_, ?_, ?_, d0, d1, d2, by omega⟩
  · rw [h1.cell 0 (by decide)]; rfl
  · rw [h1.cell 1 (by decide)]; rfl
  · rw [h1.cell 2 (by decide)]; rfl
  · rw [h1.cell 3 (by decide)]; rfl
  · rw [h1.cell 4 (by decide)]; rfl
theorem RS.put1 {w : World} {g E p q : Nat} {tks : List Tk} {lev er bad : Int} (h : RS w g E tks p lev er bad) (hq : q ≤ tks.length) : RS (w.setCell ⟨g, 1, none⟩ (.int .i64 q)) g E tks q lev er bad := by
  obtain ⟨b, cap, h1, h2, h3, h4, h5⟩ := h
  exact ⟨b, cap, (h1.put 1 _).1, h2, h3.grown (h1.put 1 (.int .i64 q)).2 (fun e => by simp at e; omega), h4, hq⟩
theorem RS.put2 {w : World} {g E p : Nat} {tks : List Tk} {lev er bad lev' : Int} (h : RS w g E tks p lev er bad) : RS (w.setCell ⟨g, 2, none⟩ (.int .i64 lev')) g E tks p lev' er bad := by
  obtain ⟨b, cap, h1, h2, h3, h4, h5⟩ := h
  exact ⟨b, cap, (h1.put 2 _).1, h2, h3.grown (h1.put 2 (.int .i64 lev')).2 (fun e => by simp at e; omega), h4, h5⟩
theorem RS.put34 {w : World} {g E p : Nat} {tks : List Tk} {lev er bad er' bad' : Int} (h : RS w g E tks p lev er bad) : RS ((w.setCell ⟨g, 3, none⟩ (.int .i64 er')).setCell ⟨g, 4, none⟩ (.int .i64 bad')) g E tks p lev er' bad' := by
  obtain ⟨b, cap, h1, h2, h3, h4, h5⟩ := h
  have k1 := (h1.put 3 (.int .i64 er'))
  have k2 := (k1.1.put 4 (.int .i64 bad'))
  exact ⟨b, cap, k2.1, h2, (h3.grown k1.2 (fun e => by simp at e; omega)).grown k2.2 (fun e => by simp at e; omega), h4, h5⟩
theorem RS.soft {w : World} {g E p : Nat} {tks : List Tk} {lev er bad : Int} (h : RS w g E tks p lev er bad) (j : Nat) : w.frozen? ⟨g, j, none⟩ = false := by
  obtain ⟨b, cap, h1, _⟩ := h
  exact h1.soft j

/-- sign: whether the next token is one. -/
def sgB (t : Tk) (s : ByteArray) : Bool := decide (t.tx = s) && (srt t.kd == 111 || srt t.kd == 110)
set_option maxHeartbeats 1000000 in
theorem sign_any (g E p : Nat) (tks : List Tk) (lev er bad : Int) (s : ByteArray) (w : World) (h : RS w g E tks p lev er bad) :
    Calls Tryz.prog 46 #[.pointer (some ⟨g, 0, none⟩), .string s] w fun e w' => e = .returned (.bool (decide (er = 0) && sgB (hd E (tks.drop p)) s)) ∧ Below w.heap.size w w' := by
  obtain ⟨b, cap, hbg, hgl, c0, c1, c2, c3, c4, d0, d1, d2, hl⟩ := h.hd
  have hbl : b < w.heap.size := by omega
  have hx := xl (hd E (tks.drop p)).tx s.toList
  have hs' : (⟨s.toList.toArray⟩ : ByteArray) = s := by apply xtoList; simp [ByteArray.toList_eq]
  rw [hs'] at hx
  have hp0 : (0 : Int) ≤ (p : Int) := by omega
  have he : decide (er = 0) = (er == 0) := by cases h : (er == 0) <;> simp_all
  unfold sgB
  rw [he]
  generalize (hd E (tks.drop p)).tx = X at *
  generalize srt (hd E (tks.drop p)).kd = K at *
  generalize (hd E (tks.drop p)).pl = PL at *
  generalize decide (X = s) = D at *
  clear h hs'
  cases q1 : (er == 0)
  rotate_left
  cases D
  rotate_left
  cases q2 : (K == 111)
  cases q3 : (K == 110)
  all_goals
    go_enter Tryz.func46, Tryz.ntmps46
    go_wp2
    go_region_held3 (fun w' => w'.cell? ⟨g, 0, none⟩ = some (.slice (some ⟨b, 0, none⟩) (tks.length + 1) cap) ∧ w'.cell? ⟨g, 1, none⟩ = some (.int .i64 p) ∧ w'.cell? ⟨b, p * 3, none⟩ = some (.int .u8 K) ∧ w'.cell? ⟨b, p * 3 + 1, none⟩ = some (.string X) ∧ w'.cell? ⟨b, p * 3 + 2, none⟩ = some (.int .i64 PL)) (first | go_keep) (first | fail)
    go_wp2
    go_ret
    refine ⟨?_, (xbel1 _ _).drew⟩
    first | rfl | simp_all
end Go.Proofs.YtnmelljaangfiaaGreatDoor.Dc
