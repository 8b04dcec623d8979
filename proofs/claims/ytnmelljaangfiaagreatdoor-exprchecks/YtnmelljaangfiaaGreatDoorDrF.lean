import Derived.Test.YtnmelljaangfiaaGreatDoorDrD
import Derived.Test.YtnmelljaangfiaaGreatDoorXpC
import Derived.Deep.LoopGhost
namespace Go.Proofs.YtnmelljaangfiaaGreatDoor.Dc
open Go.RowKit
set_option linter.unusedVariables false
set_option linter.unusedSimpArgs false
set_option maxRecDepth 100000

def bValue : ByteArray := ⟨#[118, 97, 108, 117, 101]⟩
def bName : ByteArray := ⟨#[110, 97, 109, 101]⟩
def bCall : ByteArray := ⟨#[99, 97, 108, 108]⟩
def bMinusW : ByteArray := ⟨#[109, 105, 110, 117, 115]⟩
/-- What a sign ahead is called. -/
def wPre (s : ByteArray) : ByteArray := if s = bNot then bNot else bMinusW
/-- Parts that lie in a list. -/
def KAt (w : World) (lo hi : Nat) (v : Value) (us : List Value) : Prop := ∃ a c, v = .slice a us.length c ∧ ∀ i (h : i < us.length), ∃ b, a = some ⟨b, 0, none⟩ ∧ lo ≤ b ∧ b < hi ∧ w.cell? ⟨b, i, none⟩ = some us[i]
def ptrE (b : Nat) : Value := .pointer (some ⟨b, 0, none⟩)
mutual
/-- An expression of the document's, in blocks from 'lo' to ahead of 'hi'. -/
def Et (w : World) (lo hi : Nat) : X → Value → Prop
  | .lit k n t, v => ∃ b, v = ptrE b ∧ lo ≤ b ∧ b < hi ∧ w.cell? ⟨b, 0, none⟩ = some (.string bValue) ∧ w.cell? ⟨b, 3, none⟩ = some (.int .i64 k) ∧ w.cell? ⟨b, 4, none⟩ = some (.int .i64 n) ∧ w.cell? ⟨b, 5, none⟩ = some (.string t)
  | .col pl nm, v => ∃ b, v = ptrE b ∧ lo ≤ b ∧ b < hi ∧ w.cell? ⟨b, 0, none⟩ = some (.string bName) ∧ w.cell? ⟨b, 1, none⟩ = some (.int .i64 pl) ∧ w.cell? ⟨b, 6, none⟩ = some (.string nm)
  | .pre pl s x, v => ∃ b kv u, v = ptrE b ∧ lo ≤ b ∧ b < hi ∧ w.cell? ⟨b, 0, none⟩ = some (.string (wPre s)) ∧ w.cell? ⟨b, 1, none⟩ = some (.int .i64 pl) ∧ w.cell? ⟨b, 2, none⟩ = some kv ∧ KAt w lo hi kv [u] ∧ Et w lo hi x u
  | .inf pl s l r, v => ∃ b kv u u', v = ptrE b ∧ lo ≤ b ∧ b < hi ∧ w.cell? ⟨b, 0, none⟩ = some (.string s) ∧ w.cell? ⟨b, 1, none⟩ = some (.int .i64 pl) ∧ w.cell? ⟨b, 2, none⟩ = some kv ∧ KAt w lo hi kv [u, u'] ∧ Et w lo hi l u ∧ Et w lo hi r u'
  | .app pl nm l, v => ∃ b kv us, v = ptrE b ∧ lo ≤ b ∧ b < hi ∧ w.cell? ⟨b, 0, none⟩ = some (.string bCall) ∧ w.cell? ⟨b, 1, none⟩ = some (.int .i64 pl) ∧ w.cell? ⟨b, 6, none⟩ = some (.string nm) ∧ w.cell? ⟨b, 2, none⟩ = some kv ∧ KAt w lo hi kv us ∧ Ets w lo hi l us
def Ets (w : World) (lo hi : Nat) : List X → List Value → Prop
  | [], us => us = []
  | x :: l, us => ∃ u us', us = u :: us' ∧ Et w lo hi x u ∧ Ets w lo hi l us'
end
theorem KAt.keep {w w' : World} {lo hi lo' hi' : Nat} {v : Value} {us : List Value} (hc : ∀ (b i : Nat) (u : Value), lo ≤ b → b < hi → w.cell? ⟨b, i, none⟩ = some u → w'.cell? ⟨b, i, none⟩ = some u) (h1 : lo' ≤ lo) (h2 : hi ≤ hi') (h : KAt w lo hi v us) : KAt w' lo' hi' v us := by
  obtain ⟨a, c, e, h⟩ := h
  refine ⟨a, c, e, fun i hi0 => ?_⟩
  obtain ⟨b, ea, hb1, hb2, hb3⟩ := h i hi0
  exact ⟨b, ea, by omega, by omega, hc b i _ hb1 hb2 hb3⟩
mutual
theorem Et.keep {w w' : World} {lo hi lo' hi' : Nat} (hc : ∀ (b i : Nat) (u : Value), lo ≤ b → b < hi → w.cell? ⟨b, i, none⟩ = some u → w'.cell? ⟨b, i, none⟩ = some u) (h1 : lo' ≤ lo) (h2 : hi ≤ hi') : ∀ (x : X) (v : Value), Et w lo hi x v → Et w' lo' hi' x v
  | .lit k n t, v, h => by
    rw [Et] at h ⊢
    obtain ⟨b, e, a1, a2, c0, c3, c4, c5⟩ := h
    exact ⟨b, e, by omega, by omega, hc _ _ _ a1 a2 c0, hc _ _ _ a1 a2 c3, hc _ _ _ a1 a2 c4, hc _ _ _ a1 a2 c5⟩
  | .col pl nm, v, h => by
    rw [Et] at h ⊢
    obtain ⟨b, e, a1, a2, c0, c1, c6⟩ := h
    exact ⟨b, e, by omega, by omega, hc _ _ _ a1 a2 c0, hc _ _ _ a1 a2 c1, hc _ _ _ a1 a2 c6⟩
  | .pre pl s x, v, h => by
    rw [Et] at h ⊢
    obtain ⟨b, kv, u, e, a1, a2, c0, c1, c2, hk, hx⟩ := h
    exact ⟨b, kv, u, e, by omega, by omega, hc _ _ _ a1 a2 c0, hc _ _ _ a1 a2 c1, hc _ _ _ a1 a2 c2, hk.keep hc h1 h2, Et.keep hc h1 h2 x u hx⟩
  | .inf pl s l r, v, h => by
    rw [Et] at h ⊢
    obtain ⟨b, kv, u, u', e, a1, a2, c0, c1, c2, hk, hx, hy⟩ := h
    exact ⟨b, kv, u, u', e, by omega, by omega, hc _ _ _ a1 a2 c0, hc _ _ _ a1 a2 c1, hc _ _ _ a1 a2 c2, hk.keep hc h1 h2, Et.keep hc h1 h2 l u hx, Et.keep hc h1 h2 r u' hy⟩
  | .app pl nm l, v, h => by
    rw [Et] at h ⊢
    obtain ⟨b, kv, us, e, a1, a2, c0, c1, c6, c2, hk, hx⟩ := h
    exact ⟨b, kv, us, e, by omega, by omega, hc _ _ _ a1 a2 c0, hc _ _ _ a1 a2 c1, hc _ _ _ a1 a2 c6, hc _ _ _ a1 a2 c2, hk.keep hc h1 h2, Ets.keep hc h1 h2 l us hx⟩
theorem Ets.keep {w w' : World} {lo hi lo' hi' : Nat} (hc : ∀ (b i : Nat) (u : Value), lo ≤ b → b < hi → w.cell? ⟨b, i, none⟩ = some u → w'.cell? ⟨b, i, none⟩ = some u) (h1 : lo' ≤ lo) (h2 : hi ≤ hi') : ∀ (l : List X) (us : List Value), Ets w lo hi l us → Ets w' lo' hi' l us
  | [], us, h => h
  | x :: l, us, h => by
    rw [Ets] at h ⊢
    obtain ⟨u, us', e, hx, hl⟩ := h
    exact ⟨u, us', e, Et.keep hc h1 h2 x u hx, Ets.keep hc h1 h2 l us' hl⟩
end
theorem Et.grown {w w' : World} {lo hi lo' hi' : Nat} {x : X} {v : Value} {r : Option Nat} (h : Et w lo hi x v) (hg : w.grownBy w' r) (hr : ∀ k, r = some k → k < lo ∨ hi ≤ k) (h1 : lo' ≤ lo) (h2 : hi ≤ hi') : Et w' lo' hi' x v :=
  Et.keep (fun b i u a1 a2 hcell => hg.cell hcell (fun e => by rcases hr _ e.symm with h | h <;> simp only at h <;> omega)) h1 h2 x v h
theorem Ets.grown {w w' : World} {lo hi lo' hi' : Nat} {l : List X} {us : List Value} {r : Option Nat} (h : Ets w lo hi l us) (hg : w.grownBy w' r) (hr : ∀ k, r = some k → k < lo ∨ hi ≤ k) (h1 : lo' ≤ lo) (h2 : hi ≤ hi') : Ets w' lo' hi' l us :=
  Ets.keep (fun b i u a1 a2 hcell => hg.cell hcell (fun e => by rcases hr _ e.symm with h | h <;> simp only at h <;> omega)) h1 h2 l us h
/-- What an expression is lies in its first cell. -/
theorem Et.what {w : World} {lo hi : Nat} {x : X} {v : Value} (h : Et w lo hi x v) : ∃ b S, v = ptrE b ∧ lo ≤ b ∧ b < hi ∧ w.cell? ⟨b, 0, none⟩ = some (.string S) := by
  cases x with
  | lit k n t => rw [Et] at h; obtain ⟨b, e, a1, a2, c0, _⟩ := h; exact ⟨b, _, e, a1, a2, c0⟩
  | col pl nm => rw [Et] at h; obtain ⟨b, e, a1, a2, c0, _⟩ := h; exact ⟨b, _, e, a1, a2, c0⟩
  | pre pl s x => rw [Et] at h; obtain ⟨b, kv, u, e, a1, a2, c0, _⟩ := h; exact ⟨b, _, e, a1, a2, c0⟩
  | inf pl s l r => rw [Et] at h; obtain ⟨b, kv, u, u', e, a1, a2, c0, _⟩ := h; exact ⟨b, _, e, a1, a2, c0⟩
  | app pl nm l => rw [Et] at h; obtain ⟨b, kv, us, e, a1, a2, c0, _⟩ := h; exact ⟨b, _, e, a1, a2, c0⟩

/-- A token as texts give them. -/
def Wf (t : Tk) : Prop := t.tx.size ≤ 200 ∧ ((t.kd = 1 ∧ ∃ c r, t.tx.data.toList = c :: r ∧ isLt c = true) ∨ (t.kd = 2 ∧ ∃ c r, t.tx.data.toList = c :: r ∧ isDg c = true) ∨ (t.kd = 3 ∧ ∃ r, t.tx.data.toList = 39 :: r) ∨ (t.kd = 4 ∧ t.tx ∈ sgs))
theorem Wf.notNum {t : Tk} (h : Wf t) {s : ByteArray} (hs : ∀ c r, s.data.toList = c :: r → isDg c = false ∧ c ≠ 39) (e : t.tx = s) : t.kd = 1 ∨ t.kd = 4 := by
  rcases h.2 with ⟨h, _⟩ | ⟨h, c, r, h1, h2⟩ | ⟨h, r, h1⟩ | ⟨h, _⟩
  · exact .inl h
  · rw [e] at h1; have := (hs c r h1).1; rw [h2] at this; cases this
  · rw [e] at h1; exact absurd rfl (hs 39 r h1).2
  · exact .inr h
theorem sgB_of {t : Tk} {s : ByteArray} (h : t.kd = 1 ∨ t.kd = 4) : sgB t s = decide (t.tx = s) := by
  unfold sgB
  rcases h with h | h <;> rw [h] <;> simp [srt]
/-- Signs and words are told by their texts alone. -/
theorem sgB_tx {t : Tk} (h : Wf t) {s : ByteArray} (hs : ∀ c r, s.data.toList = c :: r → isDg c = false ∧ c ≠ 39) : sgB t s = decide (t.tx = s) := by
  by_cases e : t.tx = s
  · exact sgB_of (h.notNum hs e)
  · unfold sgB; rw [decide_eq_false e]; rfl
theorem sgB_end (E : Nat) (s : ByteArray) : sgB (endT E) s = false := by unfold sgB endT; simp [srt]
def okS (s : ByteArray) : Prop := (∀ c r, s.data.toList = c :: r → isDg c = false ∧ c ≠ 39) ∧ s ≠ ⟨#[]⟩
theorem okS_of {s : ByteArray} (c : UInt8) (r : List UInt8) (h : s.data.toList = c :: r) (h1 : isDg c = false) (h2 : c ≠ 39) : okS s := by
  refine ⟨fun c' r' e => ?_, fun e => by rw [e] at h; cases h⟩
  rw [h] at e; cases e; exact ⟨h1, h2⟩
/-- What 'sign' tells of the next token. -/
theorem sg_hd {E : Nat} {ts : List Tk} (hw : ∀ t ∈ ts, Wf t) {s : ByteArray} (hs : okS s) : sgB (hd E ts) s = decide ((hd E ts).tx = s) := by
  cases ts with
  | nil => exact (sgB_end E s).trans (by rw [decide_eq_false]; exact fun e => hs.2 e.symm)
  | cons t ts => exact sgB_tx (hw t (by simp)) hs.1
theorem ok_minus : okS bMinus := okS_of 45 [] rfl (by decide) (by decide)
theorem ok_open : okS bOpen := okS_of 40 [] rfl (by decide) (by decide)
theorem ok_shut : okS bShut := okS_of 41 [] rfl (by decide) (by decide)
theorem ok_comma : okS bComma := okS_of 44 [] rfl (by decide) (by decide)
theorem ok_not : okS bNot := okS_of 110 [111, 116] rfl (by decide) (by decide)
theorem drop_cons {α : Type} {l : List α} {p : Nat} {t : α} {ts : List α} (h : l.drop p = t :: ts) : l.drop (p + 1) = ts ∧ p < l.length := by
  constructor
  · rw [← List.drop_drop, h]; rfl
  · rcases Nat.lt_or_ge p l.length with h' | h'
    · exact h'
    · rw [List.drop_eq_nil_of_le h'] at h; cases h

/-- How the document's readers end. -/
def CPost (L : ByteArray → Int → Int → ByteArray → Prop) (w : World) (g E : Nat) (tks : List Tk) (p lev r0 : Nat) (e : Ending) (w' : World) : Prop := w.grownBy w' (some g) ∧ ∃ b, e = .returned (ptrE b) ∧
  ((∃ x p', RS w' g E tks p' lev 0 0 ∧ Ps L E (.D r0) lev (tks.drop p) (.ok (x, tks.drop p')) ∧ Et w' w.heap.size w'.heap.size x (ptrE b)) ∨
   (∃ (f : Flt) (p' : Nat), f.why ≠ 0 ∧ RS w' g E tks p' lev f.why f.pl ∧ Ps L E (.D r0) lev (tks.drop p) (.error f)))
/-- How they end where something was wrong before. -/
def EPost (w : World) (g E : Nat) (tks : List Tk) (p : Nat) (lev er bad : Int) (e : Ending) (w' : World) : Prop := Below w.heap.size w w' ∧ ∃ b, e = .returned (ptrE b)
set_option maxHeartbeats 1000000 in
theorem first_err (g E p : Nat) (tks : List Tk) (lev er bad : Int) (w : World) (h : RS w g E tks p lev er bad) (he : er ≠ 0) :
    Calls Tryz.prog 48 #[.pointer (some ⟨g, 0, none⟩)] w (EPost w g E tks p lev er bad) := by
  obtain ⟨b, cap, hbg, hgl, c0, c1, c2, c3, c4, d0, d1, d2, hl⟩ := h.hd
  have hbl : b < w.heap.size := by omega
  have hp0 : (0 : Int) ≤ (p : Int) := by omega
  have q1 : (er == 0) = false := by simp [he]
  have q2 : (er != 0) = true := by simp [he]
  generalize (hd E (tks.drop p)).tx = X at *
  generalize srt (hd E (tks.drop p)).kd = K at *
  generalize (hd E (tks.drop p)).pl = PL at *
  clear h he
  go_enter Tryz.func48, Tryz.ntmps48
  go_wp2
  go_region_held3 (fun w' => w'.cell? ⟨g, 0, none⟩ = some (.slice (some ⟨b, 0, none⟩) (tks.length + 1) cap) ∧ w'.cell? ⟨g, 1, none⟩ = some (.int .i64 p) ∧ w'.cell? ⟨b, p * 3, none⟩ = some (.int .u8 K) ∧ w'.cell? ⟨b, p * 3 + 1, none⟩ = some (.string X) ∧ w'.cell? ⟨b, p * 3 + 2, none⟩ = some (.int .i64 PL)) (first | go_keep) (first | fail)
  go_wp2
  go_ret
  exact ⟨((xbel1 _ _).drew).alloc (by simp) _, _, rfl⟩
end Go.Proofs.YtnmelljaangfiaaGreatDoor.Dc
