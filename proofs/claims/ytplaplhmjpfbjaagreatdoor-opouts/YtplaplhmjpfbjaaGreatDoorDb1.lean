import Derived.Test.YtplaplhmjpfbjaaGreatDoorDa1
import Derived.Test.YtplaplhmjpfbjaaGreatDoorXpC
import Derived.Deep.LoopGhost
namespace Go.Proofs.YtplaplhmjpfbjaaGreatDoor.Dc
open Go.RowKit
set_option linter.unusedVariables false
set_option linter.unusedSimpArgs false
set_option maxRecDepth 100000

def bValue : ByteArray := ⟨#[118, 97, 108, 117, 101]⟩
def bName : ByteArray := ⟨#[110, 97, 109, 101]⟩
def bCall : ByteArray := ⟨#[99, 97, 108, 108]⟩
def bMinusW : ByteArray := ⟨#[109, 105, 110, 117, 115]⟩
/-- What a sign ahead is called. -/
def wPre (s : ByteArray) : ByteArray := if s = bNot then bNot else bMinusW
/-- Parts that lie in a list. -/
def KAt (w : World) (lo hi : Nat) (v : Value) (us : List Value) : Prop := ∃ a c, v = .slice a us.length c ∧ ∀ i (h : i < us.length), ∃ b, a = some ⟨b, 0, none⟩ ∧ lo ≤ b ∧ b < hi ∧ w.cell? ⟨b, i, none⟩ = some us[i]
def ptrE (b : Nat) : Value := .pointer (some ⟨b, 0, none⟩)
mutual
/-- An expression of the document's, in blocks from 'lo' to ahead of 'hi'. -/
def Et (w : World) (lo hi : Nat) : X → Value → Prop
  | .lit k n t, v => ∃ b, v = ptrE b ∧ lo ≤ b ∧ b < hi ∧ w.cell? ⟨b, 0, none⟩ = some (.string bValue) ∧ w.cell? ⟨b, 3, none⟩ = some (.int .i64 k) ∧ w.cell? ⟨b, 4, none⟩ = some (.int .i64 n) ∧ w.cell? ⟨b, 5, none⟩ = some (.string t)
  | .col pl nm, v => ∃ b, v = ptrE b ∧ lo ≤ b ∧ b < hi ∧ w.cell? ⟨b, 0, none⟩ = some (.string bName) ∧ w.cell? ⟨b, 1, none⟩ = some (.int .i64 pl) ∧ w.cell? ⟨b, 6, none⟩ = some (.string nm)
  | .pre pl s x, v => ∃ b kv u, v = ptrE b ∧ lo ≤ b ∧ b < hi ∧ w.cell? ⟨b, 0, none⟩ = some (.string (wPre s)) ∧ w.cell? ⟨b, 1, none⟩ = some (.int .i64 pl) ∧ w.cell? ⟨b, 2, none⟩ = some kv ∧ KAt w lo hi kv [u] ∧ Et w lo hi x u
  | .inf pl s l r, v => ∃ b kv u u', v = ptrE b ∧ lo ≤ b ∧ b < hi ∧ w.cell? ⟨b, 0, none⟩ = some (.string s) ∧ w.cell? ⟨b, 1, none⟩ = some (.int .i64 pl) ∧ w.cell? ⟨b, 2, none⟩ = some kv ∧ KAt w lo hi kv [u, u'] ∧ Et w lo hi l u ∧ Et w lo hi r u'
  | .app pl nm l, v => ∃ b kv us, v = ptrE b ∧ lo ≤ b ∧ b < hi ∧ w.cell? ⟨b, 0, none⟩ = some (.string bCall) ∧ w.cell? ⟨b, 1, none⟩ = some (.int .i64 pl) ∧ w.cell? ⟨b, 6, none⟩ = some (.string nm) ∧ w.cell? ⟨b, 2, none⟩ = some kv ∧ KAt w lo hi kv us ∧ Ets w lo hi l us
def Ets (w : World) (lo hi : Nat) : List X → List Value → Prop
  | [], us => us = []
  | x :: l, us => ∃ u us', us = u :: us' ∧ Et w lo hi x u ∧ Ets w lo hi l us'
end
theorem KAt.keep {w w' : World} {lo hi lo' hi' : Nat} {v : Value} {us : List Value} (hc : ∀ (b i : Nat) (u : Value), lo ≤ b → b < hi → w.cell? ⟨b, i, none⟩ = some u → w'.cell? ⟨b, i, none⟩ = some u) (h1 : lo' ≤ lo) (h2 : hi ≤ hi') (h : KAt w lo hi v us) : KAt w' lo' hi' v us := by
  obtain ⟨a, c, e, h⟩ := h
  refine ⟨a, c, e, fun i hi0 => ?_⟩
  obtain ⟨b, ea, hb1, hb2, hb3⟩ := h i hi0
  exact ⟨b, ea, by omega, by omega, hc b i _ hb1 hb2 hb3⟩
mutual
theorem Et.keep {w w' : World} {lo hi lo' hi' : Nat} (hc : ∀ (b i : Nat) (u : Value), lo ≤ b → b < hi → w.cell? ⟨b, i, none⟩ = some u → w'.cell? ⟨b, i, none⟩ = some u) (h1 : lo' ≤ lo) (h2 : hi ≤ hi') : ∀ (x : X) (v : Value), Et w lo hi x v → Et w' lo' hi' x v
  | .lit k n t, v, h => by
    rw [Et] at h ⊢
    obtain ⟨b, e, a1, a2, c0, c3, c4, c5⟩ := h
    exact ⟨b, e, by omega, by omega, hc _ _ _ a1 a2 c0, hc _ _ _ a1 a2 c3, hc _ _ _ a1 a2 c4, hc _ _ _ a1 a2 c5⟩
  | .col pl nm, v, h => by
    rw [Et] at h ⊢
    obtain ⟨b, e, a1, a2, c0, c1, c6⟩ := h
    exact ⟨b, e, by omega, by omega, hc _ _ _ a1 a2 c0, hc _ _ _ a1 a2 c1, hc _ _ _ a1 a2 c6⟩
  | .pre pl s x, v, h => by
    rw [Et] at h ⊢
    obtain ⟨b, kv, u, e, a1, a2, c0, c1, c2, hk, hx⟩ := h
    exact ⟨b, kv, u, e, by omega, by omega, hc _ _ _ a1 a2 c0, hc _ _ _ a1 a2 c1, hc _ _ _ a1 a2 c2, hk.keep hc h1 h2, Et.keep hc h1 h2 x u hx⟩
  | .inf pl s l r, v, h => by
    rw [Et] at h ⊢
    obtain ⟨b, kv, u, u', e, a1, a2, c0, c1, c2, hk, hx, hy⟩ := h
    exact ⟨b, kv, u, u', e, by omega, by omega, hc _ _ _ a1 a2 c0, hc _ _ _ a1 a2 c1, hc _ _ _ a1 a2 c2, hk.keep hc h1 h2, Et.keep hc h1 h2 l u hx, Et.keep hc h1 h2 r u' hy⟩
  | .app pl nm l, v, h => by
    rw [Et] at h ⊢
    obtain ⟨b, kv, us, e, a1, a2, c0, c1, c6, c2, hk, hx⟩ := h
    exact ⟨b, kv, us, e, by omega, by omega, hc _ _ _ a1 a2 c0, hc _ _ _ a1 a2 c1, hc _ _ _ a1 a2 c6, hc _ _ _ a1 a2 c2, hk.keep hc h1 h2, Ets.keep hc h1 h2 l us hx⟩
theorem Ets.keep {w w' : World} {lo hi lo' hi' : Nat} (hc : ∀ (b i : Nat) (u : Value), lo ≤ b → b < hi → w.cell? ⟨b, i, none⟩ = some u → w'.cell? ⟨b, i, none⟩ = some u) (h1 : lo' ≤ lo) (h2 : hi ≤ hi') : ∀ (l : List X) (us : List Value), Ets w lo hi l us → Ets w' lo' hi' l us
  | [], us, h => h
  | x :: l, us, h => by
    rw [Ets] at h ⊢
    obtain ⟨u, us', e, hx, hl⟩ := h
    exact ⟨u, us', e, Et.keep hc h1 h2 x u hx, Ets.keep hc h1 h2 l us' hl⟩
end
theorem Et.grown {w w' : World} {lo hi lo' hi' : Nat} {x : X} {v : Value} {r : Option Nat} (h : Et w lo hi x v) (hg : w.grownBy w' r) (hr : ∀ k, r = some k → k < lo ∨ hi ≤ k) (h1 : lo' ≤ lo) (h2 : hi ≤ hi') : Et w' lo' hi' x v :=
  Et.keep (fun b i u a1 a2 hcell => hg.cell hcell (fun e => by rcases hr _ e.symm with h | h <;> simp only at h <;> omega)) h1 h2 x v h
theorem Ets.grown {w w' : World} {lo hi lo' hi' : Nat} {l : List X} {us : List Value} {r : Option Nat} (h : Ets w lo hi l us) (hg : w.grownBy w' r) (hr : ∀ k, r = some k → k < lo ∨ hi ≤ k) (h1 : lo' ≤ lo) (h2 : hi ≤ hi') : Ets w' lo' hi' l us :=
  Ets.keep (fun b i u a1 a2 hcell => hg.cell hcell (fun e => by rcases hr _ e.symm with h | h <;> simp only at h <;> omega)) h1 h2 l us h
/-- What an expression is lies in its first cell. -/
theorem Et.what {w : World} {lo hi : Nat} {x : X} {v : Value} (h : Et w lo hi x v) : ∃ b S, v = ptrE b ∧ lo ≤ b ∧ b < hi ∧ w.cell? ⟨b, 0, none⟩ = some (.string S) := by
  cases x with
  | lit k n t => rw [Et] at h; obtain ⟨b, e, a1, a2, c0, _⟩ := h; exact ⟨b, _, e, a1, a2, c0⟩
  | col pl nm => rw [Et] at h; obtain ⟨b, e, a1, a2, c0, _⟩ := h; exact ⟨b, _, e, a1, a2, c0⟩
  | pre pl s x => rw [Et] at h; obtain ⟨b, kv, u, e, a1, a2, c0, _⟩ := h; exact ⟨b, _, e, a1, a2, c0⟩
  | inf pl s l r => rw [Et] at h; obtain ⟨b, kv, u, u', e, a1, a2, c0, _⟩ := h; exact ⟨b, _, e, a1, a2, c0⟩
  | app pl nm l => rw [Et] at h; obtain ⟨b, kv, us, e, a1, a2, c0, _⟩ := h; exact ⟨b, _, e, a1, a2, c0⟩

/-- A token as texts give them. -/
def Wf (t : Tk) : Prop := t.tx.size ≤ 200 ∧ ((t.kd = 1 ∧ ∃ c r, t.tx.data.toList = c :: r ∧ isLt c = true) ∨ (t.kd = 2 ∧ ∃ c r, t.tx.data.toList = c :: r ∧ isDg c = true) ∨ (t.kd = 3 ∧ ∃ r, t.tx.data.toList = 39 :: r) ∨ (t.kd = 4 ∧ t.tx ∈ sgs))
theorem Wf.notNum {t : Tk} (h : Wf t) {s : ByteArray} (hs : ∀ c r, s.data.toList = c :: r → isDg c = false ∧ c ≠ 39) (e : t.tx = s) : t.kd = 1 ∨ t.kd = 4 := by
  rcases h.2 with ⟨h, _⟩ | ⟨h, c, r, h1, h2⟩ | ⟨h, r, h1⟩ | ⟨h, _⟩
  · exact .inl h
  · rw [e] at h1; have := (hs c r h1).1; rw [h2] at this; cases this
  · rw [e] at h1; exact absurd rfl (hs 39 r h1).2
  · exact .inr h
theorem sgB_of {t : Tk} {s : ByteArray} (h : t.kd = 1 ∨ t.kd = 4) : sgB t s = decide (t.tx = s) := by
  unfold sgB
  rcases h with h | h <;> rw [h] <;> simp [srt]
/-- Signs and words are told by their texts alone. -/
theorem sgB_tx {t : Tk} (h : Wf t) {s : ByteArray} (hs : ∀ c r, s.data.toList = c :: r → isDg c = false ∧ c ≠ 39) : sgB t s = decide (t.tx = s) := by
  by_cases e : t.tx = s
  · exact sgB_of (h.notNum hs e)
  · unfold sgB; rw [decide_eq_false e]; rfl
theorem sgB_end (E : Nat) (s : ByteArray) : sgB (endT E) s = false := by unfold sgB endT; simp [srt]
def okS (s : ByteArray) : Prop := (∀ c r, s.data.toList = c :: r → isDg c = false ∧ c ≠ 39) ∧ s ≠ ⟨#[]⟩
theorem okS_of {s : ByteArray} (c : UInt8) (r : List UInt8) (h : s.data.toList = c :: r) (h1 : isDg c = false) (h2 : c ≠ 39) : okS s := by
  refine ⟨fun c' r' e => ?_, fun e => by rw [e] at h; cases h⟩
  rw [h] at e; cases e; exact ⟨h1, h2⟩
/-- What 'sign' tells of the next token. -/
theorem sg_hd {E : Nat} {ts : List Tk} (hw : ∀ t ∈ ts, Wf t) {s : ByteArray} (hs : okS s) : sgB (hd E ts) s = decide ((hd E ts).tx = s) := by
  cases ts with
  | nil => exact (sgB_end E s).trans (by rw [decide_eq_false]; exact fun e => hs.2 e.symm)
  | cons t ts => exact sgB_tx (hw t (by simp)) hs.1
theorem ok_minus : okS bMinus := okS_of 45 [] rfl (by decide) (by decide)
theorem ok_open : okS bOpen := okS_of 40 [] rfl (by decide) (by decide)
theorem ok_shut : okS bShut := okS_of 41 [] rfl (by decide) (by decide)
theorem ok_comma : okS bComma := okS_of 44 [] rfl (by decide) (by decide)
theorem ok_not : okS bNot := okS_of 110 [111, 116] rfl (by decide) (by decide)
theorem drop_cons {α : Type} {l : List α} {p : Nat} {t : α} {ts : List α} (h : l.drop p = t :: ts) : l.drop (p + 1) = ts ∧ p < l.length := by
  constructor
  · rw [← List.drop_drop, h]; rfl
  · rcases Nat.lt_or_ge p l.length with h' | h'
    · exact h'
    · rw [List.drop_eq_nil_of_le h'] at h; cases h

/-- How the document's readers end. -/
def CPost (L : ByteArray → Int → Int → ByteArray → Prop) (w : World) (g E : Nat) (tks : List Tk) (p lev r0 : Nat) (e : Ending) (w' : World) : Prop := w.grownBy w' (some g) ∧ ∃ b, e = .returned (ptrE b) ∧
  ((∃ x p', RS w' g E tks p' lev 0 0 ∧ Ps L E (.D r0) lev (tks.drop p) (.ok (x, tks.drop p')) ∧ Et w' w.heap.size w'.heap.size x (ptrE b)) ∨
   (∃ (f : Flt) (p' : Nat), f.why ≠ 0 ∧ RS w' g E tks p' lev f.why f.pl ∧ Ps L E (.D r0) lev (tks.drop p) (.error f)))
/-- How they end where something was wrong before. -/
def EPost (w : World) (g E : Nat) (tks : List Tk) (p : Nat) (lev er bad : Int) (e : Ending) (w' : World) : Prop := Below w.heap.size w w' ∧ ∃ b, e = .returned (ptrE b)
set_option maxHeartbeats 1000000 in
theorem first_err (g E p : Nat) (tks : List Tk) (lev er bad : Int) (w : World) (h : RS w g E tks p lev er bad) (he : er ≠ 0) :
    Calls Tryz.prog 75 #[.pointer (some ⟨g, 0, none⟩)] w (EPost w g E tks p lev er bad) := by
  obtain ⟨b, cap, hbg, hgl, c0, c1, c2, c3, c4, d0, d1, d2, hl⟩ := h.hd
  have hbl : b < w.heap.size := by omega
  have hp0 : (0 : Int) ≤ (p : Int) := by omega
  have q1 : (er == 0) = false := by simp [he]
  have q2 : (er != 0) = true := by simp [he]
  generalize (hd E (tks.drop p)).tx = X at *
  generalize srt (hd E (tks.drop p)).kd = K at *
  generalize (hd E (tks.drop p)).pl = PL at *
  clear h he
  go_enter Tryz.func75, Tryz.ntmps75
  go_wp2
  go_region_held3 (fun w' => w'.cell? ⟨g, 0, none⟩ = some (.slice (some ⟨b, 0, none⟩) (tks.length + 1) cap) ∧ w'.cell? ⟨g, 1, none⟩ = some (.int .i64 p) ∧ w'.cell? ⟨b, p * 3, none⟩ = some (.int .u8 K) ∧ w'.cell? ⟨b, p * 3 + 1, none⟩ = some (.string X) ∧ w'.cell? ⟨b, p * 3 + 2, none⟩ = some (.int .i64 PL)) (first | go_keep) (first | fail)
  go_wp2
  go_ret
  exact ⟨((xbel1 _ _).drew).alloc (by simp) _, _, rfl⟩
end Go.Proofs.YtplaplhmjpfbjaaGreatDoor.Dc
namespace Go.Proofs.YtplaplhmjpfbjaaGreatDoor.Dc
open Go.RowKit
set_option linter.unusedVariables false
set_option linter.unusedSimpArgs false
set_option maxRecDepth 100000

set_option maxHeartbeats 1000000 in
theorem climb_err (g E p : Nat) (tks : List Tk) (lev er bad least : Int) (w : World) (h : RS w g E tks p lev er bad) (he : er ≠ 0) :
    Calls Tryz.prog 55 #[.pointer (some ⟨g, 0, none⟩), .int .i64 least] w (EPost w g E tks p lev er bad) := by
  have HS : Hid (∀ W, Below w.heap.size w W → Calls Tryz.prog 73 #[.pointer (some ⟨g, 0, none⟩), .string bNot] W fun e w' => e = .returned (.bool false) ∧ Below W.heap.size W w') := fun W hW => by
    refine (sign_any g E p tks lev er bad bNot W (h.later hW)).mono ?_
    rintro e w' ⟨rfl, hb⟩
    exact ⟨by rw [decide_eq_false he]; rfl, hb⟩
  have HF : Hid (∀ W, Below w.heap.size w W → Calls Tryz.prog 75 #[.pointer (some ⟨g, 0, none⟩)] W (EPost W g E tks p lev er bad)) := fun W hW => first_err g E p tks lev er bad W (h.later hW) he
  have HR := hidMk h
  have q1 : (er == 0) = false := by simp [he]
  have hgl := h.lt
  clear h he
  unfold bNot at HS
  by_cases hl : least ≤ 3
  all_goals
    go_enter Tryz.func55, Tryz.ntmps55
    go_wp2_with fail
    refine (HS.out _ (by first | exact Below.refl _ _ | exact xbel1 _ _)).mono ?_
    rintro e w1 ⟨rfl, hb1⟩
    have HB1 : Hid (Below w.heap.size w w1) := by first | exact hb1 | exact (xbel1 _ _).trans (hb1.mono (by simp))
    clear hb1
    go_wp2_with fail
    refine (HF.out _ HB1.out).mono ?_
    rintro e w2 ⟨hb2, b, rfl⟩
    have HB2 : Hid (Below w.heap.size w w2) := HB1.out.trans (hb2.mono HB1.out.size)
    clear hb2
    obtain ⟨b', cap, hbg, hgl2, c0, c1, c2, c3, c4, d0, d1, d2, hl2⟩ := (HR.out.later HB2.out).hd
    clear d0 d1 d2 hl2
    unfold ptrE
    go_wp2_with fail
    refine wp_loop_rounds 1 ?_
    rw [rounds_succ]
    go_wp2
    go_ret
    exact ⟨HB2.out, _, rfl⟩

end Go.Proofs.YtplaplhmjpfbjaaGreatDoor.Dc
namespace Go.Proofs.YtplaplhmjpfbjaaGreatDoor.Dc
open Go.RowKit
set_option linter.unusedVariables false
set_option linter.unusedSimpArgs false
set_option maxRecDepth 100000


/-- What the document's readers do further on. -/
def FirstOk (L : ByteArray → Int → Int → ByteArray → Prop) (g E : Nat) (tks : List Tk) (p0 : Nat) : Prop := ∀ (p lev : Nat) (W : World), p0 < p → p ≤ tks.length → lev ≤ 12 → RS W g E tks p lev 0 0 → Calls Tryz.prog 75 #[.pointer (some ⟨g, 0, none⟩)] W (CPost L W g E tks p lev 6)
def ClimbOk (L : ByteArray → Int → Int → ByteArray → Prop) (g E : Nat) (tks : List Tk) (p0 : Nat) : Prop := ∀ (p lev r0 : Nat) (least : Int) (W : World), p0 < p → p ≤ tks.length → lev ≤ 12 → r0 ≤ 6 → (least = (r0 : Int) + 1 ∨ (least = 0 ∧ r0 = 0)) → RS W g E tks p lev 0 0 → Calls Tryz.prog 55 #[.pointer (some ⟨g, 0, none⟩), .int .i64 least] W (CPost L W g E tks p lev r0)
theorem RS.few {w : World} {g E p : Nat} {tks : List Tk} {lev er bad : Int} (h : RS w g E tks p lev er bad) : tks.length ≤ 200 := by obtain ⟨_, _, _, _, _, h, _⟩ := h; exact h
theorem RS.place {w : World} {g E p : Nat} {tks : List Tk} {lev er bad : Int} (h : RS w g E tks p lev er bad) : p ≤ tks.length := by obtain ⟨_, _, _, _, _, _, h⟩ := h; exact h
/-- A token of its own. -/
def OTk (w : World) (n : Nat) (K : Int) (X : ByteArray) (PL : Nat) : Prop := Own w n 106 3 [.int .u8 K, .string X, .int .i64 PL]
theorem OTk.new (w : World) (K : Int) (X : ByteArray) (PL : Nat) : OTk (w.alloc (.cells #[.int .u8 K, .string X, .int .i64 PL] 106)).drew w.heap.size K X PL := (Own.new w 106 3 #[.int .u8 K, .string X, .int .i64 PL] rfl).later (Below.refl _ _).drew
theorem OTk.cells {w : World} {n : Nat} {K : Int} {X : ByteArray} {PL : Nat} (h : OTk w n K X PL) : w.cell? ⟨n, 0, none⟩ = some (.int .u8 K) ∧ w.cell? ⟨n, 1, none⟩ = some (.string X) ∧ w.cell? ⟨n, 2, none⟩ = some (.int .i64 PL) ∧ n < w.heap.size := by
  refine ⟨?_, ?_, ?_, Own.lt h⟩
  · rw [Own.cell h 0 (by decide)]; rfl
  · rw [Own.cell h 1 (by decide)]; rfl
  · rw [Own.cell h 2 (by decide)]; rfl
theorem RS.f {w : World} {g E p : Nat} {tks : List Tk} {lev er bad : Int} (h : RS w g E tks p lev er bad) : w.cell? ⟨g, 1, none⟩ = some (.int .i64 p) ∧ w.cell? ⟨g, 2, none⟩ = some (.int .i64 lev) ∧ w.cell? ⟨g, 3, none⟩ = some (.int .i64 er) ∧ w.frozen? ⟨g, 1, none⟩ = false ∧ w.frozen? ⟨g, 2, none⟩ = false ∧ g < w.heap.size := by
  obtain ⟨b, cap, hbg, hgl, c0, c1, c2, c3, c4, _⟩ := h.hd
  exact ⟨c1, c2, c3, h.soft 1, h.soft 2, hgl⟩

/-- What comes of reading behind a sign ahead. -/
def PreOut (L : ByteArray → Int → Int → ByteArray → Prop) (w4 : World) (lo E : Nat) (tks : List Tk) (p p4 lev r PL kb : Nat) (er bad : Int) : Prop :=
  (lev = 12 ∧ er = 4 ∧ bad = PL) ∨ (lev ≠ 12 ∧ er = 0 ∧ bad = 0 ∧ ∃ x, Ps L E (.D r) (lev + 1) (tks.drop (p + 1)) (.ok (x, tks.drop p4)) ∧ Et w4 lo w4.heap.size x (ptrE kb)) ∨ (lev ≠ 12 ∧ ∃ f : Flt, f.why ≠ 0 ∧ er = f.why ∧ bad = f.pl ∧ Ps L E (.D r) (lev + 1) (tks.drop (p + 1)) (.error f))
theorem pre_fin {L : ByteArray → Int → Int → ByteArray → Prop} {w w4 W : World} {lo g E p p4 lev r PL K kb eb sb : Nat} {tks ts : List Tk} {X : ByteArray} {er bad : Int} (ho : PreOut L w4 lo E tks p p4 lev r PL kb er bad) (hpr : pr r X) (ht : tks.drop p = ⟨PL, K, X⟩ :: ts) (ht1 : tks.drop (p + 1) = ts)
    (hg : w.grownBy W (some g)) (hR : RS W g E tks p4 lev er bad) (hlo : w.heap.size ≤ lo) (h4 : w4.heap.size ≤ W.heap.size) (hk : ∀ (b i : Nat) (u : Value), lo ≤ b → b < w4.heap.size → w4.cell? ⟨b, i, none⟩ = some u → W.cell? ⟨b, i, none⟩ = some u)
    (he0 : w.heap.size ≤ eb) (he1 : eb < W.heap.size) (hs0 : w.heap.size ≤ sb) (hs1 : sb < W.heap.size) (c0 : W.cell? ⟨eb, 0, none⟩ = some (.string (wPre X))) (c1 : W.cell? ⟨eb, 1, none⟩ = some (.int .i64 PL)) (c2 : W.cell? ⟨eb, 2, none⟩ = some (.slice (some ⟨sb, 0, none⟩) 1 1)) (ck : W.cell? ⟨sb, 0, none⟩ = some (ptrE kb)) :
    CPost L w g E tks p lev r (.returned (ptrE eb)) W := by
  refine ⟨hg, eb, rfl, ?_⟩
  rcases ho with ⟨h1, h2, h3⟩ | ⟨h1, h2, h3, x, h4', h5⟩ | ⟨h1, f, h2, h3, h4', h5⟩
  · refine .inr ⟨⟨PL, 4⟩, p4, by simp, ?_, ?_⟩
    · rw [h2, h3] at hR; exact hR
    · rw [ht, h1]; exact .pdeep hpr rfl
  · refine .inl ⟨.pre PL X x, p4, ?_, ?_, ?_⟩
    · rw [h2, h3] at hR; exact hR
    · rw [ht]; rw [ht1] at h4'; exact .pok (t := ⟨PL, K, X⟩) hpr rfl h1 h4'
    · rw [Et]
      have hka : KAt W w.heap.size W.heap.size (.slice (some ⟨sb, 0, none⟩) 1 1) [ptrE kb] := by
        refine ⟨some ⟨sb, 0, none⟩, 1, rfl, fun i hi => ?_⟩
        obtain rfl : i = 0 := by simp at hi; exact hi
        exact ⟨sb, rfl, hs0, hs1, ck⟩
      exact ⟨eb, _, ptrE kb, rfl, he0, he1, c0, c1, c2, hka, Et.keep hk hlo h4 x _ h5⟩
  · refine .inr ⟨f, p4, h2, ?_, ?_⟩
    · rw [h3, h4'] at hR; exact hR
    · rw [ht]; rw [ht1] at h5; exact .pbad (t := ⟨PL, K, X⟩) hpr rfl h1 h5
theorem wPre_minus : wPre bMinus = bMinusW := by decide +kernel
theorem keepG {w W : World} {g lo hi : Nat} (hg : w.grownBy W (some g)) (hlo : g < lo) : ∀ (b i : Nat) (u : Value), lo ≤ b → b < hi → w.cell? ⟨b, i, none⟩ = some u → W.cell? ⟨b, i, none⟩ = some u := fun b i u h1 h2 h3 => hg.cell h3 (fun e => by simp at e; omega)
set_option maxHeartbeats 8000000 in
theorem first_minus {L : ByteArray → Int → Int → ByteArray → Prop} (g E p lev : Nat) (tks : List Tk) (t : Tk) (ts : List Tk) (w : World) (h : RS w g E tks p lev 0 0) (hlev : lev ≤ 12) (hw : ∀ t ∈ tks, Wf t) (ht : tks.drop p = t :: ts) (htx : t.tx = bMinus) (ih : FirstOk L g E tks p) :
    Calls Tryz.prog 75 #[.pointer (some ⟨g, 0, none⟩)] w (CPost L w g E tks p lev 6) := by
  have hwt : ∀ t' ∈ tks.drop p, Wf t' := fun t' h' => hw t' (List.mem_of_mem_drop h')
  have HS : Hid (∀ W, Below w.heap.size w W → Calls Tryz.prog 73 #[.pointer (some ⟨g, 0, none⟩), .string bMinus] W fun e w' => e = .returned (.bool true) ∧ Below W.heap.size W w') := fun W hW => by
    refine (sign_any g E p tks lev 0 0 bMinus W (h.later hW)).mono ?_
    rintro e w' ⟨rfl, hb⟩
    refine ⟨?_, hb⟩
    rw [sg_hd hwt ok_minus, ht]
    simp [hd, htx]
  obtain ⟨b, cap, hbg, hgl, c0, c1, c2, c3, c4, d0, d1, d2, hl⟩ := h.hd
  obtain ⟨ht1, hpl⟩ := drop_cons ht
  rw [ht] at d0 d1 d2
  simp only [hd] at d0 d1 d2
  have HR := hidMk h
  have HIH := hidMk ih
  have hbl : b < w.heap.size := by omega
  have hp0 : (0 : Int) ≤ (p : Int) := by omega
  have HT := hidMk ht
  have HT1 := hidMk ht1
  have HX := hidMk htx
  have hl200 := h.few
  clear h ih ht ht1 htx hwt hw
  obtain ⟨PL, K, X⟩ := t
  simp only at *
  generalize srt K = KK at *
  unfold bMinus at HS
  go_enter Tryz.func75, Tryz.ntmps75
  go_wp2
  go_region_held3 (fun w' => w'.cell? ⟨g, 0, none⟩ = some (.slice (some ⟨b, 0, none⟩) (tks.length + 1) cap) ∧ w'.cell? ⟨g, 1, none⟩ = some (.int .i64 p) ∧ w'.cell? ⟨b, p * 3, none⟩ = some (.int .u8 KK) ∧ w'.cell? ⟨b, p * 3 + 1, none⟩ = some (.string X) ∧ w'.cell? ⟨b, p * 3 + 2, none⟩ = some (.int .i64 PL)) (first | go_keep) (first | fail)
  clear c0 c1 c2 c4 d0 d1 d2
  go_wp2_with fail
  refine (HS.out _ (xbel1 _ _).drew).mono ?_
  rintro e w1 ⟨rfl, hb1⟩
  have HB1 : Hid (Below w.heap.size w w1) := (xbel1 _ _).drew.trans (hb1.mono (by simp))
  have HTo1 : Hid (OTk w1 w.heap.size KK X PL) := (OTk.new w KK X PL).later hb1
  have HR1 : Hid (RS w1 g E tks p lev 0 0) := HR.out.later HB1.out
  clear hb1 HS HR
  go_wp2_with fail
  refine (in_any g E p lev tks 0 0 w1 HR1.out hlev).mono ?_
  rintro e w2 ⟨rfl, hg2, hr2⟩
  have HG2 : Hid (w.grownBy w2 (some g)) := xgTrans (xgBelow HB1.out) hg2
  have HTo2 : Hid (OTk w2 w.heap.size KK X PL) := Own.grown HTo1.out hg2 (by simp; omega)
  clear hg2 HTo1 HR1 HB1
  have hN2 : w.heap.size ≤ w2.heap.size := HG2.out.size
  have KEY : Hid (∃ er2 bad2 : Int, RS w2 g E tks p (lev + 1 : Nat) er2 bad2 ∧ ∀ W, RS W g E tks (p + 1) (lev + 1 : Nat) er2 bad2 → W.heap.size = w2.heap.size → Calls Tryz.prog 75 #[.pointer (some ⟨g, 0, none⟩)] W fun e w' => W.grownBy w' (some g) ∧ ∃ kb p4 er bad, e = .returned (ptrE kb) ∧ RS w' g E tks p4 (lev + 1 : Nat) er bad ∧ PreOut L w' w2.heap.size E tks p p4 lev 6 PL kb er bad) := by
    by_cases q : lev = 12
    · rw [if_pos q] at hr2
      have hd1 : (hd E (tks.drop p)).pl = PL := by rw [HT.out]; rfl
      rw [hd1] at hr2
      refine ⟨4, PL, hr2, fun W hW hsz => ?_⟩
      refine (first_err g E (p + 1) tks _ 4 PL W hW (by decide)).mono ?_
      rintro e w' ⟨hb, kb, rfl⟩
      exact ⟨xgBelow hb, kb, p + 1, 4, PL, rfl, hW.later hb, .inl ⟨q, rfl, rfl⟩⟩
    · rw [if_neg q] at hr2
      refine ⟨0, 0, hr2, fun W hW hsz => ?_⟩
      refine (HIH.out (p + 1) (lev + 1) W (by omega) (by omega) (by omega) hW).mono ?_
      rintro e w' ⟨hg, kb, rfl, ⟨x, p4, h1, h2, h3⟩ | ⟨f, p4, h1, h2, h3⟩⟩
      · exact ⟨hg, kb, p4, 0, 0, rfl, h1, .inr (.inl ⟨q, rfl, rfl, x, h2, by rw [← hsz]; exact h3⟩)⟩
      · exact ⟨hg, kb, p4, _, _, rfl, h2, .inr (.inr ⟨q, f, h1, rfl, rfl, h3⟩)⟩
  clear hr2 HIH
  obtain ⟨er2, bad2, hr2, hcall⟩ := KEY.out
  have HCALL := hidMk hcall
  clear KEY hcall
  obtain ⟨a1, a2, a3, f1, f2, hgl2⟩ := hr2.f
  have HR3 : Hid (RS (w2.setCell ⟨g, 1, none⟩ (.int .i64 ((p + 1 : Nat) : Int))) g E tks (p + 1) (lev + 1 : Nat) er2 bad2) := hr2.put1 (by omega)
  have HG3 : Hid (w.grownBy (w2.setCell ⟨g, 1, none⟩ (.int .i64 ((p + 1 : Nat) : Int))) (some g)) := xgTrans HG2.out (xgSet _ _ _)
  have HTo3 : Hid (OTk (w2.setCell ⟨g, 1, none⟩ (.int .i64 ((p + 1 : Nat) : Int))) w.heap.size KK X PL) := Own.grown HTo2.out (xgSet _ _ _) (by simp; omega)
  clear hr2 HG2 HTo2
  rw [show ((p + 1 : Nat) : Int) = (p : Int) + 1 by omega] at HR3 HG3 HTo3
  go_wp2_with fail
  refine (HCALL.out _ HR3.out (by simp)).mono ?_
  rintro e w4 ⟨hg4, kb, p4, er, bad, rfl, hr4, hout⟩
  have HOUT := hidMk hout
  have HG4 : Hid (w.grownBy w4 (some g)) := xgTrans HG3.out hg4
  have HTo4 : Hid (OTk w4 w.heap.size KK X PL) := Own.grown HTo3.out hg4 (by simp; omega)
  have hN4 : w2.heap.size ≤ w4.heap.size := by have := hg4.size; simpa using this
  clear hout hg4 HTo3 HR3 HCALL a1 a2 a3 f1 f2
  obtain ⟨a1, a2, a3, f1, f2, hgl4⟩ := hr4.f
  obtain ⟨t0, t1, t2, htl⟩ := HTo4.out.cells
  have HR5 : Hid (RS (w4.setCell ⟨g, 2, none⟩ (.int .i64 (lev : Int))) g E tks p4 lev er bad) := hr4.put2
  have HG5 : Hid (w.grownBy (w4.setCell ⟨g, 2, none⟩ (.int .i64 (lev : Int))) (some g)) := xgTrans HG4.out (xgSet _ _ _)
  have HK5 : Hid (w4.grownBy (w4.setCell ⟨g, 2, none⟩ (.int .i64 (lev : Int))) (some g)) := xgSet _ _ _
  have hgw : ¬ w.heap.size = g := by omega
  clear hr4
  unfold ptrE
  go_wp2_with fail
  go_ret
  have hB6 : Below (w4.setCell ⟨g, 2, none⟩ (.int .i64 (lev : Int))).heap.size (w4.setCell ⟨g, 2, none⟩ (.int .i64 (lev : Int))) (((w4.setCell ⟨g, 2, none⟩ (.int .i64 (lev : Int))).alloc (.cells #[.pointer (some ⟨kb, 0, none⟩)] 48)).alloc (.cells #[.string ⟨#[109, 105, 110, 117, 115]⟩, .int .i64 PL, .slice (some ⟨w4.heap.size, 0, none⟩) 1 1, .int .i64 0, .int .i64 0, .string ⟨#[]⟩, .string ⟨#[]⟩] 112)) := (xbel1 _ _).alloc (by simp) _
  refine pre_fin (sb := w4.heap.size) (eb := w4.heap.size + 1) HOUT.out (.inr ⟨rfl, HX.out⟩) HT.out HT1.out (xgTrans HG5.out (xgBelow hB6)) (HR5.out.later hB6) hN2 (by simp; omega) (keepG (xgTrans HK5.out (xgBelow hB6)) hgl2) (by omega) (by simp) (by omega) (by simp; omega) ?_ ?_ ?_ ?_
  · rw [HX.out, wPre_minus]; unfold bMinusW; go_simp
  · go_simp
  · go_simp
  · unfold ptrE; go_simp
end Go.Proofs.YtplaplhmjpfbjaaGreatDoor.Dc
namespace Go.Proofs.YtplaplhmjpfbjaaGreatDoor.Dc
open Go.RowKit
set_option linter.unusedVariables false
set_option linter.unusedSimpArgs false
set_option maxRecDepth 100000

theorem notLit_of {t : Tk} (h : Wf t) {s : ByteArray} (hs : okS s) (e : t.tx = s) (h1 : s ≠ bTrue) (h2 : s ≠ bFalse) : ¬ isLit t := by
  rintro (h' | h' | h' | h')
  · rcases h.notNum hs.1 e with h3 | h3 <;> omega
  · rcases h.notNum hs.1 e with h3 | h3 <;> omega
  · exact h1 (e.symm.trans h')
  · exact h2 (e.symm.trans h')
theorem open_fin {L : ByteArray → Int → Int → ByteArray → Prop} {w w4 W : World} {lo g E p p4 lev PL K kb : Nat} {tks ts : List Tk} {X : ByteArray} {er bad : Int} (ho : PreOut L w4 lo E tks p p4 lev 0 PL kb er bad) (ht : tks.drop p = ⟨PL, K, X⟩ :: ts) (ht1 : tks.drop (p + 1) = ts) (hX : X = bOpen) (hw : ∀ t ∈ tks, Wf t)
    (hg : w.grownBy W (some g)) (hR : if er = 0 ∧ sgB (hd E (tks.drop p4)) bShut = true then RS W g E tks (p4 + 1) lev er bad else RS W g E tks p4 lev (orE er 1) (orB er bad (hd E (tks.drop p4)).pl)) (hlo : w.heap.size ≤ lo) (h4 : w4.heap.size ≤ W.heap.size) (hk : ∀ (b i : Nat) (u : Value), lo ≤ b → b < w4.heap.size → w4.cell? ⟨b, i, none⟩ = some u → W.cell? ⟨b, i, none⟩ = some u) :
    CPost L w g E tks p lev 6 (.returned (ptrE kb)) W := by
  have hwt : Wf ⟨PL, K, X⟩ := hw _ (List.mem_of_mem_drop (by rw [ht]; simp))
  have hnl : ¬ isLit ⟨PL, K, X⟩ := notLit_of hwt ok_open hX (by decide) (by decide)
  have hnm : (hd E (tks.drop p)).tx ≠ bMinus := by rw [ht]; simp only [hd]; rw [hX]; decide
  have hw4 : ∀ t' ∈ tks.drop p4, Wf t' := fun t' h' => hw t' (List.mem_of_mem_drop h')
  refine ⟨hg, kb, rfl, ?_⟩
  rcases ho with ⟨h1, h2, h3⟩ | ⟨h1, h2, h3, x, h4', h5⟩ | ⟨h1, f, h2, h3, h4', h5⟩
  · rw [if_neg (by rw [h2]; simp)] at hR
    refine .inr ⟨⟨PL, 4⟩, p4, by simp, ?_, .pnone (.inr ⟨rfl, rfl⟩) hnm ?_⟩
    · rw [h2, h3] at hR; exact hR
    · rw [ht, h1]; exact .odeep hnl hX
  · rw [h2, h3] at hR
    by_cases hc : sgB (hd E (tks.drop p4)) bShut = true
    · rw [if_pos ⟨rfl, hc⟩] at hR
      rw [sg_hd hw4 ok_shut] at hc
      have hc' : (hd E (tks.drop p4)).tx = bShut := of_decide_eq_true hc
      cases hd4 : tks.drop p4 with
      | nil => rw [hd4] at hc'; exact absurd hc' (by simp only [hd]; decide)
      | cons t1 ts1 =>
        rw [hd4] at hc'
        have h6 := (drop_cons hd4).1
        refine .inl ⟨x, p4 + 1, hR, .pnone (.inr ⟨rfl, rfl⟩) hnm ?_, Et.keep hk hlo h4 x _ h5⟩
        rw [ht, h6]
        rw [ht1, hd4] at h4'
        exact .ook hnl hX h1 h4' hc'
    · rw [if_neg (fun h => hc h.2)] at hR
      refine .inr ⟨⟨(hd E (tks.drop p4)).pl, 1⟩, p4, by simp, hR, .pnone (.inr ⟨rfl, rfl⟩) hnm ?_⟩
      rw [ht]
      rw [ht1] at h4'
      refine .oopen hnl hX h1 h4' (fun e => hc ?_)
      rw [sg_hd hw4 ok_shut]; exact decide_eq_true e
  · have h3' : er ≠ 0 := by omega
    rw [if_neg (fun h => h3' h.1)] at hR
    unfold orE orB at hR
    rw [if_neg h3', if_neg h3', h3, h4'] at hR
    refine .inr ⟨f, p4, h2, hR, .pnone (.inr ⟨rfl, rfl⟩) hnm ?_⟩
    rw [ht]
    rw [ht1] at h5
    exact .obad hnl hX h1 h5
set_option maxHeartbeats 8000000 in
theorem first_open {L : ByteArray → Int → Int → ByteArray → Prop} (g E p lev : Nat) (tks : List Tk) (t : Tk) (ts : List Tk) (w : World) (h : RS w g E tks p lev 0 0) (hlev : lev ≤ 12) (hw : ∀ t ∈ tks, Wf t) (ht : tks.drop p = t :: ts) (htx : t.tx = bOpen) (ih : ClimbOk L g E tks p) :
    Calls Tryz.prog 75 #[.pointer (some ⟨g, 0, none⟩)] w (CPost L w g E tks p lev 6) := by
  have hwt : ∀ t' ∈ tks.drop p, Wf t' := fun t' h' => hw t' (List.mem_of_mem_drop h')
  have HSm : Hid (∀ W, Below w.heap.size w W → Calls Tryz.prog 73 #[.pointer (some ⟨g, 0, none⟩), .string bMinus] W fun e w' => e = .returned (.bool false) ∧ Below W.heap.size W w') := fun W hW => by
    refine (sign_any g E p tks lev 0 0 bMinus W (h.later hW)).mono ?_
    rintro e w' ⟨rfl, hb⟩
    refine ⟨?_, hb⟩
    rw [sg_hd hwt ok_minus, ht]
    simp only [hd]
    have hne : ¬ t.tx = bMinus := by rw [htx]; decide
    simp [hne]
  have HSo : Hid (∀ W, Below w.heap.size w W → Calls Tryz.prog 73 #[.pointer (some ⟨g, 0, none⟩), .string bOpen] W fun e w' => e = .returned (.bool true) ∧ Below W.heap.size W w') := fun W hW => by
    refine (sign_any g E p tks lev 0 0 bOpen W (h.later hW)).mono ?_
    rintro e w' ⟨rfl, hb⟩
    refine ⟨?_, hb⟩
    rw [sg_hd hwt ok_open, ht]
    simp only [hd]
    simp [htx]
  obtain ⟨b, cap, hbg, hgl, c0, c1, c2, c3, c4, d0, d1, d2, hl⟩ := h.hd
  obtain ⟨ht1, hpl⟩ := drop_cons ht
  rw [ht] at d0 d1 d2
  simp only [hd] at d0 d1 d2
  have HR := hidMk h
  have HWF := hidMk hw
  have hbl : b < w.heap.size := by omega
  have hp0 : (0 : Int) ≤ (p : Int) := by omega
  have HT := hidMk ht
  have HT1 := hidMk ht1
  have hl200 := h.few
  clear h ht ht1 hwt hw
  have HX := hidMk htx
  have HIH := hidMk ih
  clear htx ih
  obtain ⟨PL, K, X⟩ := t
  simp only at *
  generalize srt K = KK at *
  unfold bMinus at HSm
  unfold bOpen at HSo
  go_enter Tryz.func75, Tryz.ntmps75
  go_wp2
  go_region_held3 (fun w' => w'.cell? ⟨g, 0, none⟩ = some (.slice (some ⟨b, 0, none⟩) (tks.length + 1) cap) ∧ w'.cell? ⟨g, 1, none⟩ = some (.int .i64 p) ∧ w'.cell? ⟨b, p * 3, none⟩ = some (.int .u8 KK) ∧ w'.cell? ⟨b, p * 3 + 1, none⟩ = some (.string X) ∧ w'.cell? ⟨b, p * 3 + 2, none⟩ = some (.int .i64 PL)) (first | go_keep) (first | fail)
  clear c0 c1 c2 c4 d0 d1 d2
  go_wp2_with fail
  refine (HSm.out _ (xbel1 _ _).drew).mono ?_
  rintro e w0 ⟨rfl, hb0⟩
  have HB0 : Hid (Below w.heap.size w w0) := (xbel1 _ _).drew.trans (hb0.mono (by simp))
  have HTo0 : Hid (OTk w0 w.heap.size KK X PL) := (OTk.new w KK X PL).later hb0
  clear hb0 HSm
  go_wp2_with fail
  refine (HSo.out _ HB0.out).mono ?_
  rintro e w1 ⟨rfl, hb1⟩
  have HB1 : Hid (Below w.heap.size w w1) := HB0.out.trans (hb1.mono HB0.out.size)
  have HTo1 : Hid (OTk w1 w.heap.size KK X PL) := Own.later HTo0.out hb1
  have HR1 : Hid (RS w1 g E tks p lev 0 0) := HR.out.later HB1.out
  clear hb1 HSo HR HB0 HTo0
  go_wp2_with fail
  refine (in_any g E p lev tks 0 0 w1 HR1.out hlev).mono ?_
  rintro e w2 ⟨rfl, hg2, hr2⟩
  have HG2 : Hid (w.grownBy w2 (some g)) := xgTrans (xgBelow HB1.out) hg2
  clear hg2 HTo1 HR1 HB1
  have hN2 : w.heap.size ≤ w2.heap.size := HG2.out.size
  have KEY : Hid (∃ er2 bad2 : Int, RS w2 g E tks p (lev + 1 : Nat) er2 bad2 ∧ ∀ W, RS W g E tks (p + 1) (lev + 1 : Nat) er2 bad2 → W.heap.size = w2.heap.size → Calls Tryz.prog 55 #[.pointer (some ⟨g, 0, none⟩), .int .i64 0] W fun e w' => W.grownBy w' (some g) ∧ ∃ kb p4 er bad, e = .returned (ptrE kb) ∧ RS w' g E tks p4 (lev + 1 : Nat) er bad ∧ PreOut L w' w2.heap.size E tks p p4 lev 0 PL kb er bad) := by
    by_cases q : lev = 12
    · rw [if_pos q] at hr2
      have hd1 : (hd E (tks.drop p)).pl = PL := by rw [HT.out]; rfl
      rw [hd1] at hr2
      refine ⟨4, PL, hr2, fun W hW hsz => ?_⟩
      refine (climb_err g E (p + 1) tks _ 4 PL 0 W hW (by decide)).mono ?_
      rintro e w' ⟨hb, kb, rfl⟩
      exact ⟨xgBelow hb, kb, p + 1, 4, PL, rfl, hW.later hb, .inl ⟨q, rfl, rfl⟩⟩
    · rw [if_neg q] at hr2
      refine ⟨0, 0, hr2, fun W hW hsz => ?_⟩
      refine (HIH.out (p + 1) (lev + 1) 0 0 W (by omega) (by omega) (by omega) (by omega) (.inr ⟨rfl, rfl⟩) hW).mono ?_
      rintro e w' ⟨hg, kb, rfl, ⟨x, p4, h1, h2, h3⟩ | ⟨f, p4, h1, h2, h3⟩⟩
      · exact ⟨hg, kb, p4, 0, 0, rfl, h1, .inr (.inl ⟨q, rfl, rfl, x, h2, by rw [← hsz]; exact h3⟩)⟩
      · exact ⟨hg, kb, p4, _, _, rfl, h2, .inr (.inr ⟨q, f, h1, rfl, rfl, h3⟩)⟩
  clear hr2 HIH
  obtain ⟨er2, bad2, hr2, hcall⟩ := KEY.out
  have HCALL := hidMk hcall
  clear KEY hcall
  obtain ⟨a1, a2, a3, f1, f2, hgl2⟩ := hr2.f
  have HR3 : Hid (RS (w2.setCell ⟨g, 1, none⟩ (.int .i64 ((p + 1 : Nat) : Int))) g E tks (p + 1) (lev + 1 : Nat) er2 bad2) := hr2.put1 (by omega)
  have HG3 : Hid (w.grownBy (w2.setCell ⟨g, 1, none⟩ (.int .i64 ((p + 1 : Nat) : Int))) (some g)) := xgTrans HG2.out (xgSet _ _ _)
  clear hr2 HG2
  rw [show ((p + 1 : Nat) : Int) = (p : Int) + 1 by omega] at HR3 HG3
  go_wp2_with fail
  refine (HCALL.out _ HR3.out (by simp)).mono ?_
  rintro e w4 ⟨hg4, kb, p4, er, bad, rfl, hr4, hout⟩
  have HOUT := hidMk hout
  have HG4 : Hid (w.grownBy w4 (some g)) := xgTrans HG3.out hg4
  have hN4 : w2.heap.size ≤ w4.heap.size := by have := hg4.size; simpa using this
  have HR4 := hidMk hr4
  clear hout hg4 HR3 HCALL a1 a2 a3 f1 f2 hr4
  unfold ptrE
  go_wp2_with fail
  refine (close_any g E p4 tks _ er bad w4 HR4.out (fun hc => by
    rw [sg_hd (fun t' h' => HWF.out t' (List.mem_of_mem_drop h')) ok_shut] at hc
    have hc' : (hd E (tks.drop p4)).tx = bShut := of_decide_eq_true hc
    cases hd4 : tks.drop p4 with
    | nil => rw [hd4] at hc'; exact absurd hc' (by simp only [hd]; decide)
    | cons t1 ts1 => exact (drop_cons hd4).2)).mono ?_
  rintro e w5 ⟨rfl, hg5, hr5⟩
  have HG5 : Hid (w.grownBy w5 (some g)) := xgTrans HG4.out hg5
  have HK5 := hidMk hg5
  have hN5 : w4.heap.size ≤ w5.heap.size := hg5.size
  have KEY2 : Hid (∃ p5 er5 bad5, RS w5 g E tks p5 (lev + 1 : Nat) er5 bad5 ∧ ∀ W, RS W g E tks p5 (lev : Nat) er5 bad5 → if er = 0 ∧ sgB (hd E (tks.drop p4)) bShut = true then RS W g E tks (p4 + 1) lev er bad else RS W g E tks p4 lev (orE er 1) (orB er bad (hd E (tks.drop p4)).pl)) := by
    by_cases hc : er = 0 ∧ sgB (hd E (tks.drop p4)) bShut = true
    · rw [if_pos hc] at hr5
      exact ⟨_, _, _, hr5, fun W hW => by rw [if_pos hc]; exact hW⟩
    · rw [if_neg hc] at hr5
      exact ⟨_, _, _, hr5, fun W hW => by rw [if_neg hc]; exact hW⟩
  clear hr5 hg5 HR4 HG4
  obtain ⟨p5, er5, bad5, hr5, hback⟩ := KEY2.out
  have HBK := hidMk hback
  clear KEY2 hback
  obtain ⟨a1, a2, a3, f1, f2, hgl5⟩ := hr5.f
  have HR6 : Hid (RS (w5.setCell ⟨g, 2, none⟩ (.int .i64 (lev : Int))) g E tks p5 lev er5 bad5) := hr5.put2
  have HG6 : Hid (w.grownBy (w5.setCell ⟨g, 2, none⟩ (.int .i64 (lev : Int))) (some g)) := xgTrans HG5.out (xgSet _ _ _)
  have HK6 : Hid (w4.grownBy (w5.setCell ⟨g, 2, none⟩ (.int .i64 (lev : Int))) (some g)) := xgTrans HK5.out (xgSet _ _ _)
  clear hr5
  go_wp2_with fail
  go_ret
  exact open_fin HOUT.out HT.out HT1.out HX.out HWF.out HG6.out (HBK.out _ HR6.out) hN2 (by simp; omega) (keepG HK6.out hgl2)
end Go.Proofs.YtplaplhmjpfbjaaGreatDoor.Dc
