import Derived.Test.YtplaplhmjpfbjaaGreatDoorDrL
import Derived.Test.YtplaplhmjpfbjaaGreatDoorDrK
import Derived.Test.YtplaplhmjpfbjaaGreatDoorDb1
import Derived.Deep.LoopGhost
namespace Go.Proofs.YtplaplhmjpfbjaaGreatDoor.Dc
open Go.RowKit
set_option linter.unusedVariables false
set_option linter.unusedSimpArgs false
set_option maxRecDepth 100000

theorem sgs_notLit : ∀ s ∈ sgs, s ≠ bTrue ∧ s ≠ bFalse := by decide +kernel
theorem first_any {L : ByteArray → Int → Int → ByteArray → Prop} (hD : DRd L) (hT : ∃ k n s, L bTrue k n s) (hF : ∃ k n s, L bFalse k n s) (g E p lev : Nat) (tks : List Tk) (w : World) (h : RS w g E tks p lev 0 0) (hlev : lev ≤ 12) (hw : ∀ t ∈ tks, Wf t) (ihF : FirstOk L g E tks p) (ihC : ClimbOk L g E tks p) :
    Calls Tryz.prog 75 #[.pointer (some ⟨g, 0, none⟩)] w (CPost L w g E tks p lev 6) := by
  cases ht : tks.drop p with
  | nil =>
    refine first_none0 g E p lev tks (endT E) w h hw (by rw [ht]; rfl) rfl (by simp only [endT]; decide) (by simp only [endT]; decide) ?_
    rw [ht]
    exact .none (by unfold isLit; simp only [hd]; decide) (by simp only [hd]; decide) (by simp only [hd]; omega)
  | cons t ts =>
    have hm : t ∈ tks := List.mem_of_mem_drop (by rw [ht]; simp)
    have hh : hd E (tks.drop p) = t := by rw [ht]; rfl
    obtain ⟨ht1, hpl⟩ := drop_cons ht
    by_cases hmi : t.tx = bMinus
    · exact first_minus g E p lev tks t ts w h hlev hw ht hmi ihF
    by_cases hop : t.tx = bOpen
    · exact first_open g E p lev tks t ts w h hlev hw ht hop ihC
    have hwf := hw t hm
    by_cases hl : isLit t
    · rcases hwf.2 with ⟨hk, _⟩ | ⟨hk, _⟩ | ⟨hk, _⟩ | ⟨hk, hs⟩
      · have hx : t.tx = bTrue ∨ t.tx = bFalse := by
          rcases hl with h' | h' | h' | h'
          · omega
          · omega
          · exact .inl h'
          · exact .inr h'
        rcases hx with hx | hx
        · exact first_true hD hT g E p lev tks t ts w h hw ht hk hl hx hmi hop
        · exact first_false hD hF g E p lev tks t ts w h hw ht hk hl hx hmi hop
      · exact first_lit2 hD g E p lev tks t ts w h hw ht hk hl hmi hop
      · exact first_lit3 hD g E p lev tks t ts w h hw ht hk hl hmi hop
      · exfalso
        have := sgs_notLit _ hs
        rcases hl with h' | h' | h' | h'
        · omega
        · omega
        · exact this.1 h'
        · exact this.2 h'
    · have hnT : t.tx ≠ bTrue := fun e => hl (.inr (.inr (.inl e)))
      have hnF : t.tx ≠ bFalse := fun e => hl (.inr (.inr (.inr e)))
      rcases hwf.2 with ⟨hk, _⟩ | ⟨hk, _⟩ | ⟨hk, _⟩ | ⟨hk, hs⟩
      · by_cases hr : res t.tx
        · refine first_none1 g E p lev tks t w h hw hh hk hnT hnF hr hmi hop ?_
          rw [ht]
          exact .none (ts := t :: ts) hl hop (fun h' => h'.2 hr)
        · by_cases hz : 12 < t.tx.size
          · refine first_long g E p lev tks t w h hw hh hpl hk hnT hnF hr hz hmi hop ?_
            rw [ht]
            exact .nlong hl hop hk hr hz
          · by_cases ho : (hd E (tks.drop (p + 1))).tx = bOpen
            · cases hts : ts with
              | nil => rw [ht1, hts] at ho; exact absurd ho (by simp only [hd]; decide)
              | cons t1 ts1 =>
                subst hts
                rw [ht1] at ho
                exact first_call g E p lev tks t t1 ts1 w h hlev hw hh ht hk hl hnT hnF hr (by omega) hmi hop ho ihC
            · refine first_col g E p lev tks t w h hw hh hpl hk hnT hnF hr (by omega) ho hmi hop ?_
              rw [ht, ht1]
              rw [ht1] at ho
              exact .ncol hl hop hk hr (by omega) ho
      · exact absurd (.inl hk) hl
      · exact absurd (.inr (.inl hk)) hl
      · refine first_none4 g E p lev tks t w h hw hh hk hmi hop ?_
        rw [ht]
        exact .none (ts := t :: ts) hl hop (fun h' => by have h2 : t.kd = 1 := h'.1; omega)
end Go.Proofs.YtplaplhmjpfbjaaGreatDoor.Dc
namespace Go.Proofs.YtplaplhmjpfbjaaGreatDoor.Dc
open Go.RowKit
set_option linter.unusedVariables false
set_option linter.unusedSimpArgs false
set_option maxRecDepth 100000

theorem wPre_not : wPre bNot = bNot := by decide +kernel
/-- How far an operator may join, as the document's climbing keeps it. -/
def MO (nb : Bool) (mo : Int) (m : Nat) (x : X) : Prop := (nb = false ∧ ((mo = 9 ∧ m = 5) ∨ (mo = (m : Int) + 1 ∧ m ≤ 5))) ∨ (nb = true ∧ mo = 9 ∧ m = 1 ∧ ∃ pl y, x = .pre pl bNot y)
/-- What is kept while operators are read. -/
def LI (L : ByteArray → Int → Int → ByteArray → Prop) (w : World) (g E : Nat) (tks : List Tk) (p lev r0 gk : Nat) (xv nv mv : Value) (wr : World) : Prop := ∃ (xb q : Nat) (er bad : Int), xv = ptrE xb ∧ RS wr g E tks q lev er bad ∧ w.grownBy wr (some g) ∧
  ((er = 0 ∧ bad = 0 ∧ gk + q = tks.length + 1 ∧ p ≤ q ∧ ∃ (x : X) (m : Nat) (nb : Bool) (mo : Int), nv = .bool nb ∧ mv = .int .i64 mo ∧ Et wr w.heap.size wr.heap.size x (ptrE xb) ∧ (∀ o, St L E lev r0 m x (tks.drop q) o → Ps L E (.D r0) lev (tks.drop p) o) ∧ MO nb mo m x) ∨ (∃ f : Flt, f.why ≠ 0 ∧ er = f.why ∧ bad = f.pl ∧ Ps L E (.D r0) lev (tks.drop p) (.error f)))
theorem sg_ok {s : ByteArray} (h : sgn s ≠ 7) : okS s := by
  by_cases hOr : s = bOr
  · subst hOr; exact okS_of 111 [114] rfl (by decide) (by decide)
  by_cases hAnd : s = bAnd
  · subst hAnd; exact okS_of 97 [110, 100] rfl (by decide) (by decide)
  by_cases hEq : s = bEq
  · subst hEq; exact okS_of 61 [] rfl (by decide) (by decide)
  by_cases hNe : s = bNe
  · subst hNe; exact okS_of 60 [62] rfl (by decide) (by decide)
  by_cases hLt : s = bLt
  · subst hLt; exact okS_of 60 [] rfl (by decide) (by decide)
  by_cases hLe : s = bLe
  · subst hLe; exact okS_of 60 [61] rfl (by decide) (by decide)
  by_cases hGt : s = bGt
  · subst hGt; exact okS_of 62 [] rfl (by decide) (by decide)
  by_cases hGe : s = bGe
  · subst hGe; exact okS_of 62 [61] rfl (by decide) (by decide)
  by_cases hPlus : s = bPlus
  · subst hPlus; exact okS_of 43 [] rfl (by decide) (by decide)
  by_cases hMinus : s = bMinus
  · subst hMinus; exact ok_minus
  by_cases hCat : s = bCat
  · subst hCat; exact okS_of 43 [43] rfl (by decide) (by decide)
  by_cases hMul : s = bMul
  · subst hMul; exact okS_of 42 [] rfl (by decide) (by decide)
  by_cases hDiv : s = bDiv
  · subst hDiv; exact okS_of 47 [] rfl (by decide) (by decide)
  by_cases hMod : s = bMod
  · subst hMod; exact okS_of 37 [] rfl (by decide) (by decide)
  refine absurd ?_ h
  unfold sgn
  simp [hOr, hAnd, hEq, hNe, hLt, hLe, hGt, hGe, hPlus, hMinus, hCat, hMul, hDiv, hMod]
theorem hd_kd {E : Nat} {ts : List Tk} (hw : ∀ t ∈ ts, Wf t) : ((hd E ts).kd = 1 ∨ (hd E ts).kd = 4) ∨ (((hd E ts).kd = 0 ∨ (hd E ts).kd = 2 ∨ (hd E ts).kd = 3) ∧ sgn (hd E ts).tx = 7) := by
  by_cases h7 : sgn (hd E ts).tx = 7
  · cases ts with
    | nil => exact .inr ⟨.inl rfl, h7⟩
    | cons t ts =>
      rcases (hw t (by simp)).2 with ⟨h, _⟩ | ⟨h, _⟩ | ⟨h, _⟩ | ⟨h, _⟩
      · exact .inl (.inl h)
      · exact .inr ⟨.inr (.inl h), h7⟩
      · exact .inr ⟨.inr (.inr h), h7⟩
      · exact .inl (.inr h)
  · cases ts with
    | nil => exact absurd (show sgn (⟨#[]⟩ : ByteArray) = 7 by decide) h7
    | cons t ts => exact .inl ((hw t (by simp)).notNum (sg_ok h7).1 rfl)
theorem srt_w {K : Nat} (h : K = 1 ∨ K = 4) : srt K = 110 ∨ srt K = 111 := by rcases h with rfl | rfl <;> simp [srt]
theorem srt_o {K : Nat} (h : K = 0 ∨ K = 2 ∨ K = 3) : srt K = 101 ∨ srt K = 48 ∨ srt K = 39 := by rcases h with rfl | rfl | rfl <;> simp [srt]
theorem go_facts {nb : Bool} {mo least : Int} {m r0 K : Nat} {x : X} {Y : ByteArray} (hmo : MO nb mo m x) (hkd : (K = 1 ∨ K = 4) ∨ ((K = 0 ∨ K = 2 ∨ K = 3) ∧ sgn Y = 7)) (hl : least = (r0 : Int) + 1 ∨ (least = 0 ∧ r0 = 0)) (h1 : r0 ≤ sgn Y) (h2 : sgn Y ≤ m) :
    (K = 1 ∨ K = 4) ∧ pow Y = (sgn Y : Int) + 1 ∧ sgn Y ≤ 5 ∧ ¬ pow Y = 0 ∧ ¬ pow Y < least ∧ ¬ mo < pow Y ∧ (nb = true → ¬ (2 : Int) < pow Y) := by
  have hm5 : m ≤ 5 := by
    rcases hmo with ⟨_, ⟨_, h⟩ | ⟨_, h⟩⟩ | ⟨_, _, h, _⟩ <;> omega
  have hP : pow Y = (sgn Y : Int) + 1 := by unfold pow; rw [if_neg (by omega)]
  refine ⟨?_, hP, by omega, by omega, by omega, ?_, ?_⟩
  · rcases hkd with h | ⟨_, h⟩
    · exact h
    · omega
  · rcases hmo with ⟨_, ⟨h, _⟩ | ⟨h, _⟩⟩ | ⟨_, h, h2, _⟩ <;> omega
  · intro hn
    rcases hmo with ⟨h, _⟩ | ⟨_, _, h, _⟩
    · rw [h] at hn; cases hn
    · omega
theorem stop_facts {nb : Bool} {mo least : Int} {m r0 K : Nat} {x : X} {Y : ByteArray} (hmo : MO nb mo m x) (hkd : (K = 1 ∨ K = 4) ∨ ((K = 0 ∨ K = 2 ∨ K = 3) ∧ sgn Y = 7)) (hl : least = (r0 : Int) + 1 ∨ (least = 0 ∧ r0 = 0)) (h : ¬ (r0 ≤ sgn Y ∧ sgn Y ≤ m)) :
    (K = 0 ∨ K = 2 ∨ K = 3) ∨ ((K = 1 ∨ K = 4) ∧ (pow Y = 0 ∨ (¬ pow Y = 0 ∧ pow Y < least) ∨ (¬ pow Y = 0 ∧ ¬ pow Y < least ∧ mo < pow Y) ∨ (¬ pow Y = 0 ∧ ¬ pow Y < least ∧ ¬ mo < pow Y ∧ nb = true ∧ (2 : Int) < pow Y ∧ ∃ pl y, x = .pre pl bNot y))) := by
  rcases hkd with hk | ⟨hk, _⟩
  · refine .inr ⟨hk, ?_⟩
    by_cases h7 : sgn Y = 7
    · exact .inl (by unfold pow; rw [if_pos h7])
    have hP : pow Y = (sgn Y : Int) + 1 := by unfold pow; rw [if_neg h7]
    have h0 : ¬ pow Y = 0 := by omega
    by_cases h1 : pow Y < least
    · exact .inr (.inl ⟨h0, h1⟩)
    by_cases h2 : mo < pow Y
    · exact .inr (.inr (.inl ⟨h0, h1, h2⟩))
    have hv := sgn_vals Y
    rcases hmo with ⟨_, ⟨h3, h4⟩ | ⟨h3, h4⟩⟩ | ⟨h3, h4, h5, h6⟩
    · exfalso; omega
    · exfalso; omega
    · exact .inr (.inr (.inr ⟨h0, h1, h2, h3, by omega, h6⟩))
  · exact .inl hk
theorem step_fin {L : ByteArray → Int → Int → ByteArray → Prop} {w W : World} {g E p lev r0 q q9 gk PL K xb yb eb sb m : Nat} {tks : List Tk} {Y : ByteArray} {x : X} {er bad mo' : Int} (hT : (⟨PL, K, Y⟩ : Tk) = hd E (tks.drop q)) (hK : K = 1 ∨ K = 4) (h1 : r0 ≤ sgn Y) (h2 : sgn Y ≤ m) (h5 : sgn Y ≤ 5) (hmo : mo' = if sgn Y = 3 then 3 else (sgn Y : Int) + 1)
    (hcont : ∀ o, St L E lev r0 m x (tks.drop q) o → Ps L E (.D r0) lev (tks.drop p) o) (hgk : gk + q = tks.length + 1) (hpq : p ≤ q) (hG : w.grownBy W (some g)) (hR : RS W g E tks q9 lev er bad)
    (hout : (er = 0 ∧ bad = 0 ∧ ∃ y, Ps L E (.D (sgn Y + 1)) lev (tks.drop (q + 1)) (.ok (y, tks.drop q9)) ∧ Et W w.heap.size W.heap.size y (ptrE yb)) ∨ (∃ f : Flt, f.why ≠ 0 ∧ er = f.why ∧ bad = f.pl ∧ Ps L E (.D (sgn Y + 1)) lev (tks.drop (q + 1)) (.error f)))
    (hx : Et W w.heap.size W.heap.size x (ptrE xb)) (he0 : w.heap.size ≤ eb) (he1 : eb < W.heap.size) (hs0 : w.heap.size ≤ sb) (hs1 : sb < W.heap.size) (c0 : W.cell? ⟨eb, 0, none⟩ = some (.string Y)) (c1 : W.cell? ⟨eb, 1, none⟩ = some (.int .i64 PL)) (c2 : W.cell? ⟨eb, 2, none⟩ = some (.slice (some ⟨sb, 0, none⟩) 2 2)) (k0 : W.cell? ⟨sb, 0, none⟩ = some (ptrE xb)) (k1 : W.cell? ⟨sb, 1, none⟩ = some (ptrE yb)) :
    ∃ G, G < gk ∧ LI L w g E tks p lev r0 G (ptrE eb) (.bool false) (.int .i64 mo') W := by
  have hcons : tks.drop q = ⟨PL, K, Y⟩ :: tks.drop (q + 1) := by
    cases hd4 : tks.drop q with
    | nil =>
      rw [hd4] at hT
      have : K = 0 := congrArg Tk.kd hT
      omega
    | cons t1 ts1 =>
      rw [hd4] at hT
      rw [(drop_cons hd4).1]
      exact congrArg (· :: ts1) hT.symm
  have hql := (drop_cons hcons).2
  rw [hcons] at hcont
  rcases hout with ⟨rfl, rfl, y, hy, hey⟩ | ⟨f, hf1, hf2, hf3, hf4⟩
  · have hq9 := hR.place
    have hsh := (hy.shorter _ _ rfl).2 (by intros; simp)
    rw [List.length_drop, List.length_drop] at hsh
    refine ⟨tks.length + 1 - q9, by omega, eb, q9, 0, 0, rfl, hR, hG, .inl ⟨rfl, rfl, by omega, by omega, .inf PL Y x y, if sgn Y = 3 then 2 else sgn Y, false, mo', rfl, rfl, ?_, fun o ho => hcont o (.step (t := ⟨PL, K, Y⟩) h1 h2 hy ho), .inl ⟨rfl, .inr ⟨?_, ?_⟩⟩⟩⟩
    · rw [Et]
      have hka : KAt W w.heap.size W.heap.size (.slice (some ⟨sb, 0, none⟩) 2 2) [ptrE xb, ptrE yb] := by
        refine ⟨some ⟨sb, 0, none⟩, 2, rfl, fun i hi => ⟨sb, rfl, hs0, hs1, ?_⟩⟩
        match i, hi with
        | 0, _ => exact k0
        | 1, _ => exact k1
        | i + 2, h => exact absurd h (by simp)
      exact ⟨eb, _, ptrE xb, ptrE yb, rfl, he0, he1, c0, c1, c2, hka, hx, hey⟩
    · rw [hmo]; split
      · rfl
      · rfl
    · split <;> omega
  · refine ⟨gk - 1, by have := hR.place; omega, eb, q9, er, bad, rfl, hR, hG, .inr ⟨f, hf1, hf2, hf3, hcont _ (.bad (t := ⟨PL, K, Y⟩) h1 h2 hf4)⟩⟩
theorem ok_notHead {L : ByteArray → Int → Int → ByteArray → Prop} {E lev : Nat} {ts : List Tk} {o : X × List Tk} (hw : ∀ t ∈ ts, Wf t) (h : Ps L E (.D 6) lev ts (.ok o)) : (hd E ts).tx ≠ bNot := by
  intro hn
  cases h with
  | jok hj _ _ => rcases hj with h | h | h | h <;> cases h
  | pok hpr ht _ _ =>
    rcases hpr with ⟨h, _⟩ | ⟨_, h⟩
    · cases h
    · have h2 : bNot = bMinus := hn.symm.trans (ht.trans h)
      exact absurd h2 (by decide)
  | pnone hpr hne h7 =>
    cases h7 with
    | jok hj _ _ => rcases hj with h | h | h | h <;> cases h
    | pok hpr ht _ _ => rcases hpr with ⟨h, _⟩ | ⟨h, _⟩ <;> cases h
    | pnone hpr _ _ => rcases hpr with ⟨h, _⟩ | ⟨h, _⟩ <;> cases h
    | @lit _ t _ _ _ _ hl _ => exact notLit_of (t := t) (hw t (by simp)) ok_not hn (by decide) (by decide) hl
    | ook _ ho _ _ _ =>
      have h2 : bNot = bOpen := hn.symm.trans ho
      exact absurd h2 (by decide)
    | ncol _ _ _ hr _ _ => exact hr (.inr (.inr (.inl hn)))
    | nargs _ _ _ hr _ _ _ _ => exact hr (.inr (.inr (.inl hn)))
theorem not_fin {L : ByteArray → Int → Int → ByteArray → Prop} {w w4 W : World} {lo g E p p4 lev r0 PL K kb eb sb : Nat} {tks ts : List Tk} {Y : ByteArray} {er bad : Int} (ho : PreOut L w4 lo E tks p p4 lev 2 PL kb er bad) (hr0 : r0 ≤ 2) (hY : Y = bNot) (ht : tks.drop p = ⟨PL, K, Y⟩ :: ts) (ht1 : tks.drop (p + 1) = ts)
    (hg : w.grownBy W (some g)) (hR : RS W g E tks p4 lev er bad) (hlo : w.heap.size ≤ lo) (h4 : w4.heap.size ≤ W.heap.size) (hk : ∀ (b i : Nat) (u : Value), lo ≤ b → b < w4.heap.size → w4.cell? ⟨b, i, none⟩ = some u → W.cell? ⟨b, i, none⟩ = some u)
    (he0 : w.heap.size ≤ eb) (he1 : eb < W.heap.size) (hs0 : w.heap.size ≤ sb) (hs1 : sb < W.heap.size) (c0 : W.cell? ⟨eb, 0, none⟩ = some (.string bNot)) (c1 : W.cell? ⟨eb, 1, none⟩ = some (.int .i64 PL)) (c2 : W.cell? ⟨eb, 2, none⟩ = some (.slice (some ⟨sb, 0, none⟩) 1 1)) (ck : W.cell? ⟨sb, 0, none⟩ = some (ptrE kb)) :
    ∃ G, LI L w g E tks p lev r0 G (ptrE eb) (.bool true) (.int .i64 9) W := by
  have hpr : pr 2 Y := .inl ⟨rfl, hY⟩
  rcases ho with ⟨h1, h2, h3⟩ | ⟨h1, h2, h3, x, h4', h5⟩ | ⟨h1, f, h2, h3, h4', h5⟩
  · refine ⟨0, eb, p4, er, bad, rfl, hR, hg, .inr ⟨⟨PL, 4⟩, by simp, h2, h3, St.noBad hr0 ?_⟩⟩
    rw [ht, h1]; exact .pdeep hpr rfl
  · have hps : Ps L E (.D 2) lev (tks.drop p) (.ok (.pre PL Y x, tks.drop p4)) := by
      rw [ht]; rw [ht1] at h4'; exact .pok (t := ⟨PL, K, Y⟩) hpr rfl h1 h4'
    have hp4 := hR.place
    have hsh := (hps.shorter _ _ rfl).2 (by intros; simp)
    rw [List.length_drop, List.length_drop] at hsh
    refine ⟨tks.length + 1 - p4, eb, p4, er, bad, rfl, hR, hg, .inl ⟨h2, h3, by omega, by omega, .pre PL Y x, 1, true, 9, rfl, rfl, ?_, fun o ho => St.no hr0 hps ho, .inr ⟨rfl, rfl, rfl, PL, x, by rw [hY]⟩⟩⟩
    rw [Et]
    have hka : KAt W w.heap.size W.heap.size (.slice (some ⟨sb, 0, none⟩) 1 1) [ptrE kb] := by
      refine ⟨some ⟨sb, 0, none⟩, 1, rfl, fun i hi => ?_⟩
      obtain rfl : i = 0 := by simp at hi; exact hi
      exact ⟨sb, rfl, hs0, hs1, ck⟩
    exact ⟨eb, _, ptrE kb, rfl, he0, he1, by rw [hY, wPre_not]; exact c0, c1, c2, hka, Et.keep hk hlo h4 x _ h5⟩
  · refine ⟨0, eb, p4, er, bad, rfl, hR, hg, .inr ⟨f, h2, h3, h4', St.noBad hr0 ?_⟩⟩
    rw [ht]; rw [ht1] at h5; exact .pbad (t := ⟨PL, K, Y⟩) hpr rfl h1 h5
end Go.Proofs.YtplaplhmjpfbjaaGreatDoor.Dc
