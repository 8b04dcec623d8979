import Derived.Test.YtkedbmpnhplmaaaWnC
namespace Go.Proofs.Ytkedbmpnhplmaaa
open Go.RowKit Go.Shelf
attribute [local go_sem] Oper.semAt_some
set_option linter.unusedVariables false
set_option linter.unusedSimpArgs false
set_option maxRecDepth 100000
set_option maxHeartbeats 2000000

theorem not_rowAt {W : World} {B : Nat} {ty : TypeId} (h : Boxed W B ty (.slice none 0 0)) (b : Nat) : ¬ RowAt B ty W b := by
  rintro ⟨len, cap, e⟩
  rw [show W.heap[B]? = _ from h] at e
  simp at e

/-- append onto a row of one's own, inside a fence; where the row then lies. -/
theorem wpListIn_append_at {F : Fence} {n : Nat} {P : Program} (w : World) {ops : Array Oper} {rest : List Oper} {o : Oper} {a : Act} {Q : Exit → Act → World → Prop}
    (hg : o.guard = none) (s x : Operand) (t : TypeId) (hop : o.op = Op.call { callee := Callee.builtin Builtin.append, args := #[s, x], argTypes := #[t, t] })
    (base : Nat) (e : TypeId) (i : TypeInfo) (z : Value) (size bytes : Nat) (h1 : P.underlying t = some (.slice e)) (h2 : P.info? e = some i) (h3 : i.zero = some z) (h4 : i.size = size) (h5 : i.bytes = bytes) (h6 : z.cells.size = size) (h7 : 0 < size)
    (v : Value) (k : Nat) (xs : List Value) (hs : a.eval s = v) (hown : w.ownsRow base e size v k xs) (ad : Addr) (m c : Nat) (news : List Value) (hx : a.eval x = .slice (some ad) m c) (hn : news.length = m * size)
    (hc : ∀ j u, news[j]? = some u → w.cell? (ad.add j) = some u) (h1c : ∀ u ∈ news, u.oneCell' = true) (b1 : k + m ≤ maxLen) (b2 : (k + m) * bytes ≤ 140737488355328) (b3 : base ≤ w.heap.size)
    (hK : ∀ v' w', w'.ownsRow base e size v' (k + m) (xs ++ news) → w.grownBy w' v.ownBlock → (v'.ownBlock = v.ownBlock ∨ v'.ownBlock = some w.heap.size) → wpListIn F n P ops Q rest (a.put o.dst v') w') :
    wpListIn F n P ops Q (o :: rest) a w := by
  refine wpListIn_plain hg fun K hK' => ?_
  obtain ⟨v', w', hrun, r1, r2, -, r3⟩ := run_append_own_at (P := P) w base t o.type e i z size bytes h1 h2 h3 h4 h5 h6 h7 v k xs hown ad m c news hn hc h1c b1 b2 b3
  unfold Oper.wpIn
  refine ⟨?_, ?_⟩
  · simp [Oper.about, hop, resolve, Target.leads, Sem.run_pure]
  · rw [Oper.semAt_plain F _ _ (by rw [hop]; intro c hc'; cases hc')]
    simp [execOp, hop, resolve, invoke, builtin, hs, hx, hrun, Result.andThen]
    exact hK' _ _ (hK v' w' r1 r2 r3)

/-- 'out = append(out, ..)': what else is kept. -/
theorem kpR_appended {W w1 : World} {n₀ B : Nat} {t e : TypeId} {size : Nat} {v v' : Value} {k : Nat} {xs : List Value} {tmp : Obj}
    (hv : Boxed W B t v) (hte : t ≠ e) (hrow : W.ownsRow n₀ e size v k xs)
    (hgrow : (W.alloc tmp).grownBy w1 v.ownBlock) (hat : v'.ownBlock = v.ownBlock ∨ v'.ownBlock = some (W.heap.size + 1)) :
    KpR B t W (w1.setCell ⟨B, 0, none⟩ v') := by
  refine ⟨by have := hgrow.size; have := (grownBy_setCell' w1 B v').size; simp at *; omega, ?_⟩
  intro b ob e1 ec e2 e3
  have hlt : b < W.heap.size := (Array.getElem?_eq_some_iff.1 e1).1
  have hv1 : Boxed w1 B t v := (hv.alloc tmp).kept hgrow (hv.not_row hte hrow)
  have hnb : some b ≠ v.ownBlock := by
    intro e
    rcases hrow.2 with ⟨rfl, _⟩ | ⟨g, cap, cur, rfl, _, hgb, _⟩
    · simp [Value.ownBlock] at e
    · obtain rfl : b = g := by simpa [Value.ownBlock] using e
      exact e3 ⟨_, _, hv⟩
  refine ⟨?_, ?_⟩
  · rw [Below.heap_setCell _ _ _ b e2, hgrow.block b (by simp; omega) hnb, Below.heap_alloc _ _ _ hlt]; exact e1
  · rintro ⟨len, cap, e4⟩
    rw [show (w1.setCell ⟨B, 0, none⟩ v').heap[B]? = _ from hv1.set v'] at e4
    have e5 : v' = .slice (some ⟨b, 0, none⟩) len cap := by simpa using e4
    subst e5
    simp [Value.ownBlock] at hat
    rcases hat with hat | hat
    · exact hnb hat
    · omega

def inL (k s p t : Int) : List Wn := if k = 1 then upto (sWn s s t) (sCnt s s t + 1) else if k = 2 then upto (sWn s p t) (sCnt s p t + 1) else if k = 3 then [⟨t, t + s⟩] else [⟨0, 1099511627777⟩]

def AroundPost (B ty : Nat) (w : World) (xs : List Wn) (e : Ending) (w' : World) : Prop :=
  ∃ gf lb Sp, e = .returned (.func (.func gf) #[] lb) ∧ Below w.heap.size w w' ∧ (∀ args w, (callFunc gf args).run Try.prog w = .ok (.enter gf args) w) ∧
    ∀ m, 1 ≤ m → SeqStopsK Fence.wide m Try.prog gf lb (fun y : Wn => #[wV y]) (KpR B ty) (fun ys => ys = xs) Sp xs.length w'

theorem new_kept {w : World} {B ty : Nat} (hB : Boxed w B ty (.slice none 0 0)) {W : World} (hb : Below w.heap.size w W) (cs : Array Value) (u : TypeId) {W2 : World} (hb2 : Below (W.alloc (.cells cs u)).heap.size (W.alloc (.cells cs u)) W2) : KeptO B ty W2 W.heap.size cs u := by
  have h0 := hB.lt
  have h1 := hb.size
  refine ⟨(hb2.block _ (by simp)).trans (World.alloc_heap_new W _), by omega, not_rowAt (W := W2) ?_ _⟩
  have hBW : Boxed W B ty (.slice none 0 0) := (hb.block B h0).trans hB
  exact (hb2.block B (by simp; omega)).trans (hBW.alloc _)

theorem step_post {w : World} {s q t : Int} (H : SOk s q t) {B ty : Nat} (hB : Boxed w B ty (.slice none 0 0)) (W : World) (b1 : Below w.heap.size w W) :
    AroundPost B ty w (upto (sWn s q t) (sCnt s q t + 1)) (.returned (.func (.func 29) #[] #[.pointer (some ⟨W.heap.size + 2, 0, none⟩), .pointer (some ⟨W.heap.size + 1, 0, none⟩), .pointer (some ⟨W.heap.size, 0, none⟩)]))
      (((W.alloc (.cells #[.int .i64 s] 2)).alloc (.cells #[.int .i64 q] 2)).alloc (.cells #[.int .i64 t] 2)) := by
  have c1 := b1.alloc b1.size (.cells #[.int .i64 s] 2)
  have c2 := c1.alloc c1.size (.cells #[.int .i64 q] 2)
  have c3 := c2.alloc c2.size (.cells #[.int .i64 t] 2)
  have k2 := new_kept hB b1 #[.int .i64 s] 2 ((xbel1 _ (.cells #[.int .i64 q] 2)).trans ((xbel1 _ (.cells #[.int .i64 t] 2)).mono (by simp)))
  have k1 := new_kept hB c1 #[.int .i64 q] 2 (xbel1 _ (.cells #[.int .i64 t] 2))
  have k0 := new_kept hB c2 #[.int .i64 t] 2 (Below.refl _ _)
  simp only [World.size_alloc] at k1 k0
  refine ⟨_, _, (fun pre => ∃ k, k ≤ sCnt s q t ∧ pre = upto (sWn s q t) (k + 1)), rfl, c3, enters_of Try.func29 (by kernel_rfl) rfl, fun m hm => ?_⟩
  have := stepped_stops m hm _ _ _ B ty s q t H _ (by have := hB.lt; have := c3.size; omega) k0 k1 k2
  rwa [upto_length]

theorem only_post {w : World} {B ty : Nat} (W : World) (y : Wn) (hb : Below w.heap.size w W) : AroundPost B ty w [y] (.returned (.func (.func 30) #[] #[.pointer (some ⟨W.heap.size, 0, none⟩)])) (W.alloc (.cells #[.int .i64 y.a, .int .i64 y.b] 24)) :=
  ⟨_, _, _, rfl, hb.alloc hb.size _, enters_of Try.func30 (by kernel_rfl) rfl, fun m hm => only_stops Fence.wide m trivial rfl hm _ (KpR B ty) y _ (by simp) (by go_simp) (by go_simp)⟩

theorem around_step {k s p t : Int} (hk : k = 1 ∨ k = 2) {q : Int} (hq : q = if k = 1 then s else p) (hok : SOk s q t) (n : Nat) (hn : 1 ≤ n) (B ty : Nat) (w : World) (hB : Boxed w B ty (.slice none 0 0)) :
    CallsIn Fence.wide n Try.prog 17 #[.agg #[.int .i64 k, .int .i64 s, .int .i64 p], .int .i64 t] w (AroundPost B ty w (upto (sWn s q t) (sCnt s q t + 1))) := by
  have H := hok
  clear hok
  refine callsIn_of_wp Try.func17 rfl trivial ?_ rfl
  simp only [Try.ntmps17, List.size_toArray, List.length_cons, List.length_nil, Nat.reduceAdd, Nat.reduceSub, Array.replicate_succ, Array.replicate_zero, List.push_toArray, List.append_toArray, List.nil_append, List.cons_append]
  rcases hk with rfl | rfl
  · simp at hq
    subst hq
    gi_wp2_with (refine ⟨trivial, ?_⟩; gi_at_call 24; refine (stepped_in Fence.wide _ trivial rfl _ _ _ _).mono ?_; rintro e w' ⟨rfl, rfl⟩)
    go_ret
    have := step_post H hB (w.alloc (.cells #[.int .i64 1, .int .i64 q, .int .i64 p] 31)) (xbel1 _ _)
    rw [World.size_alloc] at this
    exact this
  · simp at hq
    subst hq
    gi_wp2_with (refine ⟨trivial, ?_⟩; gi_at_call 24; refine (stepped_in Fence.wide _ trivial rfl _ _ _ _).mono ?_; rintro e w' ⟨rfl, rfl⟩)
    go_ret
    have := step_post H hB (w.alloc (.cells #[.int .i64 2, .int .i64 s, .int .i64 q] 31)) (xbel1 _ _)
    rw [World.size_alloc] at this
    exact this

theorem around_only {k s p t : Int} {x : Wn} (hk : (k = 3 ∧ x = ⟨t, t + s⟩ ∧ wrap64 (t + s) = t + s) ∨ (k = 4 ∧ x = ⟨0, 1099511627777⟩)) (n : Nat) (hn : 1 ≤ n) (B ty : Nat) (w : World) (hB : Boxed w B ty (.slice none 0 0)) :
    CallsIn Fence.wide n Try.prog 17 #[.agg #[.int .i64 k, .int .i64 s, .int .i64 p], .int .i64 t] w (AroundPost B ty w [x]) := by
  refine callsIn_of_wp Try.func17 rfl trivial ?_ rfl
  simp only [Try.ntmps17, List.size_toArray, List.length_cons, List.length_nil, Nat.reduceAdd, Nat.reduceSub, Array.replicate_succ, Array.replicate_zero, List.push_toArray, List.append_toArray, List.nil_append, List.cons_append]
  rcases hk with ⟨rfl, rfl, hw⟩ | ⟨rfl, rfl⟩
  · gi_wp2_with (refine ⟨trivial, ?_⟩; gi_at_call 25; refine (only_in Fence.wide _ trivial rfl ⟨t, t + s⟩ _).mono ?_; rintro e w' ⟨rfl, rfl⟩)
    go_ret
    have := only_post (B := B) (ty := ty) (w.alloc (.cells #[.int .i64 3, .int .i64 s, .int .i64 p] 31)) ⟨t, t + s⟩ (xbel1 _ _)
    rw [World.size_alloc] at this
    exact this
  · gi_wp2_with (refine ⟨trivial, ?_⟩; gi_at_call 25; refine (only_in Fence.wide _ trivial rfl ⟨0, 1099511627777⟩ _).mono ?_; rintro e w' ⟨rfl, rfl⟩)
    go_ret
    have := only_post (B := B) (ty := ty) (w.alloc (.cells #[.int .i64 4, .int .i64 s, .int .i64 p] 31)) ⟨0, 1099511627777⟩ (xbel1 _ _)
    rw [World.size_alloc] at this
    exact this

theorem around_any {k s p t : Int} (hv : validB k s p = true) (h0 : 0 ≤ t) (h1 : t ≤ 1099511627776) (n : Nat) (hn : 1 ≤ n) (B ty : Nat) (w : World) (hB : Boxed w B ty (.slice none 0 0)) :
    CallsIn Fence.wide n Try.prog 17 #[.agg #[.int .i64 k, .int .i64 s, .int .i64 p], .int .i64 t] w (AroundPost B ty w (inL k s p t)) := by
  unfold validB at hv
  unfold inL
  by_cases e1 : k = 1
  · subst e1
    simp at hv
    simpa using around_step (k := 1) (s := s) (p := p) (t := t) (.inl rfl) (q := s) (by simp) ⟨by omega, by omega, by omega, h0, h1⟩ n hn B ty w hB
  by_cases e2 : k = 2
  · subst e2
    simp at hv
    simpa using around_step (k := 2) (s := s) (p := p) (t := t) (.inr rfl) (q := p) (by simp) ⟨by omega, by omega, by omega, h0, h1⟩ n hn B ty w hB
  by_cases e3 : k = 3
  · subst e3
    simp at hv
    simpa using around_only (k := 3) (s := s) (p := p) (t := t) (x := ⟨t, t + s⟩) (.inl ⟨rfl, rfl, w64 (by omega) (by omega)⟩) n hn B ty w hB
  by_cases e4 : k = 4
  · subst e4
    simpa using around_only (k := 4) (s := s) (p := p) (t := t) (x := ⟨0, 1099511627777⟩) (.inr ⟨rfl, rfl⟩) n hn B ty w hB
  · simp [e1, e2, e3, e4] at hv
end Go.Proofs.Ytkedbmpnhplmaaa
