import Derived.Test.YtpghfopbnicpmaaGtG
namespace Go.Proofs.Ytpghfopbnicpmaa
open Go.RowKit
set_option linter.unusedVariables false
set_option linter.unusedSimpArgs false
set_option maxRecDepth 100000
set_option maxHeartbeats 4000000

/-- An element of a channel. -/
structure Ie where
  ch : Int
  k : Int
  rt : Int
  vs : List V
  t : Int
  m : Int
/-- A script lies in memory. -/
def ILies (w : World) (a : Option Addr) (xs : List Ie) : Prop :=
  ∀ i (hi : i < xs.length), ∃ b off av cv, a = some ⟨b, off, none⟩ ∧ w.cell? ⟨b, off + i * 6, none⟩ = some (.int .i64 xs[i].ch) ∧ w.cell? ⟨b, off + i * 6 + 1, none⟩ = some (.int .i64 xs[i].k) ∧ w.cell? ⟨b, off + i * 6 + 2, none⟩ = some (.int .i64 xs[i].rt) ∧ w.cell? ⟨b, off + i * 6 + 3, none⟩ = some (.slice av xs[i].vs.length cv) ∧ w.cell? ⟨b, off + i * 6 + 4, none⟩ = some (.int .i64 xs[i].t) ∧ w.cell? ⟨b, off + i * 6 + 5, none⟩ = some (.int .i64 xs[i].m) ∧ VLies w av xs[i].vs
theorem ILies.later {w wx : World} {a : Option Addr} {xs : List Ie} (h : ILies w a xs) (hb : Below w.heap.size w wx) : ILies wx a xs := fun i hi => by
  obtain ⟨b, off, av, cv, e, h1, h2, h3, h4, h5, h6, h7⟩ := h i hi
  exact ⟨b, off, av, cv, e, cell_later hb h1, cell_later hb h2, cell_later hb h3, cell_later hb h4, cell_later hb h5, cell_later hb h6, h7.later hb⟩
def saidL (es : List En) : List Value := es.map fun e => .int .i64 e.t
def markL (es : List En) : List Value := es.map fun e => .bool e.b
/-- A list of the law's own: times that were said, or who is marked. -/
def Row1 (w : World) (p n : Nat) (ty : Nat) (xs : List Value) : Prop := w.ownsRow p ty 1 (.slice (some ⟨p, 0, none⟩) n n) n xs
theorem Row1.later {w w' : World} {p n ty : Nat} {xs : List Value} (h : Row1 w p n ty xs) (hb : Below w.heap.size w w') : Row1 w' p n ty xs := own_later h hb
theorem Row1.at {w : World} {p n ty : Nat} {xs : List Value} (h : Row1 w p n ty xs) (i : Nat) (hi : i < n) : w.cell? ⟨p, i, none⟩ = xs[i]? := World.ownsRow.cellAt h i (by omega)
theorem Row1.ch {w w' : World} {p n ty g b : Nat} {xs : List Value} (h : Row1 w p n ty xs) (hc : Ch w w' g b) (h1 : p ≠ g) (h2 : p ≠ b) : Row1 w' p n ty xs := by
  refine ⟨h.1, ?_⟩
  rcases h.2 with h3 | ⟨k, cap, cur, e1, e2, e3, e4⟩
  · exact .inl h3
  · refine .inr ⟨k, cap, cur, e1, e2, ?_, e4⟩
    have hk : p = k := by injection e1 with e; injection e with e; injection e with e
    subst hk
    have hlt : p < w.heap.size := by
      rcases Nat.lt_or_ge p w.heap.size with h | h
      · exact h
      · rw [Array.getElem?_eq_none h] at e3; cases e3
    rw [hc.block p hlt h1 h2]; exact e3
theorem infoI : (Try.prog.info? 2).map (fun i => (i.zero, i.size, i.bytes)) = some (some (.int .i64 0), 1, 8) := by kernel_rfl
theorem infoB : (Try.prog.info? 4).map (fun i => (i.zero, i.size, i.bytes)) = some (some (.bool false), 1, 1) := by kernel_rfl
theorem Row1.new (w : World) (z : Value) (n ty : Nat) (hn : n ≤ 64) : Row1 (w.alloc (.cells (madeCells #[z] n) ty)) w.heap.size n ty (List.replicate n z) := by
  have := World.ownsRow_lit (base := w.heap.size) (e := ty) (size := 1) w (madeCells #[z] n) n (Nat.le_refl _) (by unfold maxLen; omega) (by rw [size_madeCells]; omega)
  rw [toList_madeCells_one] at this
  exact this
theorem Row1.put {w : World} {p n ty : Nat} {xs : List Value} (h : Row1 w p n ty xs) (j : Nat) (u : Value) : Row1 (w.setCell ⟨p, j, none⟩ u) p n ty (xs.set j u) ∧ w.grownBy (w.setCell ⟨p, j, none⟩ u) (some p) := World.ownsRow.stored h j u
theorem Row1.grown {w w' : World} {p n ty : Nat} {xs : List Value} {r : Nat} (h : Row1 w p n ty xs) (hg : w.grownBy w' (some r)) (hne : p ≠ r) : Row1 w' p n ty xs :=
  own_grown h hg fun k hk => by cases hk; exact fun e => hne (Option.some.inj e)
theorem Row1.soft {w : World} {p n ty : Nat} {xs : List Value} (h : Row1 w p n ty xs) (j : Nat) : w.frozen? ⟨p, j, none⟩ = false := World.ownsRow.frozenAt h j
theorem Row1.lt {w : World} {p n ty : Nat} {xs : List Value} (h : Row1 w p n ty xs) : p < w.heap.size := (World.ownsRow.lt h p rfl).2
/-- What holds between two elements. -/
structure KInv (es : List En) (tm mk last : Int) (N j : Nat) : Prop where
  len : es.length = N
  low : ∀ e ∈ es, tm ≤ e.t
  mark : mk ≠ 0 → mk = last + 1
  last0 : 0 ≤ last
  lastj : last ≤ j
/-- The law's own memory. -/
structure KMem (w : World) (W : World) (g b c sB mB N : Nat) (es : List En) (tm mk : Int) : Prop where
  gate : GT w g b c tm mk es
  said : Row1 w sB N 2 (saidL es)
  marked : Row1 w mB N 4 (markL es)
  bel : Below W.heap.size W w
  gW : W.heap.size ≤ g
  bW : W.heap.size ≤ b
  sW : W.heap.size ≤ sB
  mW : W.heap.size ≤ mB
  s1 : sB ≠ g
  s2 : sB ≠ b
  m1 : mB ≠ g
  m2 : mB ≠ b
  ms : mB ≠ sB
theorem KMem.later {w w' W : World} {g b c sB mB N : Nat} {es : List En} {tm mk : Int} (h : KMem w W g b c sB mB N es tm mk) (hb : Below w.heap.size w w') : KMem w' W g b c sB mB N es tm mk :=
  ⟨h.gate.later hb, h.said.later hb, h.marked.later hb, h.bel.trans (hb.mono h.bel.size), h.gW, h.bW, h.sW, h.mW, h.s1, h.s2, h.m1, h.m2, h.ms⟩
theorem rep_step (z y : Value) (N k : Nat) (hk : k < N) : (List.replicate k z ++ List.replicate (N - k) y).set k z = List.replicate (k + 1) z ++ List.replicate (N - (k + 1)) y := by
  rw [List.set_append_right _ _ (by simp), List.length_replicate, Nat.sub_self, show N - k = (N - (k + 1)) + 1 by omega, List.replicate_succ, List.set_cons_zero, List.replicate_succ', List.append_assoc]
  rfl
theorem saidL_new (N : Nat) : saidL (List.replicate N ⟨-1, false⟩) = List.replicate N (.int .i64 (-1)) := by unfold saidL; simp
theorem markL_new (N : Nat) : markL (List.replicate N ⟨-1, false⟩) = List.replicate N (.bool false) := by unfold markL; simp

/-- A statement that ends by itself. -/
def onlyN (N : Act → World → Prop) : Exit → Act → World → Prop
  | .normal, a, w => N a w
  | _, _, _ => False
theorem onlyN_le {Q : Exit → Act → World → Prop} {n : Nat} : ∀ e a w, Exit.inBlock n (onlyN (Q .normal)) e a w → Exit.inBlock n Q e a w := by
  intro e a w h
  cases e with
  | normal => exact h
  | exit m =>
    by_cases hm : m = n
    · simp only [Exit.inBlock, if_pos hm] at h ⊢; exact h
    · simp only [Exit.inBlock, if_neg hm] at h; exact (h : False).elim
  | _ => exact (h : False).elim

def firstReg : Code → Option Nat
  | .region n _ _ => some n
  | .seq a b => match firstReg a with
    | some x => some x
    | none => firstReg b
  | .block _ c => firstReg c
  | .scope c => firstReg c
  | .loop c => firstReg c
  | .cond _ a b => match firstReg a with
    | some x => some x
    | none => firstReg b
  | _ => none
/-- The body of the loop whose first region has that number. -/
def loopOf (n : Nat) : Code → Option Code
  | .loop c => match firstReg c with
    | some m => match Nat.beq m n with
      | true => some c
      | false => loopOf n c
    | none => loopOf n c
  | .seq a b => match loopOf n a with
    | some c => some c
    | none => loopOf n b
  | .block _ c => loopOf n c
  | .scope c => loopOf n c
  | .cond _ a b => match loopOf n a with
    | some c => some c
    | none => loopOf n b
  | _ => none
noncomputable def keepsBody : Code := (Try.f3.body.bind (loopOf 15)).getD .skip
theorem KInv.step {es : List En} {tm mk la : Int} {N j : Nat} (h : KInv es tm mk la N j) : KInv es tm mk la N (j + 1) := ⟨h.len, h.low, h.mark, h.last0, by have := h.lastj; omega⟩
theorem saidL_at (es : List En) (i : Nat) (hi : i < es.length) : (saidL es)[i]? = some (.int .i64 es[i].t) := by unfold saidL; simp [hi]
theorem markL_at (es : List En) (i : Nat) (hi : i < es.length) : (markL es)[i]? = some (.bool es[i].b) := by unfold markL; simp [hi]
theorem KMem.after {w w3 W : World} {g b c sB mB N : Nat} {es : List En} {tm mk : Int} (h : KMem w W g b c sB mB N es tm mk) (hc : Ch w w3 g b) : Row1 w3 sB N 2 (saidL es) ∧ Row1 w3 mB N 4 (markL es) ∧ Below W.heap.size W w3 :=
  ⟨h.said.ch hc h.s1 h.s2, h.marked.ch hc h.m1 h.m2, Ch.below h.bel hc h.bel.size h.gW h.bW⟩
theorem KMem.again {w w3 W : World} {g b c sB mB N : Nat} {es es' : List En} {tm mk tm' mk' : Int} (h : KMem w W g b c sB mB N es tm mk) (hg : GT w3 g b c tm' mk' es') (hs : Row1 w3 sB N 2 (saidL es')) (hm : Row1 w3 mB N 4 (markL es')) (hb : Below W.heap.size W w3) : KMem w3 W g b c sB mB N es' tm' mk' :=
  ⟨hg, hs, hm, hb, h.gW, h.bW, h.sW, h.mW, h.s1, h.s2, h.m1, h.m2, h.ms⟩
theorem saidL_set (es : List En) (i : Nat) (e : En) : saidL (es.set i e) = (saidL es).set i (.int .i64 e.t) := by unfold saidL; rw [List.map_set]
theorem markL_set (es : List En) (i : Nat) (e : En) : markL (es.set i e) = (markL es).set i (.bool e.b) := by unfold markL; rw [List.map_set]
theorem saidL_same (es : List En) (i : Nat) (hi : i < es.length) (b : Bool) : saidL (es.set i ⟨es[i].t, b⟩) = saidL es := by
  rw [saidL_set]; exact set_same _ _ _ (saidL_at es i hi)
theorem markL_same (es : List En) (i : Nat) (hi : i < es.length) (t : Int) : markL (es.set i ⟨t, es[i].b⟩) = markL es := by
  rw [markL_set]; exact set_same _ _ _ (markL_at es i hi)
theorem saidL_clr (es : List En) : saidL (es.map clr) = saidL es := by unfold saidL; rw [List.map_map]; rfl
theorem markL_clr (es : List En) : markL (es.map clr) = List.replicate es.length (.bool false) := by
  unfold markL; rw [List.map_map]
  exact (List.eq_replicate_iff).2 ⟨by simp, fun x hx => by obtain ⟨e, _, rfl⟩ := List.mem_map.1 hx; rfl⟩
theorem leastF_le (m : Int) (l : List En) : leastF m l ≤ m ∧ ∀ e ∈ l, leastF m l ≤ e.t := by
  induction l generalizing m with
  | nil => exact ⟨Int.le_refl _, fun e he => by cases he⟩
  | cons a l ih =>
    obtain ⟨h1, h2⟩ := ih (min m a.t)
    rw [leastF]
    refine ⟨by omega, fun e he => ?_⟩
    rcases List.mem_cons.1 he with rfl | he
    · omega
    · exact h2 e he
theorem leastE_le (es : List En) : ∀ e ∈ es, leastE es ≤ e.t := (leastF_le _ es).2
theorem mem_set_of {es : List En} {i : Nat} {x e : En} (h : e ∈ es.set i x) : e ∈ es ∨ e = x := List.mem_or_eq_of_mem_set h
/-- A time that is stored where the law keeps what was said. -/
theorem KMem.say {w w3 W : World} {g b c sB mB N : Nat} {es : List En} {tm mk tm' mk' : Int} (h : KMem w W g b c sB mB N es tm mk) (hc : Ch w w3 g b) (i : Nat) (hi : i < es.length) (t : Int) (hg : GT w3 g b c tm' mk' (es.set i ⟨t, es[i].b⟩)) : KMem (w3.setCell ⟨sB, i, none⟩ (.int .i64 t)) W g b c sB mB N (es.set i ⟨t, es[i].b⟩) tm' mk' := by
  obtain ⟨h1, h2, h3⟩ := h.after hc
  obtain ⟨p1, p2⟩ := h1.put i (.int .i64 t)
  refine h.again (hg.grown p2 (fun e => h.s1 e.symm) (fun e => h.s2 e.symm)) (by rw [saidL_set]; exact p1) (by rw [markL_same es i hi]; exact h2.grown p2 h.ms) (h3.setCell (p := ⟨sB, i, none⟩) h.sW _)
/-- Who is marked. -/
theorem KMem.sign {w w3 W : World} {g b c sB mB N : Nat} {es : List En} {tm mk tm' mk' : Int} (h : KMem w W g b c sB mB N es tm mk) (hc : Ch w w3 g b) (i : Nat) (hi : i < es.length) (hg : GT w3 g b c tm' mk' (es.set i ⟨es[i].t, true⟩)) : KMem (w3.setCell ⟨mB, i, none⟩ (.bool true)) W g b c sB mB N (es.set i ⟨es[i].t, true⟩) tm' mk' := by
  obtain ⟨h1, h2, h3⟩ := h.after hc
  obtain ⟨p1, p2⟩ := h2.put i (.bool true)
  refine h.again (hg.grown p2 (fun e => h.m1 e.symm) (fun e => h.m2 e.symm)) (by rw [saidL_same es i hi]; exact h1.grown p2 (fun e => h.ms e.symm)) (by rw [markL_set]; exact p1) (h3.setCell (p := ⟨mB, i, none⟩) h.mW _)
/-- None is marked any more. -/
theorem KMem.fresh {w w3 W : World} {g b c sB mB N : Nat} {es es' : List En} {tm mk tm' mk' : Int} (h : KMem w W g b c sB mB N es tm mk) (hN : es'.length = N) (hN2 : N ≤ 64) (hg : GT w3 g b c tm' mk' (es'.map clr)) (hs : Row1 w3 sB N 2 (saidL es')) (hb : Below W.heap.size W w3) :
    KMem (w3.alloc (.cells (madeCells #[.bool false] N) 4)) W g b c sB w3.heap.size N (es'.map clr) tm' mk' := by
  obtain ⟨l1, l2⟩ := hg.lt
  have l3 := hs.lt
  refine ⟨hg.later (bel1 _ _), by rw [saidL_clr]; exact hs.later (bel1 _ _), ?_, hb.trans ((bel1 _ _).mono hb.size), h.gW, h.bW, h.sW, hb.size, h.s1, h.s2, by omega, by omega, by omega⟩
  rw [markL_clr, hN]
  exact Row1.new _ _ _ _ hN2
theorem all_not_any (es : List En) : es.all (fun e => e.b) = !es.any (fun e => !e.b) := by
  induction es with
  | nil => rfl
  | cons e l ih => rw [List.all_cons, List.any_cons, ih]; cases e.b <;> simp
end Go.Proofs.Ytpghfopbnicpmaa
