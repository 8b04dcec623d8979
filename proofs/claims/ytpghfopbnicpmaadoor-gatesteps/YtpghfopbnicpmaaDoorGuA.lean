import Derived.Test.YtpghfopbnicpmaaDoorGtG
import Derived.Test.YtpghfopbnicpmaaDoorGtW
import Derived.Test.YtpghfopbnicpmaaDoorGtX
import Derived.Test.YtpghfopbnicpmaaDoorGtY
namespace Go.Proofs.YtpghfopbnicpmaaDoor
open Go.RowKit
set_option linter.unusedVariables false
set_option linter.unusedSimpArgs false
set_option maxRecDepth 100000
set_option maxHeartbeats 4000000

/-- An element of a channel. -/
structure Ie where
  ch : Int
  k : Int
  rt : Int
  vs : List V
  t : Int
  m : Int
/-- A script lies in memory. -/
def ILies (w : World) (a : Option Addr) (xs : List Ie) : Prop :=
  ∀ i (hi : i < xs.length), ∃ b off av cv, a = some ⟨b, off, none⟩ ∧ w.cell? ⟨b, off + i * 6, none⟩ = some (.int .i64 xs[i].ch) ∧ w.cell? ⟨b, off + i * 6 + 1, none⟩ = some (.int .i64 xs[i].k) ∧ w.cell? ⟨b, off + i * 6 + 2, none⟩ = some (.int .i64 xs[i].rt) ∧ w.cell? ⟨b, off + i * 6 + 3, none⟩ = some (.slice av xs[i].vs.length cv) ∧ w.cell? ⟨b, off + i * 6 + 4, none⟩ = some (.int .i64 xs[i].t) ∧ w.cell? ⟨b, off + i * 6 + 5, none⟩ = some (.int .i64 xs[i].m) ∧ VLies w av xs[i].vs
theorem ILies.later {w wx : World} {a : Option Addr} {xs : List Ie} (h : ILies w a xs) (hb : Below w.heap.size w wx) : ILies wx a xs := fun i hi => by
  obtain ⟨b, off, av, cv, e, h1, h2, h3, h4, h5, h6, h7⟩ := h i hi
  exact ⟨b, off, av, cv, e, cell_later hb h1, cell_later hb h2, cell_later hb h3, cell_later hb h4, cell_later hb h5, cell_later hb h6, h7.later hb⟩
/-- A statement that ends by itself. -/
def onlyN (N : Act → World → Prop) : Exit → Act → World → Prop
  | .normal, a, w => N a w
  | _, _, _ => False
theorem onlyN_le {Q : Exit → Act → World → Prop} {n : Nat} : ∀ e a w, Exit.inBlock n (onlyN (Q .normal)) e a w → Exit.inBlock n Q e a w := by
  intro e a w h
  cases e with
  | normal => exact h
  | exit m =>
    by_cases hm : m = n
    · simp only [Exit.inBlock, if_pos hm] at h ⊢; exact h
    · simp only [Exit.inBlock, if_neg hm] at h; exact (h : False).elim
  | _ => exact (h : False).elim

def firstReg : Code → Option Nat
  | .region n _ _ => some n
  | .seq a b => match firstReg a with
    | some x => some x
    | none => firstReg b
  | .block _ c => firstReg c
  | .scope c => firstReg c
  | .loop c => firstReg c
  | .cond _ a b => match firstReg a with
    | some x => some x
    | none => firstReg b
  | _ => none
/-- The body of the loop whose first region has that number. -/
def loopOf (n : Nat) : Code → Option Code
  | .loop c => match firstReg c with
    | some m => match Nat.beq m n with
      | true => some c
      | false => loopOf n c
    | none => loopOf n c
  | .seq a b => match loopOf n a with
    | some c => some c
    | none => loopOf n b
  | .block _ c => loopOf n c
  | .scope c => loopOf n c
  | .cond _ a b => match loopOf n a with
    | some c => some c
    | none => loopOf n b
  | _ => none
/-- The largest part of a code whose first region has that number. -/
def partOf (n : Nat) : Code → Option Code
  | .loop c => match firstReg (.loop c) with
    | some m => match Nat.beq m n with
      | true => some (.loop c)
      | false => partOf n c
    | none => partOf n c
  | .seq a b => match firstReg (.seq a b) with
    | some m => match Nat.beq m n with
      | true => some (.seq a b)
      | false => match partOf n a with
        | some c => some c
        | none => partOf n b
    | none => match partOf n a with
        | some c => some c
        | none => partOf n b
  | .block _ c => partOf n c
  | .scope c => partOf n c
  | .cond _ a b => match partOf n a with
    | some c => some c
    | none => partOf n b
  | _ => none
theorem onlyN_blk {F : Act → World → Prop} {n : Nat} : ∀ e a w, onlyN F e a w → Exit.inBlock n (onlyN F) e a w := by
  intro e a w h
  cases e with
  | normal => exact h
  | _ => exact (h : False).elim

/-- What goes on. -/
structure Gn where
  k : Int
  rt : Int
  vs : List V
  t : Int
  m : Int
/-- What a gate answers, and what becomes of it. -/
structure Og where
  n : Int
  out : Option Gn
  es : List En
  tm : Int
  mq : Int
def stepTime (es : List En) (tm mk : Int) (i : Nat) (t : Int) : Og :=
  if (es.getD i ⟨0, true⟩).t < t ∧ t ≤ 1099511627777 then
    (if leastE (es.set i ⟨t, (es.getD i ⟨0, true⟩).b⟩) ≤ tm then ⟨0, none, es.set i ⟨t, (es.getD i ⟨0, true⟩).b⟩, tm, mk⟩
      else ⟨0, some ⟨2, 0, [], leastE (es.set i ⟨t, (es.getD i ⟨0, true⟩).b⟩), 0⟩, es.set i ⟨t, (es.getD i ⟨0, true⟩).b⟩, leastE (es.set i ⟨t, (es.getD i ⟨0, true⟩).b⟩), mk⟩)
  else ⟨4, none, es, tm, mk⟩
def stepMark (es : List En) (tm mk : Int) (i : Nat) (m : Int) : Og :=
  if 1 ≤ m ∧ (mk = 0 ∨ m = mk) then
    (if (es.set i ⟨(es.getD i ⟨0, true⟩).t, true⟩).any (fun e => !e.b) = true then ⟨0, none, es.set i ⟨(es.getD i ⟨0, true⟩).t, true⟩, tm, m⟩
      else ⟨0, some ⟨3, 0, [], 0, m⟩, (es.set i ⟨(es.getD i ⟨0, true⟩).t, true⟩).map clr, tm, 0⟩)
  else ⟨6, none, es, tm, mk⟩
def stepG (es : List En) (tm mk : Int) (x : Ie) : Og :=
  if openB es x.ch = true then
    (if x.k = 1 then ⟨0, some ⟨1, x.rt, x.vs, 0, 0⟩, es, tm, mk⟩
    else if x.k = 2 then stepTime es tm mk x.ch.toNat x.t
    else if x.k = 3 then stepMark es tm mk x.ch.toNat x.m
    else ⟨4, none, es, tm, mk⟩)
  else ⟨6, none, es, tm, mk⟩
theorem openB_at {es : List En} {k : Int} (h : openB es k = true) : ∃ (i : Nat) (hi : i < es.length), k = (i : Int) ∧ es[i].b = false := by
  unfold openB at h
  by_cases hk : 0 ≤ k ∧ k < es.length
  · rw [if_pos hk] at h
    have hi : k.toNat < es.length := by omega
    refine ⟨k.toNat, hi, by omega, ?_⟩
    simpa [List.getD, hi] using h
  · rw [if_neg hk] at h; cases h
theorem getD_at (es : List En) (i : Nat) (hi : i < es.length) : es.getD i ⟨0, true⟩ = es[i] := by simp [List.getD, hi]
theorem stepG_len (es : List En) (tm mk : Int) (x : Ie) : (stepG es tm mk x).es.length = es.length := by
  unfold stepG stepTime stepMark
  repeat' split
  all_goals simp
theorem stepG_waits (es : List En) (tm mk : Int) (x : Ie) (h : Waits mk es) : Waits (stepG es tm mk x).mq (stepG es tm mk x).es := by
  unfold stepG
  by_cases ho : openB es x.ch = true
  · rw [if_pos ho]
    obtain ⟨i, hi, he, hb⟩ := openB_at ho
    have hi2 : x.ch.toNat = i := by omega
    by_cases h1 : x.k = 1
    · rw [if_pos h1]; exact h
    rw [if_neg h1]
    by_cases h2 : x.k = 2
    · rw [if_pos h2, hi2]
      unfold stepTime
      rw [getD_at es i hi]
      split
      · split
        · exact waits_time mk es i hi _ h
        · exact waits_time mk es i hi _ h
      · exact h
    rw [if_neg h2]
    by_cases h3 : x.k = 3
    · rw [if_pos h3, hi2]
      unfold stepMark
      rw [getD_at es i hi]
      split
      · rename_i hm
        split
        · exact waits_mark _ es i hi _ hm.1
        · exact waits_clr _
      · exact h
    rw [if_neg h3]; exact h
  · rw [if_neg ho]; exact h
/-- An error of the program. -/
def errI (n : Int) : Value := if n = 0 then .nilIface else .iface 28 (.int .i64 n)
/-- A list of none or one. -/
def Ans (B : Nat) (w : World) (o : Option Gn) (x : Value) : Prop :=
  match o with
  | none => x = .slice none 0 0
  | some r => ∃ p a c, B ≤ p ∧ x = .slice (some ⟨p, 0, none⟩) 1 1 ∧ OneE w p r.k r.rt (.slice a r.vs.length c) r.t r.m ∧ VLies w a r.vs ∧ ∀ y, a = some y → B ≤ y.block
theorem cell_kept {w w' : World} {a : Addr} {v : Value} (h : w.cell? a = some v) (hk : w'.heap[a.block]? = w.heap[a.block]?) : w'.cell? a = some v := by
  unfold World.cell? at h ⊢
  simpa [hk] using h
theorem Ans.kept {B : Nat} {w w' : World} {o : Option Gn} {x : Value} (h : Ans B w o x) (hk : ∀ i, i < w.heap.size → B ≤ i → w'.heap[i]? = w.heap[i]?) : Ans B w' o x := by
  cases o with
  | none => exact h
  | some r =>
    obtain ⟨p, a, c, h1, h2, ⟨o0, o1, o2, o3, o4⟩, h4, h5⟩ := h
    have hp := hk p (World.block_lt_of_cell? _ _ o0) h1
    refine ⟨p, a, c, h1, h2, ⟨cell_kept o0 hp, cell_kept o1 hp, cell_kept o2 hp, cell_kept o3 hp, cell_kept o4 hp⟩, fun i hi => ?_, h5⟩
    obtain ⟨b, off, e, e1, e2, e3⟩ := h4 i hi
    have hb := hk b (World.block_lt_of_cell? _ _ e1) (h5 _ e)
    exact ⟨b, off, e, cell_kept e1 hb, cell_kept e2 hb, cell_kept e3 hb⟩
theorem Ans.base {B B' : Nat} {w : World} {o : Option Gn} {x : Value} (h : Ans B w o x) (hb : B' ≤ B) : Ans B' w o x := by
  cases o with
  | none => exact h
  | some r =>
    obtain ⟨p, a, c, h1, h2, h3, h4, h5⟩ := h
    exact ⟨p, a, c, Nat.le_trans hb h1, h2, h3, h4, fun y hy => Nat.le_trans hb (h5 y hy)⟩
theorem vlies_nil (w : World) (a : Option Addr) : VLies w a [] := fun i hi => absurd hi (Nat.not_lt_zero _)
def TakeP (w : World) (g b c : Nat) (o : Og) (e : Ending) (w' : World) : Prop :=
  Ch w w' g b ∧ GT w' g b c o.tm o.mq o.es ∧ ∃ x, e = .returned (.tuple #[x, errI o.n]) ∧ Ans w.heap.size w' o.out x
def TakeDo (w : World) (d p q cp cq : Nat) (o : Og) (e : Ending) (w' : World) : Prop :=
  Ch3 w w' d p q ∧ GR w' d p q cp cq o.tm o.mq o.es ∧ ∃ x, e = .returned (.tuple #[x, .int .i64 o.n]) ∧ Ans w.heap.size w' o.out x
theorem takeP_any (w : World) (g b c : Nat) (tm mk : Int) (es : List En) (h : GT w g b c tm mk es) (hl : es.length ≤ 64) (x : Ie) (av : Option Addr) (cv : Nat) (hv : VLies w av x.vs) (hvl : x.vs.length ≤ 4398046511104) :
    Calls Tryd.prog 10 #[.pointer (some ⟨g, 0, none⟩), .int .i64 x.ch, .agg #[.int .i64 x.k, .int .i64 x.rt, .slice av x.vs.length cv, .int .i64 x.t, .int .i64 x.m]] w (TakeP w g b c (stepG es tm mk x)) := by
  unfold stepG
  cases ho : openB es x.ch with
  | false =>
    rw [if_neg (by simp)]
    refine (take_shut w g b c tm mk es h x.ch ho x.k x.rt av x.vs.length cv x.t x.m).mono ?_
    rintro e w' ⟨he, hb⟩
    exact ⟨.of_below hb, h.later hb, _, he, rfl⟩
  | true =>
    rw [if_pos rfl]
    obtain ⟨i, hi, he, hb⟩ := openB_at ho
    have hi2 : x.ch.toNat = i := by omega
    rw [hi2, he]
    refine (take_open w g b c tm mk es h hl i hi hb x.k x.rt av x.vs cv hv hvl x.t x.m).mono ?_
    intro e w' hp
    rcases hp with ⟨h1, hch, hgt, a', c', ⟨p, hp1, hpe, hp2⟩, hov⟩ | ⟨h1, hp⟩ | ⟨h1, hp⟩ | ⟨h1, hbad, hch, hgt⟩
    · rw [if_pos h1]
      obtain ⟨a2, c2, e2, hvl2, hbl⟩ := hov.form
      injection e2 with e2 e3 e4
      subst e2
      exact ⟨hch, hgt, _, hpe, p, a', c', hp1, rfl, hp2, hvl2, fun y hy => (hbl y hy).1⟩
    · rw [if_neg (by omega), if_pos h1]
      unfold stepTime
      rw [getD_at es i hi]
      obtain ⟨hch, ⟨h2, hbad, hgt⟩ | ⟨h2, h3, ⟨h4, hn, hgt⟩ | ⟨h4, ⟨p, hp1, hpe, hp2⟩, hgt⟩⟩⟩ := hp
      · rw [if_neg h2]; exact ⟨hch, hgt, _, hbad, rfl⟩
      · rw [if_pos ⟨h2, h3⟩, if_pos h4]; exact ⟨hch, hgt, _, hn, rfl⟩
      · rw [if_pos ⟨h2, h3⟩, if_neg (by omega)]; exact ⟨hch, hgt, _, hpe, p, none, 0, hp1, rfl, hp2, vlies_nil _ _, fun y hy => by cases hy⟩
    · rw [if_neg (by omega), if_neg (by omega), if_pos h1]
      unfold stepMark
      rw [getD_at es i hi]
      obtain ⟨hch, ⟨h2, hbad, hgt⟩ | ⟨h2, h3, ⟨h4, hn, hgt⟩ | ⟨h4, ⟨p, hp1, hpe, hp2⟩, hgt⟩⟩⟩ := hp
      · rw [if_neg h2]; exact ⟨hch, hgt, _, hbad, rfl⟩
      · rw [if_pos ⟨h2, h3⟩, if_pos h4]; exact ⟨hch, hgt, _, hn, rfl⟩
      · rw [if_pos ⟨h2, h3⟩, if_neg (by rw [h4]; simp)]; exact ⟨hch, hgt, _, hpe, p, none, 0, hp1, rfl, hp2, vlies_nil _ _, fun y hy => by cases hy⟩
    · rw [if_neg (by omega), if_neg (by omega), if_neg (by omega)]
      exact ⟨hch, hgt, _, hbad, rfl⟩
theorem takeDo_any (w : World) (d p q cp cq : Nat) (tm mk : Int) (es : List En) (h : GR w d p q cp cq tm mk es) (hw : Waits mk es) (hl : es.length ≤ 64) (x : Ie) (av : Option Addr) (cv : Nat) (hv : VLies w av x.vs) (hvl : x.vs.length ≤ 4398046511104) :
    Calls Tryd.prog 11 #[.pointer (some ⟨d, 0, none⟩), .int .i64 x.ch, .agg #[.int .i64 x.k, .int .i64 x.rt, .slice av x.vs.length cv, .int .i64 x.t, .int .i64 x.m]] w (TakeDo w d p q cp cq (stepG es tm mk x)) := by
  unfold stepG
  cases ho : openB es x.ch with
  | false =>
    rw [if_neg (by simp)]
    refine (takeD_shut w d p q cp cq tm mk es h hw x.ch ho x.k x.rt av x.vs.length cv x.t x.m).mono ?_
    rintro e w' ⟨he, hb⟩
    exact ⟨.of_below hb, h.later hb, _, he, rfl⟩
  | true =>
    rw [if_pos rfl]
    obtain ⟨i, hi, he, hb⟩ := openB_at ho
    have hi2 : x.ch.toNat = i := by omega
    by_cases h1 : x.k = 1
    · rw [if_pos h1, h1]
      refine (takeD_row w d p q cp cq tm mk es h hw x.ch ho x.rt av x.vs cv hv hvl x.t x.m).mono ?_
      rintro e w' ⟨hb2, a', c', ⟨p2, hp1, hpe, hp2⟩, hov⟩
      obtain ⟨a2, c2, e2, hvl2, hbl⟩ := hov.form
      injection e2 with e2 e3 e4
      subst e2
      exact ⟨.of_below hb2, h.later hb2, _, hpe, p2, a', c', hp1, rfl, hp2, hvl2, fun y hy => (hbl y hy).1⟩
    rw [if_neg h1]
    by_cases h2 : x.k = 2
    · rw [if_pos h2, h2, hi2, he]
      unfold stepTime
      rw [getD_at es i hi]
      refine (takeD_time w d p q cp cq tm mk es h hw hl i hi (by rw [← he]; exact ho) x.rt av x.vs.length cv x.t x.m).mono ?_
      intro e w' hp
      obtain ⟨hch, ⟨h2, hbad, hgt⟩ | ⟨h2, h3, ⟨h4, hn, hgt⟩ | ⟨h4, ⟨p, hp1, hpe, hp2⟩, hgt⟩⟩⟩ := hp
      · rw [if_neg h2]; exact ⟨hch, hgt, _, hbad, rfl⟩
      · rw [if_pos ⟨h2, h3⟩, if_pos h4]; exact ⟨hch, hgt, _, hn, rfl⟩
      · rw [if_pos ⟨h2, h3⟩, if_neg (by omega)]; exact ⟨hch, hgt, _, hpe, p, none, 0, hp1, rfl, hp2, vlies_nil _ _, fun y hy => by cases hy⟩
    rw [if_neg h2]
    by_cases h3 : x.k = 3
    · rw [if_pos h3, h3, hi2, he]
      unfold stepMark
      rw [getD_at es i hi]
      refine (takeD_mark w d p q cp cq tm mk es h hw hl i hi (by rw [← he]; exact ho) x.rt av x.vs.length cv x.t x.m).mono ?_
      intro e w' hp
      obtain ⟨hch, ⟨h2, hbad, hgt⟩ | ⟨h2, h3, ⟨h4, hn, hgt⟩ | ⟨h4, ⟨p, hp1, hpe, hp2⟩, hgt⟩⟩⟩ := hp
      · rw [if_neg h2]; exact ⟨hch, hgt, _, hbad, rfl⟩
      · rw [if_pos ⟨h2, h3⟩, if_pos h4]; exact ⟨hch, hgt, _, hn, rfl⟩
      · rw [if_pos ⟨h2, h3⟩, if_neg (by rw [h4]; simp)]; exact ⟨hch, hgt, _, hpe, p, none, 0, hp1, rfl, hp2, vlies_nil _ _, fun y hy => by cases hy⟩
    rw [if_neg h3]
    refine (takeD_other w d p q cp cq tm mk es h hw x.ch ho x.k x.rt (by omega) av x.vs.length cv x.t x.m).mono ?_
    rintro e w' ⟨he, hb⟩
    exact ⟨.of_below hb, h.later hb, _, he, rfl⟩
end Go.Proofs.YtpghfopbnicpmaaDoor
