import Derived.Test.YtmeeoamcelkhmaaGreatDoorTbP
namespace Go.Proofs.YtmeeoamcelkhmaaGreatDoor
open Go.RowKit Go.Maps
set_option linter.unusedVariables false
set_option linter.unusedSimpArgs false
set_option maxRecDepth 100000

def lawX (lp lc : Value) (i : Nat) : Prop := lp.ownBlock = some i ∨ lc.ownBlock = some i
/-- What the law keeps of a transaction came in. -/
def Lh (W : World) (h : Hp) : Prop := Fits h.x ∧ RLies W h.ra h.rs ∧ (h.ra = none → h.rs.length = 0 ∧ h.rc = 0) ∧ ∀ r ∈ h.rs, r.vs.length ≤ 4398046511104
structure TInv (W w : World) (t mp ms : Nat) (lp lc : Value) (hs cs : List Hp) (ss : List Sn) : Prop where
  pt : PT w W.heap.size t mp ms (lawX lp lc) hs ss
  pl : LH w W.heap.size lp hs
  cl : LH w W.heap.size lc cs
  bel : Below W.heap.size W w
  law : ∀ h ∈ hs ++ cs, Lh W h
  hv : ∀ h ∈ hs, (h.qs.map (·.r)).Perm h.rs ∧ ∃ O, h.v = .slice (some ⟨O, 0, none⟩) h.qs.length h.qs.length
  sn : ∀ nm, ((seenQ ss nm).map (·.r)).Perm (seenR cs nm)
  two : ∀ i, lp.ownBlock = some i → lc.ownBlock ≠ some i
  sl : ss.length ≤ cs.length
theorem PT.law {S X X' : Nat → Prop} {w w' : World} {B t mp ms : Nat} {hs : List Hp} {ss : List Sn} (h : PT w B t mp ms X hs ss) (hg : Gs S w w') (h1 : ∀ i, i < w.heap.size → S i → X i) (hX : ∀ i, X' i → X i ∨ w.heap.size ≤ i) : PT w' B t mp ms X' hs ss :=
  h.kept hg h1 (fun i hi x => (hX i x).elim id (fun q => absurd q (by omega))) (fun i x tb => (hX i x).elim (fun q => h.xd i q tb) (fun q => by have := (h.lt i tb).2; omega))
theorem LH.base {w : World} {B B' : Nat} {v : Value} {hs : List Hp} (h : LH w B v hs) (hb : B' ≤ B) : LH w B' v hs := by
  refine ⟨h.1, ?_⟩
  rcases h.2 with q | ⟨g, cap, cur, q1, q2, q3⟩
  · exact .inl q
  · exact .inr ⟨g, cap, cur, q1, Nat.le_trans hb q2, q3⟩
theorem delH_at {hs : List Hp} (hn : (hs.map (·.x)).Nodup) {k : Nat} (hk : k < hs.length) : delH hs hs[k].x = hs.take k ++ hs.drop (k + 1) := by
  have key : ∀ i (hi : i < hs.length), i ≠ k → ¬ hs[i].x = hs[k].x := fun i hi hne e => by
    have := List.pairwise_iff_getElem.1 hn
    rcases Nat.lt_or_gt_of_ne hne with q | q
    · exact this i k (by simpa using hi) (by simpa using hk) q (by rw [List.getElem_map, List.getElem_map, e])
    · exact this k i (by simpa using hk) (by simpa using hi) q (by rw [List.getElem_map, List.getElem_map, e])
  have e : hs = hs.take k ++ hs[k] :: hs.drop (k + 1) := by rw [← List.drop_eq_getElem_cons hk, List.take_append_drop]
  have h1 : (hs.take k).filter (fun h => !decide (h.x = hs[k].x)) = hs.take k := List.filter_eq_self.2 fun p hp => by
    obtain ⟨i, hi, rfl⟩ := List.getElem_of_mem hp
    have hi' : i < k := by rw [List.length_take] at hi; omega
    rw [List.getElem_take]
    simpa using key i (by omega) (by omega)
  have h2 : (hs.drop (k + 1)).filter (fun h => !decide (h.x = hs[k].x)) = hs.drop (k + 1) := List.filter_eq_self.2 fun p hp => by
    obtain ⟨i, hi, rfl⟩ := List.getElem_of_mem hp
    have hi' : k + 1 + i < hs.length := by rw [List.length_drop] at hi; omega
    rw [List.getElem_drop]
    simpa using key (k + 1 + i) hi' (by omega)
  unfold delH
  refine (congrArg (List.filter (fun h => !decide (h.x = hs[k].x))) e).trans ?_
  rw [List.filter_append, List.filter_cons]
  simp only [decide_true, Bool.not_true, Bool.false_eq_true, if_false]
  rw [h1, h2]
theorem mem_out {hs : List Hp} {k : Nat} {h : Hp} (hh : h ∈ hs.take k ++ hs.drop (k + 1)) : h ∈ hs := by
  rcases List.mem_append.1 hh with q | q
  · exact List.mem_of_mem_take q
  · exact List.mem_of_mem_drop q
theorem seenR_add (cs : List Hp) (f : Hp) (nm : ByteArray) : seenR (cs ++ [f]) nm = seenR cs nm ++ if f.x.sn = nm then f.rs else [] := by
  unfold seenR; rw [List.flatMap_append]; simp
theorem putS_len (ss : List Sn) (nm : ByteArray) (v : Value) (qs : List Q) : (putS ss nm v qs).length ≤ ss.length + 1 := by
  unfold putS; split <;> simp
section
variable {W w : World} {t mp ms : Nat} {lp lc : Value} {hs cs : List Hp} {ss : List Sn}
theorem TInv.xlt (h : TInv W w t mp ms lp lc hs cs ss) {i : Nat} (hi : lawX lp lc i) : W.heap.size ≤ i ∧ i < w.heap.size := by
  rcases hi with q | q
  · exact World.ownsRow.lt h.pl i q
  · exact World.ownsRow.lt h.cl i q
theorem TInv.later {w' : World} (h : TInv W w t mp ms lp lc hs cs ss) (hb : Below w.heap.size w w') : TInv W w' t mp ms lp lc hs cs ss :=
  ⟨h.pt.later hb, own_later h.pl hb, own_later h.cl hb, h.bel.trans (hb.mono h.bel.size), h.law, h.hv, h.sn, h.two, h.sl⟩
/-- The program has turned its own. -/
theorem TInv.prog {w1 : World} (h : TInv W w t mp ms lp lc hs cs ss) (hg : Gs (Tb t mp ms ss) w w1) : LH w1 W.heap.size lp hs ∧ LH w1 W.heap.size lc cs ∧ Below W.heap.size W w1 :=
  ⟨hg.own h.pl fun g q s => h.pt.xd g (.inl q) s, hg.own h.cl fun g q s => h.pt.xd g (.inr q) s, h.bel.trans (hg.toBelow h.bel.size fun i s => (h.pt.lt i s).1)⟩
theorem Gs.mp' {w w1 : World} (h : Gs (fun i => i = mp) w w1) : Gs (Tb t mp ms ss) w w1 := h.mono fun i _ e => .inr (.inl e)
theorem TInv.abort0 {w1 : World} {x : Tx} (h : TInv W w t mp ms lp lc hs cs ss) (hx : x ∉ hs.map (·.x)) (hp : PT w1 W.heap.size t mp ms (lawX lp lc) (delH hs x) ss) (hg : Gs (fun i => i = mp) w w1) : TInv W w1 t mp ms lp lc hs cs ss := by
  obtain ⟨a1, a2, a3⟩ := h.prog hg.mp'
  rw [delH_none hx] at hp
  exact ⟨hp, a1, a2, a3, h.law, h.hv, h.sn, h.two, h.sl⟩
theorem TInv.abort {w1 w2 : World} {lp' : Value} (h : TInv W w t mp ms lp lc hs cs ss) {k : Nat} (hk : k < hs.length) (hp : PT w1 W.heap.size t mp ms (lawX lp lc) (delH hs hs[k].x) ss) (hg : Gs (fun i => i = mp) w w1)
    (hl : LH w2 w1.heap.size lp' (hs.take k ++ hs.drop (k + 1))) (hb : Below w1.heap.size w1 w2) : TInv W w2 t mp ms lp' lc (hs.take k ++ hs.drop (k + 1)) cs ss := by
  obtain ⟨a1, a2, a3⟩ := h.prog hg.mp'
  rw [delH_at h.pt.nodup hk] at hp
  refine ⟨hp.law (S := fun _ => False) (Gs.below hb) (fun _ _ s => s.elim) (fun i x => ?_), hl.base a3.size, own_later a2 hb, a3.trans (hb.mono a3.size), fun p hp => ?_, fun p hp => h.hv p (mem_out hp), h.sn, fun i hi e => ?_, h.sl⟩
  · rcases x with x | x
    · exact .inr (World.ownsRow.lt hl i x).1
    · exact .inl (.inr x)
  · rcases List.mem_append.1 hp with q | q
    · exact h.law p (List.mem_append_left _ (mem_out q))
    · exact h.law p (List.mem_append_right _ q)
  · have q1 := (World.ownsRow.lt hl i hi).1
    have q2 := (World.ownsRow.lt a2 i e).2
    omega
theorem TInv.commit {w1 w3 w4 : World} {lp' lc' v' : Value} (h : TInv W w t mp ms lp lc hs cs ss) {k : Nat} (hk : k < hs.length) (hp : PT w1 W.heap.size t mp ms (lawX lp lc) (delH hs hs[k].x) (putS ss hs[k].x.sn v' (seenQ ss hs[k].x.sn ++ hs[k].qs))) (hg : Gs (Tb t mp ms ss) w w1)
    (hc : LH w3 W.heap.size lc' (cs ++ [hs[k]])) (hgr : Gs (fun i => lc.ownBlock = some i) w1 w3) (hat : ∀ i, lc'.ownBlock = some i → lc.ownBlock = some i ∨ w1.heap.size ≤ i)
    (hl : LH w4 w3.heap.size lp' (hs.take k ++ hs.drop (k + 1))) (hb : Below w3.heap.size w3 w4) : TInv W w4 t mp ms lp' lc' (hs.take k ++ hs.drop (k + 1)) (cs ++ [hs[k]]) (putS ss hs[k].x.sn v' (seenQ ss hs[k].x.sn ++ hs[k].qs)) := by
  obtain ⟨a1, a2, a3⟩ := h.prog hg
  rw [delH_at h.pt.nodup hk] at hp
  have s13 := hgr.size
  have b3 : Below W.heap.size W w3 := a3.trans (hgr.toBelow a3.size fun i s => (World.ownsRow.lt a2 i s).1)
  refine ⟨hp.law (hgr.trans (Gs.below hb)) (fun i _ s => .inr s) (fun i x => ?_), hl.base b3.size, own_later hc hb, b3.trans (hb.mono b3.size), fun p hp => ?_, fun p hp => h.hv p (mem_out hp), fun nm => ?_, fun i hi e => ?_, ?_⟩
  · rcases x with x | x
    · exact .inr (Nat.le_trans s13 (World.ownsRow.lt hl i x).1)
    · exact (hat i x).imp_left .inr
  · rcases List.mem_append.1 hp with q | q
    · exact h.law p (List.mem_append_left _ (mem_out q))
    · rcases List.mem_append.1 q with q | q
      · exact h.law p (List.mem_append_right _ q)
      · rw [List.mem_singleton.1 q]; exact h.law _ (List.mem_append_left _ (List.getElem_mem hk))
  · rw [seenQ_put, seenR_add]
    by_cases e : nm = hs[k].x.sn
    · rw [if_pos e, if_pos e.symm, List.map_append, e]
      exact (h.sn _).append (h.hv _ (List.getElem_mem hk)).1
    · rw [if_neg e, if_neg (fun q => e q.symm), List.append_nil]
      exact h.sn nm
  · have q1 := (World.ownsRow.lt hl i hi).1
    have q2 := (World.ownsRow.lt hc i e).2
    omega
  · have := putS_len ss hs[k].x.sn v' (seenQ ss hs[k].x.sn ++ hs[k].qs)
    have := h.sl
    rw [List.length_append, List.length_singleton]
    omega
/-- What may be written over while a transaction is laid down. -/
def inX (lp lc : Value) (a b : Nat) (i : Nat) : Prop := lawX lp lc i ∨ (a ≤ i ∧ i < b)
theorem TInv.ready {w1 : World} (h : TInv W w t mp ms lp lc hs cs ss) (hb : Below w.heap.size w w1) : PT w1 W.heap.size t mp ms (inX lp lc w.heap.size w1.heap.size) hs ss ∧ ∀ i, inX lp lc w.heap.size w1.heap.size i → i < w1.heap.size :=
  ⟨h.pt.law (S := fun _ => False) (Gs.below hb) (fun _ _ s => s.elim) (fun i x => x.imp_right fun q => q.1), fun i x => x.elim (fun q => Nat.lt_of_lt_of_le (h.xlt q).2 hb.size) (fun q => q.2)⟩
theorem TInv.prep4 {w1 w2 w3 w4 : World} (h : TInv W w t mp ms lp lc hs cs ss) (hb1 : Below w.heap.size w w1) (hg : Gs (fun i => i = mp) w1 w2) (hb3 : Below w2.heap.size w2 w3) (hw : Gs (fun i => w.heap.size ≤ i ∧ i < w1.heap.size) w3 w4) : Gs (fun i => i = mp ∨ w.heap.size ≤ i) w w4 :=
  (Gs.below hb1).trans ((hg.mono fun i _ e => .inl e).trans ((Gs.below hb3).trans (hw.mono fun i _ e => .inr e.1)))
theorem TInv.prep0 {w4 : World} (h : TInv W w t mp ms lp lc hs cs ss) (hg : Gs (fun i => i = mp ∨ w.heap.size ≤ i) w w4) : LH w4 W.heap.size lp hs ∧ LH w4 W.heap.size lc cs ∧ Below W.heap.size W w4 := by
  have key : ∀ i, lawX lp lc i → ¬ (i = mp ∨ w.heap.size ≤ i) := fun i x q => by
    rcases q with q | q
    · exact h.pt.xd i x (.inr (.inl q))
    · have := (h.xlt x).2; omega
  refine ⟨hg.own h.pl fun g q => key g (.inl q), hg.own h.cl fun g q => key g (.inr q), h.bel.trans (hg.toBelow h.bel.size fun i s => ?_)⟩
  rcases s with s | s
  · rw [s]; exact h.pt.ge.2.1
  · exact Nat.le_trans h.bel.size s
theorem TInv.prep {w1 w2 w3 w4 w5 : World} {lp' : Value} {f : Hp} (h : TInv W w t mp ms lp lc hs cs ss) (hb1 : Below w.heap.size w w1) (hp : PT w2 W.heap.size t mp ms (inX lp lc w.heap.size w1.heap.size) (hs ++ [f]) ss) (hg : Gs (fun i => i = mp) w1 w2) (hb3 : Below w2.heap.size w2 w3) (hw : Gs (fun i => w.heap.size ≤ i ∧ i < w1.heap.size) w3 w4)
    (hl : LH w5 W.heap.size lp' (hs ++ [f])) (hgr : Gs (fun i => lp.ownBlock = some i) w4 w5) (hat : ∀ i, lp'.ownBlock = some i → lp.ownBlock = some i ∨ w4.heap.size ≤ i) (hf : Lh W f) (hv : (f.qs.map (·.r)).Perm f.rs ∧ ∃ O, f.v = .slice (some ⟨O, 0, none⟩) f.qs.length f.qs.length) : TInv W w5 t mp ms lp' lc (hs ++ [f]) cs ss := by
  have g4 := h.prep4 hb1 hg hb3 hw
  obtain ⟨a1, a2, a3⟩ := h.prep0 g4
  have G : Gs (fun i => lawX lp lc i ∨ (w.heap.size ≤ i ∧ i < w1.heap.size)) w2 w5 := (Gs.below hb3).trans ((hw.mono fun i _ e => .inr e).trans (hgr.mono fun i _ e => .inl (.inl e)))
  have s34 := hw.size
  have s23 := hb3.size
  refine ⟨hp.law G (fun i _ s => s) (fun i x => ?_), hl, hgr.own a2 (fun g q s => h.two g s q), a3.trans (hgr.toBelow a3.size fun i s => (World.ownsRow.lt a1 i s).1), fun p hp => ?_, fun p hp => ?_, h.sn, fun i hi e => ?_, h.sl⟩
  · rcases x with x | x
    · rcases hat i x with q | q
      · exact .inl (.inl (.inl q))
      · exact .inr (by omega)
    · exact .inl (.inl (.inr x))
  · rcases List.mem_append.1 hp with q | q
    · rcases List.mem_append.1 q with q | q
      · exact h.law p (List.mem_append_left _ q)
      · rw [List.mem_singleton.1 q]; exact hf
    · exact h.law p (List.mem_append_right _ q)
  · rcases List.mem_append.1 hp with q | q
    · exact h.hv p q
    · rw [List.mem_singleton.1 q]; exact hv
  · rcases hat i hi with q | q
    · exact h.two i q e
    · have := (World.ownsRow.lt a2 i e).2; omega
end
end Go.Proofs.YtmeeoamcelkhmaaGreatDoor
