import Derived.Test.YtobhccmnlmlapaaGreatDoorGo
namespace Go.Proofs.YtobhccmnlmlapaaGreatDoor
open Go.RowKit Go.Maps
set_option linter.unusedVariables false
set_option linter.unusedSimpArgs false

def sameC (c y : Ce) : Bool := decide (y.key = c.key) && decide (y.w = c.w)
/-- A cell in the place of what there was. -/
def putC (l : List Ce) (c : Ce) : List Ce := c :: l.filter fun y => !sameC c y
def updD (ds : List Dt) (x : Dt) : List Dt := if x.w ∈ ds.map (·.w) then ds.map (fun y => if y.w = x.w then x else y) else ds ++ [x]
theorem updD_ent (ds : List Dt) (x : Dt) : (updD ds x).map entD = put (ds.map entD) x.w x.v := by
  unfold updD put
  have e : (ds.map entD).map (·.1) = ds.map (·.w) := by rw [List.map_map]; rfl
  rw [e]
  split
  · rw [List.map_map, List.map_map]
    refine List.map_congr_left fun y hy => ?_
    simp only [Function.comp, entD]
    by_cases e : y.w = x.w
    · simp [e]
    · simp [e]
  · rw [List.map_append]; rfl
theorem updD_mem {ds : List Dt} {x y : Dt} (h : y ∈ updD ds x) : y = x ∨ y ∈ ds := by
  unfold updD at h
  split at h
  · obtain ⟨z, hz, rfl⟩ := List.mem_map.1 h
    split
    · exact .inl rfl
    · exact .inr hz
  · rcases List.mem_append.1 h with h | h
    · exact .inr h
    · exact .inl (List.mem_singleton.1 h)
theorem updD_ne (ds : List Dt) (x : Dt) : updD ds x ≠ [] := by
  unfold updD
  split
  · rename_i h
    intro e
    rw [List.map_eq_nil_iff] at e
    rw [e] at h
    simp at h
  · simp
theorem updD_perm (k : List V) : ∀ (ds : List Dt) (x : Dt), (ds.map (·.w)).Nodup → ((updD ds x).map (ceOf k)).Perm (putC (ds.map (ceOf k)) (ceOf k x)) := fun ds x hn => by
  unfold updD putC
  split
  · rename_i h
    induction ds with
    | nil => simp at h
    | cons y ds ih =>
      simp only [List.map_cons, List.nodup_cons, List.mem_cons] at hn h
      by_cases hy : y.w = x.w
      · have hx : x.w ∉ ds.map (·.w) := hy ▸ hn.1
        have e1 : ds.map (fun y => if y.w = x.w then x else y) = ds := by
          refine (List.map_congr_left fun q hq => ?_).trans (List.map_id ds)
          exact if_neg fun e => hx (List.mem_map.2 ⟨q, hq, e⟩)
        have e2 : (ds.map (ceOf k)).filter (fun y => !sameC (ceOf k x) y) = ds.map (ceOf k) := List.filter_eq_self.2 fun q hq => by
          obtain ⟨z, hz, rfl⟩ := List.mem_map.1 hq
          have : z.w ≠ x.w := fun e => hx (List.mem_map.2 ⟨z, hz, e⟩)
          simp [sameC, ceOf, this]
        have e3 : sameC (ceOf k x) (ceOf k y) = true := by simp [sameC, ceOf, hy]
        rw [List.map_cons, if_pos hy, List.map_cons, List.map_cons, List.filter_cons, e1, e2, e3]
        exact List.Perm.refl _
      · have hm : x.w ∈ ds.map (·.w) := by
          rcases h with h | h
          · exact absurd h.symm hy
          · exact h
        have e3 : sameC (ceOf k x) (ceOf k y) = false := by simp [sameC, ceOf, hy]
        rw [List.map_cons, if_neg hy, List.map_cons, List.map_cons, List.filter_cons, e3]
        exact ((ih hn.2 hm).cons _).trans (List.Perm.swap _ _ _)
  · rename_i h
    have e2 : (ds.map (ceOf k)).filter (fun y => !sameC (ceOf k x) y) = ds.map (ceOf k) := List.filter_eq_self.2 fun q hq => by
      obtain ⟨z, hz, rfl⟩ := List.mem_map.1 hq
      have : z.w ≠ x.w := fun e => h (List.mem_map.2 ⟨z, hz, e⟩)
      simp [sameC, ceOf, this]
    rw [e2, List.map_append]
    exact List.perm_append_singleton _ _
/-- A shelf with a cell more. -/
def updS (ss : List Sh) (s0 : Sh) (x : Dt) : List Sh := ss.map fun s => if s.key = s0.key then { s0 with ds := updD s0.ds x } else s
theorem filter_other {k : List V} {x : Dt} {s : Sh} (h : s.key ≠ k) : (cesS s).filter (fun y => !sameC (ceOf k x) y) = cesS s := List.filter_eq_self.2 fun q hq => by
  obtain ⟨z, hz, rfl⟩ := List.mem_map.1 hq
  simp [sameC, ceOf, h]
theorem filter_others {k : List V} {x : Dt} : ∀ (ss : List Sh), (∀ s ∈ ss, s.key ≠ k) → (ces ss).filter (fun y => !sameC (ceOf k x) y) = ces ss
  | [], _ => rfl
  | s :: ss, h => by
    have e : ces (s :: ss) = cesS s ++ ces ss := rfl
    rw [e, List.filter_append, filter_other (h s (by simp)), filter_others ss fun s hs => h s (by simp [hs])]
theorem updS_perm {ss : List Sh} {s0 : Sh} (x : Dt) (hs : s0 ∈ ss) (hk : (ss.map (·.key)).Nodup) (hw : (s0.ds.map (·.w)).Nodup) : (ces (updS ss s0 x)).Perm (putC (ces ss) (ceOf s0.key x)) := by
  unfold updS
  induction ss with
  | nil => cases hs
  | cons s ss ih =>
    simp only [List.map_cons, List.nodup_cons] at hk
    have e : ces (s :: ss) = cesS s ++ ces ss := rfl
    by_cases h : s.key = s0.key
    · have hss : s = s0 := by
        rcases List.mem_cons.1 hs with hs | hs
        · exact hs.symm
        · exact absurd (List.mem_map.2 ⟨s0, hs, h.symm⟩) hk.1
      subst hss
      have hno : ∀ s' ∈ ss, s'.key ≠ s.key := fun s' hs' e => hk.1 (List.mem_map.2 ⟨s', hs', e⟩)
      have e1 : ss.map (fun s' => if s'.key = s.key then { s with ds := updD s.ds x } else s') = ss := (List.map_congr_left fun q hq => if_neg (hno q hq)).trans (List.map_id ss)
      rw [List.map_cons, if_pos rfl, e1]
      have e2 : ces ({ s with ds := updD s.ds x } :: ss) = (updD s.ds x).map (ceOf s.key) ++ ces ss := rfl
      rw [e2]
      unfold putC
      rw [e, List.filter_append, filter_others ss hno]
      exact (updD_perm s.key s.ds x hw).append_right _
    · have hin : s0 ∈ ss := by
        rcases List.mem_cons.1 hs with hs | hs
        · exact absurd (by rw [hs]) h
        · exact hs
      rw [List.map_cons, if_neg h]
      have e2 : ∀ l, ces (s :: l) = cesS s ++ ces l := fun _ => rfl
      rw [e2]
      unfold putC
      rw [e, List.filter_append, filter_other h]
      refine ((ih hin hk.2).append_left (cesS s)).trans ?_
      unfold putC
      exact List.perm_middle
theorem putC_len {l : List Ce} {c o : Ce} (ha : Apart l) (ho : o ∈ l) (hk : o.key = c.key) (hw : o.w = c.w) : l.Perm (o :: l.filter fun y => !sameC c y) := by
  induction l with
  | nil => cases ho
  | cons y l ih =>
    obtain ⟨h1, h2⟩ := List.pairwise_cons.1 ha
    rw [List.filter_cons]
    by_cases hy : y.key = c.key ∧ y.w = c.w
    · have e : o = y := ha.one ho (by simp) (hk.trans hy.1.symm) (hw.trans hy.2.symm)
      have e2 : l.filter (fun y => !sameC c y) = l := List.filter_eq_self.2 fun q hq => by
        have := h1 q hq
        simp only [sameC, Bool.not_eq_true', Bool.and_eq_false_iff, decide_eq_false_iff_not]
        by_cases e1 : q.key = c.key
        · exact .inr fun e2 => this ⟨hy.1.trans e1.symm, hy.2.trans e2.symm⟩
        · exact .inl e1
      rw [e2, e]
      simp [sameC, hy]
    · have e : o ∈ l := by
        rcases List.mem_cons.1 ho with rfl | ho
        · exact absurd ⟨hk, hw⟩ hy
        · exact ho
      have e3 : sameC c y = false := by
        cases hs : sameC c y with
        | false => rfl
        | true => simp [sameC] at hs; exact absurd hs hy
      rw [e3]
      exact ((ih h2 e).cons y).trans (List.Perm.swap _ _ _)
theorem putC_none {l : List Ce} {c : Ce} (h : ∀ y ∈ l, ¬ (y.key = c.key ∧ y.w = c.w)) : putC l c = c :: l := by
  unfold putC
  congr 1
  refine List.filter_eq_self.2 fun q hq => ?_
  have := h q hq
  simp only [sameC, Bool.not_eq_true', Bool.and_eq_false_iff, decide_eq_false_iff_not]
  by_cases e1 : q.key = c.key
  · exact .inr fun e2 => this ⟨e1, e2⟩
  · exact .inl e1
theorem putC_some_wt {l : List Ce} {c o : Ce} (ha : Apart l) (ho : o ∈ l) (hk : o.key = c.key) (hw : o.w = c.w) : wt (putC l c) + wg o = wt l + wg c ∧ (putC l c).length = l.length := by
  have hp := putC_len (c := c) ha ho hk hw
  have h1 := wt_perm hp
  have h2 := hp.length_eq
  rw [wt_cons] at h1
  unfold putC
  rw [wt_cons]
  simp only [List.length_cons] at h2 ⊢
  omega
theorem key_inj {w : World} {B t mp : Nat} {lo hi nc nw : Int} {ss : List Sh} (h : PQ w B t mp lo hi nc nw ss) {a b : Sh} (ha : a ∈ ss) (hb : b ∈ ss) (e : a.key = b.key) : a = b := by
  have hk := h.keys
  clear h
  induction ss with
  | nil => cases ha
  | cons s ss ih =>
    simp only [List.map_cons, List.nodup_cons] at hk
    rcases List.mem_cons.1 ha with ea | pa
    · rcases List.mem_cons.1 hb with eb | pb
      · rw [ea, eb]
      · exact absurd (List.mem_map.2 ⟨b, pb, by rw [← e, ea]⟩) hk.1
    · rcases List.mem_cons.1 hb with eb | pb
      · exact absurd (List.mem_map.2 ⟨a, pa, by rw [e, eb]⟩) hk.1
      · exact ih pa pb hk.2
theorem mb_inj {w : World} {B t mp : Nat} {lo hi nc nw : Int} {ss : List Sh} (h : PQ w B t mp lo hi nc nw ss) {a b : Sh} (ha : a ∈ ss) (hb : b ∈ ss) (e : a.mb = b.mb) : a = b := by
  have hk := h.ds
  clear h
  induction ss with
  | nil => cases ha
  | cons s ss ih =>
    simp only [List.map_cons, List.nodup_cons] at hk
    rcases List.mem_cons.1 ha with ea | pa
    · rcases List.mem_cons.1 hb with eb | pb
      · rw [ea, eb]
      · exact absurd (List.mem_map.2 ⟨b, pb, by rw [← e, ea]⟩) hk.1
    · rcases List.mem_cons.1 hb with eb | pb
      · exact absurd (List.mem_map.2 ⟨a, pa, by rw [e, eb]⟩) hk.1
      · exact ih pa pb hk.2
theorem updS_ent (ss : List Sh) (s0 : Sh) (x : Dt) (h : ∀ s ∈ ss, s.key = s0.key → s = s0) : (updS ss s0 x).map entS = ss.map entS ∧ (updS ss s0 x).map (·.mb) = ss.map (·.mb) := by
  unfold updS
  rw [List.map_map, List.map_map]
  refine ⟨List.map_congr_left fun s hs => ?_, List.map_congr_left fun s hs => ?_⟩
  · simp only [Function.comp]
    by_cases e : s.key = s0.key
    · rw [if_pos e, h s hs e]; rfl
    · rw [if_neg e]
  · simp only [Function.comp]
    by_cases e : s.key = s0.key
    · rw [if_pos e, h s hs e]
    · rw [if_neg e]
theorem updS_mem {ss : List Sh} {s0 s : Sh} {x : Dt} (h : s ∈ updS ss s0 x) : s = { s0 with ds := updD s0.ds x } ∨ (s ∈ ss ∧ s.key ≠ s0.key) := by
  unfold updS at h
  obtain ⟨z, hz, rfl⟩ := List.mem_map.1 h
  split
  · exact .inl rfl
  · rename_i e; exact .inr ⟨hz, e⟩
/-- A cell more on a shelf that there is. -/
theorem PQ.old {w w' : World} {B t mp : Nat} {lo hi nc nw : Int} {ss : List Sh} {s0 : Sh} {x : Dt} (h : PQ w B t mp lo hi nc nw ss) (hs : s0 ∈ ss) (hg : Gs (fun i => i = t ∨ i = s0.mb) w w')
    (ho : Own w' t 82 5 [.int .i64 lo, .int .i64 hi, .map (some mp), .int .i64 ((ces (updS ss s0 x)).length : Int), .int .i64 (wt (ces (updS ss s0 x)) : Int)]) (hm : MP w' wk s0.mb (put (s0.ds.map entD) x.w x.v)) (hd : Wr.OL w' w.heap.size x.v x.d) (hx : kp x.w = true) (hw : wt (ces (updS ss s0 x)) ≤ 67108864) : PS w' B t mp lo hi (updS ss s0 x) := by
  have hB : B ≤ w.heap.size := by have := h.ge.1; have := h.own.lt; omega
  have hk0 := h.sho s0 hs
  have huniq : ∀ s ∈ ss, s.key = s0.key → s = s0 := fun s hs' e => key_inj h hs' hs e
  obtain ⟨e1, e2⟩ := updS_ent ss s0 x huniq
  have hmem : ∀ s ∈ updS ss s0 x, s = { s0 with ds := updD s0.ds x } ∨ (s ∈ ss ∧ s.mb ≠ s0.mb) := fun s hs' => by
    rcases updS_mem hs' with h1 | ⟨h1, h2⟩
    · exact .inl h1
    · exact .inr ⟨h1, fun e => h2 (by rw [mb_inj h h1 hs e])⟩
  have hTb : ∀ i, Tb t mp (updS ss s0 x) i ↔ Tb t mp ss i := fun i => by
    unfold Tb
    have : (∃ s ∈ updS ss s0 x, i = s.mb) ↔ ∃ s ∈ ss, i = s.mb := by
      have l : ∀ l : List Sh, (∃ s ∈ l, i = s.mb) ↔ i ∈ l.map (·.mb) := fun l => by simp [List.mem_map, eq_comm]
      rw [l, l, e2]
    rw [this]
  have nS : ∀ i, Fx ss i → ¬ (i = t ∨ i = s0.mb) := fun i hf hi' => h.fx i hf (by
    rcases hi' with e | e
    · exact .inl e
    · exact .inr (.inr ⟨s0, hs, e⟩))
  have newB : ∀ i, x.v.ownBlock = some i → w.heap.size ≤ i := fun i hi' => (World.ownsRow.lt hd i hi').1
  have hdB : Wr.OL w' B x.v x.d := by
    refine ⟨hd.1, ?_⟩
    rcases hd.2 with q | ⟨g, cap, cur, q1, q2, q3⟩
    · exact .inl q
    · exact .inr ⟨g, cap, cur, q1, Nat.le_trans hB q2, q3⟩
  refine ⟨ho, ?_, fun s hs' => ?_, h.ge, ⟨h.ne.1, fun s hs' => ?_⟩, ?_, fun i hf hT => ?_, hw, h.rg⟩
  · rw [e1]
    exact hg.map h.mpo (fun e => by
      rcases e with e | e
      · exact h.ne.1 e.symm
      · exact (h.ne.2 s0 hs).2 e.symm)
  · rcases hmem s hs' with rfl | ⟨h1, h2⟩
    · refine ⟨hg.own hk0.key fun g hg' => nS g ⟨s0, hs, .inl hg'⟩, hk0.good, hk0.val, hk0.gl, hk0.gh, ?_, hk0.ge, updD_ne _ _, fun y hy => ?_⟩
      · show MP w' wk s0.mb ((updD s0.ds x).map entD)
        rw [updD_ent]; exact hm
      · rcases updD_mem hy with rfl | hy
        · exact ⟨hdB, hx⟩
        · exact ⟨hg.own (hk0.dat y hy).1 fun g hg' => nS g ⟨s0, hs, .inr ⟨y, hy, hg'⟩⟩, (hk0.dat y hy).2⟩
    · exact (h.sho s h1).kept hg (fun e => by
        rcases e with e | e
        · exact (h.ne.2 s h1).1 e
        · exact h2 e) fun i hi' => nS i ⟨s, h1, hi'⟩
  · rcases hmem s hs' with rfl | ⟨h1, h2⟩
    · exact h.ne.2 s0 hs
    · exact h.ne.2 s h1
  · rw [e2]; exact h.ds
  · rw [hTb] at hT
    obtain ⟨s, hs', hf⟩ := hf
    rcases hmem s hs' with rfl | ⟨h1, h2⟩
    · rcases hf with hf | ⟨y, hy, hf⟩
      · exact h.fx i ⟨s0, hs, .inl hf⟩ hT
      · rcases updD_mem hy with rfl | hy
        · have := newB i hf
          have := (h.lt (.inl hT)).2
          omega
        · exact h.fx i ⟨s0, hs, .inr ⟨y, hy, hf⟩⟩ hT
    · exact h.fx i ⟨s, h1, hf⟩ hT
/-- A shelf more. -/
theorem PQ.shelf {w w' : World} {B t mp : Nat} {lo hi nc nw : Int} {ss : List Sh} {s0 : Sh} (h : PQ w B t mp lo hi nc nw ss) (hg : Gs (fun i => i = t ∨ i = mp) w w')
    (ho : Own w' t 82 5 [.int .i64 lo, .int .i64 hi, .map (some mp), .int .i64 ((ces (ss ++ [s0])).length : Int), .int .i64 (wt (ces (ss ++ [s0])) : Int)]) (hm : MP w' sk mp ((ss ++ [s0]).map entS)) (hs : ShOk w' w.heap.size lo hi s0) (hf0 : ∀ i, (s0.kv.ownBlock = some i ∨ ∃ x ∈ s0.ds, x.v.ownBlock = some i) → i ≠ s0.mb) (hw : wt (ces (ss ++ [s0])) ≤ 67108864) : PS w' B t mp lo hi (ss ++ [s0]) := by
  have hB : B ≤ w.heap.size := by have := h.ge.1; have := h.own.lt; omega
  have nS : ∀ i, Fx ss i → ¬ (i = t ∨ i = mp) := fun i hf hi' => h.fx i hf (by
    rcases hi' with e | e
    · exact .inl e
    · exact .inr (.inl e))
  have hlt : ∀ i, Bl t mp ss i → i < w.heap.size := fun i hi' => (h.lt hi').2
  have hnew : ∀ i, (s0.kv.ownBlock = some i ∨ ∃ x ∈ s0.ds, x.v.ownBlock = some i) → w.heap.size ≤ i := fun i hi' => by
    rcases hi' with e | ⟨y, hy, e⟩
    · exact (World.ownsRow.lt hs.key i e).1
    · exact (World.ownsRow.lt (hs.dat y hy).1 i e).1
  have base : ∀ {e size n : Nat} {v : Value} {xs : List Value}, w'.ownsRow w.heap.size e size v n xs → w'.ownsRow B e size v n xs := fun hd => by
    refine ⟨hd.1, ?_⟩
    rcases hd.2 with q | ⟨g, cap, cur, q1, q2, q3⟩
    · exact .inl q
    · exact .inr ⟨g, cap, cur, q1, Nat.le_trans hB q2, q3⟩
  refine ⟨ho, hm, fun s hs' => ?_, h.ge, ⟨h.ne.1, fun s hs' => ?_⟩, ?_, fun i hf hT => ?_, hw, h.rg⟩
  · rcases List.mem_append.1 hs' with h1 | h1
    · exact (h.sho s h1).kept hg (fun e => by
        rcases e with e | e
        · exact (h.ne.2 s h1).1 e
        · exact (h.ne.2 s h1).2 e) fun i hi' => nS i ⟨s, h1, hi'⟩
    · rw [List.mem_singleton.1 h1]
      exact ⟨base hs.key, hs.good, hs.val, hs.gl, hs.gh, hs.map, Nat.le_trans hB hs.ge, hs.ne, fun y hy => ⟨base (hs.dat y hy).1, (hs.dat y hy).2⟩⟩
  · rcases List.mem_append.1 hs' with h1 | h1
    · exact h.ne.2 s h1
    · rw [List.mem_singleton.1 h1]
      have a1 := hlt t (.inl (.inl rfl))
      have a2 := hlt mp (.inl (.inr (.inl rfl)))
      have a3 := hs.ge
      exact ⟨by omega, by omega⟩
  · rw [List.map_append, List.nodup_append]
    refine ⟨h.ds, by simp, fun a ha b hb e => ?_⟩
    simp at hb
    obtain ⟨s, hs', rfl⟩ := List.mem_map.1 ha
    have a1 := hlt s.mb (.inl (.inr (.inr ⟨s, hs', rfl⟩)))
    have a3 := hs.ge
    omega
  · obtain ⟨s, hs', hf⟩ := hf
    have hT' : Tb t mp ss i ∨ i = s0.mb := by
      rcases hT with hT | hT | ⟨s', hs'', e⟩
      · exact .inl (.inl hT)
      · exact .inl (.inr (.inl hT))
      · rcases List.mem_append.1 hs'' with h1 | h1
        · exact .inl (.inr (.inr ⟨s', h1, e⟩))
        · rw [List.mem_singleton.1 h1] at e; exact .inr e
    rcases List.mem_append.1 hs' with h1 | h1
    · rcases hT' with hT' | e
      · exact h.fx i ⟨s, h1, hf⟩ hT'
      · have a1 := hlt i (.inr ⟨s, h1, hf⟩)
        have a3 := hs.ge
        omega
    · rw [List.mem_singleton.1 h1] at hf
      rcases hT' with hT' | e
      · have a1 := hlt i (.inl hT')
        have a2 := hnew i hf
        omega
      · exact hf0 i hf e
end Go.Proofs.YtobhccmnlmlapaaGreatDoor
namespace Go.Proofs.YtobhccmnlmlapaaGreatDoor
open Go.RowKit Go.Maps
set_option linter.unusedVariables false
set_option linter.unusedSimpArgs false
set_option maxRecDepth 100000

theorem look_none {ss : List Sh} {vs : List V} {x : Wn} (hk : (ss.map (·.key)).Nodup) (h : look ss vs x = none) : ∀ c ∈ ces ss, ¬ (c.key = vs ∧ c.w = x) := fun c hc e => by
  obtain ⟨s, hs, y, hy, rfl⟩ := mem_ces.1 hc
  obtain ⟨e1, e2⟩ := e
  simp only at e1 e2
  unfold look at h
  cases hso : shOf ss vs with
  | none => exact shOf_none hso s hs e1
  | some s' =>
    rw [hso, Option.bind_some] at h
    obtain ⟨p1, p2⟩ := shOf_some hso
    have : s' = s := by
      clear h hso
      induction ss with
      | nil => cases hs
      | cons z ss ih =>
        simp only [List.map_cons, List.nodup_cons] at hk
        rcases List.mem_cons.1 hs with ea | pa
        · rcases List.mem_cons.1 p1 with eb | pb
          · rw [ea, eb]
          · exact absurd (List.mem_map.2 ⟨s', pb, by rw [p2, ← e1, ea]⟩) hk.1
        · rcases List.mem_cons.1 p1 with eb | pb
          · exact absurd (List.mem_map.2 ⟨s, pa, by rw [e1, ← p2, eb]⟩) hk.1
          · exact ih hk.2 pa (mem_ces.2 ⟨s, pa, y, hy, rfl⟩) pb
    subst this
    exact dtOf_none h y hy e2
theorem look_some {ss : List Sh} {vs : List V} {x : Wn} {y : Dt} (h : look ss vs x = some y) : ∃ s ∈ ss, s.key = vs ∧ y ∈ s.ds ∧ y.w = x := by
  unfold look at h
  cases hso : shOf ss vs with
  | none => rw [hso] at h; cases h
  | some s' =>
    rw [hso, Option.bind_some] at h
    exact ⟨s', (shOf_some hso).1, (shOf_some hso).2, dtOf_some h⟩
/-- What a store weighs with a cell in the place of what there was. -/
def newW (ss : List Sh) (vs : List V) (x : Wn) (n : Nat) : Int := (wt (ces ss) : Int) + ((n + 64 * vs.length + 32 : Nat) : Int) - (match lookV ss vs x with | some y => ((y.d.length + 64 * vs.length + 32 : Nat) : Int) | none => 0)
def newN (ss : List Sh) (vs : List V) (x : Wn) : Int := ((ces ss).length : Int) + 1 - (match lookV ss vs x with | some y => 1 | none => 0)
theorem new_eq {w : World} {B t mp : Nat} {lo hi nc nw : Int} {ss : List Sh} (h : PQ w B t mp lo hi nc nw ss) (vs : List V) (x : Wn) (d : List UInt8) (hk : vk vs = true) : newW ss vs x d.length = (wt (putC (ces ss) ⟨vs, x, d⟩) : Int) ∧ newN ss vs x = ((putC (ces ss) ⟨vs, x, d⟩).length : Int) := by
  unfold newW newN lookV
  rw [if_pos hk]
  cases hl : look ss vs x with
  | none =>
    have := putC_none (l := ces ss) (c := ⟨vs, x, d⟩) (look_none h.keys hl)
    rw [this, wt_cons, List.length_cons]
    simp only [wg, wgh]
    omega
  | some y =>
    obtain ⟨s, hs, e1, hy, e2⟩ := look_some hl
    obtain ⟨q1, q2⟩ := putC_some_wt (c := ⟨vs, x, d⟩) (o := ⟨s.key, y.w, y.d⟩) h.apart (mem_ces.2 ⟨s, hs, y, hy, rfl⟩) e1 e2
    simp only [wg, wgh, e1] at q1
    simp only
    omega
/-- What a Put leaves. -/
def PutFin (w : World) (B t mp : Nat) (lo hi : Int) (ss : List Sh) (c : Ce) (w' : World) : Prop := ∃ ss', PS w' B t mp lo hi ss' ∧ (ces ss').Perm (putC (ces ss) c) ∧ Gs (Tb t mp ss) w w' ∧ ∀ i, Bl t mp ss' i → Bl t mp ss i ∨ w.heap.size ≤ i
set_option maxHeartbeats 1000000 in
/-- On a shelf that there is. -/
theorem fin_old {w w5 w7 : World} {B t mp : Nat} {lo hi : Int} {ss : List Sh} {s0 : Sh} {x : Wn} {v' : Value} {d : List UInt8} (h : PS w B t mp lo hi ss) (hs : s0 ∈ ss) (hx : Fits x) (hkx : kp x = true) (g5 : Gs (fun i => i = t) w w5) (o5 : Own w5 t 82 5 [.int .i64 lo, .int .i64 hi, .map (some mp), .int .i64 ((putC (ces ss) ⟨s0.key, x, d⟩).length : Int), .int .i64 (wt (putC (ces ss) ⟨s0.key, x, d⟩) : Int)]) (b7 : Below w5.heap.size w5 w7) (hd : Wr.OL w7 w.heap.size v' d) (hw : wt (putC (ces ss) ⟨s0.key, x, d⟩) ≤ 67108864) :
    ∃ w8, (Instr.mapUpdate 85 (.map (some s0.mb)) (vv x) v').run Tryz.prog w7 = .ok () w8 ∧ w7.grownBy w8 (some s0.mb) ∧ PutFin w B t mp lo hi ss ⟨s0.key, x, d⟩ w8 := by
  have hk0 := h.sho s0 hs
  have hne := h.ne.2 s0 hs
  have lm := (h.lt (.inl (.inr (.inr ⟨s0, hs, rfl⟩)))).2
  have g7 : Gs (fun i => i = t) w w7 := g5.trans (Gs.below b7)
  have m7 : MP w7 wk s0.mb (s0.ds.map entD) := g7.map hk0.map hne.1
  have hfew : s0.ds.length ≤ 2097152 := by
    have h1 := wt_len (ces ss)
    have h2 := h.wl
    have h3 : s0.ds.length ≤ (ces ss).length := by
      obtain ⟨p, q, rfl⟩ := List.append_of_mem hs
      unfold ces
      rw [List.flatMap_append, List.flatMap_cons, List.length_append, List.length_append]
      have : (cesS s0).length = s0.ds.length := by unfold cesS; simp
      omega
    omega
  obtain ⟨w8, hr, hm, ht⟩ := m7.store lawV Tryz.underlying85 x hx v' (by unfold maxLen; simp; omega)
  have g8 := ht.grown
  have hperm := updS_perm (ss := ss) (s0 := s0) ⟨x, v', d⟩ hs h.keys (wins hk0)
  have hperm' : (ces (updS ss s0 ⟨x, v', d⟩)).Perm (putC (ces ss) ⟨s0.key, x, d⟩) := hperm
  have gs : Gs (fun i => i = t ∨ i = s0.mb) w w8 := (g7.mono (fun i _ e => .inl e)).trans (Gs.one g8 (fun k e => .inr (Option.some.inj e).symm))
  have l7 : w.heap.size ≤ w7.heap.size := g7.size
  have hd8 : Wr.OL w8 w.heap.size v' d := own_grown hd g8 fun g hg e => by
    have := (World.ownsRow.lt hd g hg).1
    have := Option.some.inj e
    omega
  have o8 := ((o5.later b7).grown g8 (by simp; exact fun e => hne.1 e.symm))
  have hq := h.old (x := ⟨x, v', d⟩) hs gs (by rw [hperm'.length_eq, wt_perm hperm']; exact o8) hm hd8 hkx (by rw [wt_perm hperm']; exact hw)
  refine ⟨w8, hr, g8, _, hq, hperm', gs.mono (fun i _ e => ?_), fun i hi' => ?_⟩
  · rcases e with e | e
    · exact .inl e
    · exact .inr (.inr ⟨s0, hs, e⟩)
  · rcases hi' with (e | e | ⟨s, hs', e⟩) | ⟨s, hs', hf⟩
    · exact .inl (.inl (.inl e))
    · exact .inl (.inl (.inr (.inl e)))
    · rcases updS_mem hs' with rfl | ⟨p1, p2⟩
      · exact .inl (.inl (.inr (.inr ⟨s0, hs, e⟩)))
      · exact .inl (.inl (.inr (.inr ⟨s, p1, e⟩)))
    · rcases updS_mem hs' with rfl | ⟨p1, p2⟩
      · rcases hf with hf | ⟨y, hy, hf⟩
        · exact .inl (.inr ⟨s0, hs, .inl hf⟩)
        · rcases updD_mem hy with rfl | hy
          · exact .inr (World.ownsRow.lt hd8 i hf).1
          · exact .inl (.inr ⟨s0, hs, .inr ⟨y, hy, hf⟩⟩)
      · exact .inl (.inr ⟨s, p1, hf⟩)
set_option maxHeartbeats 1000000 in
/-- On a new shelf. -/
theorem fin_new {w w5 w6 w7 : World} {B t mp mb : Nat} {lo hi : Int} {ss : List Sh} {vs : List V} {kv : Value} {x : Wn} {v' : Value} {d : List UInt8} (h : PS w B t mp lo hi ss) (hso : shOf ss vs = none) (hk : vk vs = true) (hgk : GoodK vs) (hgl : lo ≤ (grp vs : Int)) (hgh : (grp vs : Int) < hi) (hx : Fits x) (hkx : kp x = true) (g5 : Gs (fun i => i = t) w w5) (o5 : Own w5 t 82 5 [.int .i64 lo, .int .i64 hi, .map (some mp), .int .i64 ((putC (ces ss) ⟨vs, x, d⟩).length : Int), .int .i64 (wt (putC (ces ss) ⟨vs, x, d⟩) : Int)]) (g6 : Gs (fun i => i = mp) w5 w6) (hkv : OV w6 w.heap.size kv vs) (hmb : MP w6 wk mb []) (hlm : w.heap.size ≤ mb) (hne : some mb ≠ kv.ownBlock) (hmp : MP w6 sk mp (ss.map entS ++ [(nameOf vs, .agg #[kv, .map (some mb)])])) (b7 : Below w6.heap.size w6 w7) (hd : Wr.OL w7 w6.heap.size v' d) (hw : wt (putC (ces ss) ⟨vs, x, d⟩) ≤ 67108864) :
    ∃ w8, (Instr.mapUpdate 85 (.map (some mb)) (vv x) v').run Tryz.prog w7 = .ok () w8 ∧ w7.grownBy w8 (some mb) ∧ PutFin w B t mp lo hi ss ⟨vs, x, d⟩ w8 := by
  have lt0 := (h.lt (.inl (.inl rfl))).2
  have lm0 := (h.lt (.inl (.inr (.inl rfl)))).2
  have l6 : w.heap.size ≤ w6.heap.size := Nat.le_trans g5.size g6.size
  have lmb := hmb.lt
  obtain ⟨w8, hr, hm, ht⟩ := (hmb.kept (grown_below (r := none) b7) (by simp)).store lawV Tryz.underlying85 x hx v' (by unfold maxLen; simp)
  have g8 := ht.grown
  have gs7 : Gs (fun i => i = t ∨ i = mp) w w7 := ((g5.mono (T := fun i => i = t ∨ i = mp) (fun i _ e => .inl e)).trans (g6.mono (fun i _ e => .inr e))).trans (Gs.below b7)
  have gs : Gs (fun i => i = t ∨ i = mp) w w8 := gs7.new (Gs.one (S := fun i => i = mb) g8 (fun k e => (Option.some.inj e).symm)) (fun i e hi' => by omega)
  have hnone : ∀ s ∈ ss, s.key ≠ vs := shOf_none hso
  have hput : putC (ces ss) ⟨vs, x, d⟩ = ⟨vs, x, d⟩ :: ces ss := putC_none fun y hy e => by
    obtain ⟨s, hs, z, hz, rfl⟩ := mem_ces.1 hy
    exact hnone s hs e.1
  have hperm : (ces (ss ++ [⟨vs, kv, mb, [⟨x, v', d⟩]⟩])).Perm (putC (ces ss) ⟨vs, x, d⟩) := by
    rw [hput]
    unfold ces
    rw [List.flatMap_append]
    exact List.perm_append_singleton _ _
  have b8 : ∀ g, g < w7.heap.size → g ≠ mb → w8.heap[g]? = w7.heap[g]? := fun g hg hn => g8.block g hg (by simp; exact hn)
  have base : ∀ {W : World} {B1 B2 e size n : Nat} {v : Value} {xs : List Value}, B2 ≤ B1 → W.ownsRow B1 e size v n xs → W.ownsRow B2 e size v n xs := fun hB hd => by
    refine ⟨hd.1, ?_⟩
    rcases hd.2 with q | ⟨g, cap, cur, q1, q2, q3⟩
    · exact .inl q
    · exact .inr ⟨g, cap, cur, q1, Nat.le_trans hB q2, q3⟩
  have hkv8 : OV w8 w.heap.size kv vs := own_grown (own_later hkv b7) g8 fun g hg e => hne (by rw [← e, hg])
  have hd8 : Wr.OL w8 w6.heap.size v' d := own_grown hd g8 fun g hg e => by
    have := (World.ownsRow.lt hd g hg).1
    have := Option.some.inj e
    omega
  have o6 : Own w6 t 82 5 [.int .i64 lo, .int .i64 hi, .map (some mp), .int .i64 ((putC (ces ss) ⟨vs, x, d⟩).length : Int), .int .i64 (wt (putC (ces ss) ⟨vs, x, d⟩) : Int)] := g6.own o5 (fun g hg e => h.ne.1 (by cases hg; exact e))
  have o8 := (o6.later b7).grown g8 (by simp; omega)
  have hm8 : MP w8 sk mp ((ss ++ [(⟨vs, kv, mb, [⟨x, v', d⟩]⟩ : Sh)]).map entS) := by
    rw [List.map_append]
    exact (hmp.kept (grown_below (r := none) b7) (by simp)).kept g8 (by simp; omega)
  have hsh : ShOk w8 w.heap.size lo hi ⟨vs, kv, mb, [⟨x, v', d⟩]⟩ := ⟨hkv8, hgk, hk, hgl, hgh, hm, hlm, by simp, fun y hy => by
    simp at hy
    subst hy
    exact ⟨base l6 hd8, hkx⟩⟩
  have hf0 : ∀ i, (kv.ownBlock = some i ∨ ∃ y ∈ [(⟨x, v', d⟩ : Dt)], y.v.ownBlock = some i) → i ≠ mb := fun i hi' e => by
    rcases hi' with hi' | ⟨y, hy, hi'⟩
    · exact hne (by rw [hi', e])
    · simp at hy
      subst hy
      have := (World.ownsRow.lt hd8 i hi').1
      omega
  have hq := h.shelf (s0 := ⟨vs, kv, mb, [⟨x, v', d⟩]⟩) gs (by rw [hperm.length_eq, wt_perm hperm]; exact o8) hm8 hsh hf0 (by rw [wt_perm hperm]; exact hw)
  refine ⟨w8, hr, g8, _, hq, hperm, gs.mono (fun i _ e => ?_), fun i hi' => ?_⟩
  · rcases e with e | e
    · exact .inl e
    · exact .inr (.inl e)
  · rcases hi' with (e | e | ⟨s, hs', e⟩) | ⟨s, hs', hf⟩
    · exact .inl (.inl (.inl e))
    · exact .inl (.inl (.inr (.inl e)))
    · rcases List.mem_append.1 hs' with p | p
      · exact .inl (.inl (.inr (.inr ⟨s, p, e⟩)))
      · rw [List.mem_singleton.1 p] at e
        exact .inr (by rw [e]; exact hlm)
    · rcases List.mem_append.1 hs' with p | p
      · exact .inl (.inr ⟨s, p, hf⟩)
      · rw [List.mem_singleton.1 p] at hf
        rcases hf with hf | ⟨y, hy, hf⟩
        · exact .inr (World.ownsRow.lt hkv8 i hf).1
        · simp at hy
          subst hy
          exact .inr (Nat.le_trans l6 (World.ownsRow.lt hd8 i hf).1)
end Go.Proofs.YtobhccmnlmlapaaGreatDoor
