import Derived.Test.YtmeeoamcelkhmaaGreatDoorTbJ
import Derived.Maps.AppendAt
namespace Go.Proofs.YtmeeoamcelkhmaaGreatDoor
open Go.RowKit Go.Maps
set_option linter.unusedVariables false
set_option linter.unusedSimpArgs false
set_option maxRecDepth 100000

def seenQ (ss : List Sn) (nm : ByteArray) : List Q := ((ss.find? fun s => decide (s.nm = nm)).map (·.qs)).getD []
def seenV (ss : List Sn) (nm : ByteArray) : Value := ((ss.find? fun s => decide (s.nm = nm)).map (·.v)).getD (.slice none 0 0)
theorem fnd_entS (ss : List Sn) (nm : ByteArray) : (fnd (ss.map entS) nm).getD (.slice none 0 0) = seenV ss nm := by
  unfold fnd seenV
  rw [List.find?_map]
  have : ((fun p : ByteArray × Value => decide (p.1 = nm)) ∘ entS) = fun s => decide (s.nm = nm) := rfl
  rw [this, Option.map_map]
  rfl
theorem PT.rr {w : World} {B t mp ms : Nat} {X : Nat → Prop} {hs : List Hp} {ss : List Sn} (h : PT w B t mp ms X hs ss) (nm : ByteArray) : RR w B (Mu t mp ms ss X) (seenV ss nm) (seenQ ss nm) := by
  unfold seenV seenQ
  cases hf : ss.find? fun s => decide (s.nm = nm) with
  | none => exact ⟨World.ownsRow_nil _ _ _ _, (fun q hq => by cases hq), (fun q hq => by cases hq)⟩
  | some s => exact h.sh s (List.mem_of_find?_eq_some hf)

set_option maxHeartbeats 1000000 in
theorem rows_any (w : World) (B t mp ms : Nat) (X : Nat → Prop) (hs : List Hp) (ss : List Sn) (nm : ByteArray) (h : PT w B t mp ms X hs ss) (hnm : nm.size ≤ maxLen) (hl : (seenQ ss nm).length ≤ 4398046511104) (hv : ∀ q ∈ seenQ ss nm, q.r.vs.length ≤ 4398046511104) :
    Calls Tryz.prog 12 #[.pointer (some ⟨t, 0, none⟩), .string nm] w (SPost w ((seenQ ss nm).map (·.r))) := by
  obtain ⟨c0, c1⟩ := h.cells
  have hL : (Instr.lookup 57 (.map (some ms)) (.string nm) false).run Tryz.prog w = .ok (seenV ss nm) w := by
    have := h.see.look1 K9 Tryz.underlying57 (zRows w) nm hnm
    rw [fnd_entS] at this
    exact this
  obtain ⟨a, c, ev, hrl⟩ := (h.rr nm).rlies
  rw [ev] at hL
  have HC := hidMk (sorted_any ((seenQ ss nm).map (·.r)) a c w hrl (by rw [List.length_map]; exact hl) (fun r hr => by obtain ⟨q, hq, rfl⟩ := List.mem_map.1 hr; exact hv q hq))
  rw [List.length_map] at HC
  clear h hrl ev hv
  go_enter Tryz.func12, Tryz.ntmps12
  go_wp2_with fail
  refine HC.out.mono ?_
  rintro e w1 ⟨O, ps, rfl, h1⟩
  have HH := hidMk h1
  clear h1
  go_wp2_with fail
  go_ret
  exact ⟨O, ps, rfl, HH.out⟩

set_option maxHeartbeats 2000000 in
theorem commit_none (w : World) (B t mp ms : Nat) (X : Nat → Prop) (hs : List Hp) (ss : List Sn) (x : Tx) (h : PT w B t mp ms X hs ss) (hx : Fits x) (hin : x ∉ hs.map (·.x)) :
    Calls Tryz.prog 9 #[.pointer (some ⟨t, 0, none⟩), vv x] w fun e w' => e = .returned (.bool false) ∧ PT w' B t mp ms X hs ss ∧ Gs (fun i => i = mp) w w' := by
  have hB := bel1 w (.cells #[.int .i64 x.m, .string x.sn, .int .i64 x.tk] 27)
  have HT := hidMk (take_any _ B t mp ms X hs ss x (h.later hB) hx)
  have HB := hidMk hB
  rw [fnd_entH hin, delH_none hin] at HT
  simp only [Option.getD_none, Option.isSome_none] at HT
  clear h hx hB
  unfold vv at HT ⊢
  go_enter Tryz.func9, Tryz.ntmps9
  go_wp2_with fail
  refine HT.out.mono ?_
  rintro e w1 ⟨rfl, h1, h2⟩
  have HF : Hid (PT w1 B t mp ms X hs ss ∧ Gs (fun i => i = mp) w w1) := ⟨h1, (Gs.below HB.out).trans h2⟩
  clear h1 h2
  go_wp2_with fail
  go_ret
  exact ⟨rfl, HF.out⟩
theorem seenV_mem {ss : List Sn} {nm : ByteArray} {i : Nat} (h : (seenV ss nm).ownBlock = some i) : ∃ s ∈ ss, s.nm = nm ∧ s.v.ownBlock = some i := by
  unfold seenV at h
  cases hf : ss.find? fun s => decide (s.nm = nm) with
  | none => rw [hf] at h; cases h
  | some s =>
    rw [hf] at h
    exact ⟨s, List.mem_of_find?_eq_some hf, by simpa using List.find?_some hf, h⟩
theorem any_nm (ss : List Sn) (nm : ByteArray) : (ss.any fun s => decide (s.nm = nm)) = true ↔ nm ∈ ss.map (·.nm) := by
  rw [List.any_eq_true, List.mem_map]
  simp only [decide_eq_true_eq]
def putS (ss : List Sn) (nm : ByteArray) (v : Value) (qs : List Q) : List Sn := if (ss.any fun s => decide (s.nm = nm)) = true then ss.map (fun s => if s.nm = nm then ⟨nm, v, qs⟩ else s) else ss ++ [⟨nm, v, qs⟩]
theorem putS_ent (ss : List Sn) (nm : ByteArray) (v : Value) (qs : List Q) : (putS ss nm v qs).map entS = put (ss.map entS) nm v := by
  unfold putS put
  have e : (ss.map entS).map (·.1) = ss.map (·.nm) := by rw [List.map_map]; rfl
  rw [e]
  by_cases hin : nm ∈ ss.map (·.nm)
  · rw [if_pos ((any_nm ss nm).2 hin), if_pos hin, List.map_map, List.map_map]
    refine List.map_congr_left fun s _ => ?_
    simp only [Function.comp]
    by_cases hs : s.nm = nm
    · rw [if_pos hs, if_pos (show (entS s).1 = nm from hs)]; rfl
    · rw [if_neg hs, if_neg (show ¬ (entS s).1 = nm from hs)]
  · rw [if_neg (fun q => hin ((any_nm ss nm).1 q)), if_neg hin, List.map_append]; rfl
theorem putS_mem {ss : List Sn} {nm : ByteArray} {v : Value} {qs : List Q} {s : Sn} (h : s ∈ putS ss nm v qs) : s = ⟨nm, v, qs⟩ ∨ (s ∈ ss ∧ s.nm ≠ nm) := by
  unfold putS at h
  split at h
  · obtain ⟨p, hp, rfl⟩ := List.mem_map.1 h
    by_cases e : p.nm = nm
    · rw [if_pos e]; exact .inl rfl
    · rw [if_neg e]; exact .inr ⟨hp, e⟩
  · rename_i hn
    rw [any_nm] at hn
    rcases List.mem_append.1 h with h | h
    · exact .inr ⟨h, fun e => hn (List.mem_map.2 ⟨s, h, e⟩)⟩
    · exact .inl (List.mem_singleton.1 h)
theorem seenQ_put (ss : List Sn) (nm nm' : ByteArray) (v : Value) (qs : List Q) : seenQ (putS ss nm v qs) nm' = if nm' = nm then qs else seenQ ss nm' := by
  unfold putS
  split
  · rename_i hin
    rw [any_nm] at hin
    unfold seenQ
    rw [List.find?_map]
    have hc : ((fun s : Sn => decide (s.nm = nm')) ∘ fun s => if s.nm = nm then (⟨nm, v, qs⟩ : Sn) else s) = fun s => decide (s.nm = nm') := by
      funext s
      simp only [Function.comp]
      by_cases e : s.nm = nm
      · simp [e]
      · simp [e]
    rw [hc]
    by_cases e : nm' = nm
    · subst e
      rw [if_pos rfl]
      obtain ⟨p, hp, e⟩ := List.mem_map.1 hin
      cases hf : ss.find? fun s => decide (s.nm = nm') with
      | none => exact absurd e (by simpa using List.find?_eq_none.1 hf p hp)
      | some s =>
        have : s.nm = nm' := by simpa using List.find?_some hf
        simp [this]
    · rw [if_neg e]
      cases hf : ss.find? fun s => decide (s.nm = nm') with
      | none => rfl
      | some s =>
        have : s.nm = nm' := by simpa using List.find?_some hf
        have hne : ¬ s.nm = nm := fun q => e (this.symm.trans q)
        simp [hne]
  · rename_i hin
    rw [any_nm] at hin
    unfold seenQ
    rw [List.find?_append]
    by_cases e : nm' = nm
    · subst e
      rw [if_pos rfl]
      have : ss.find? (fun s => decide (s.nm = nm')) = none := List.find?_eq_none.2 fun s hs => by
        simp only [decide_eq_true_eq]
        exact fun q => hin (List.mem_map.2 ⟨s, hs, q⟩)
      rw [this]; simp
    · rw [if_neg e]
      have : [(⟨nm, v, qs⟩ : Sn)].find? (fun s => decide (s.nm = nm')) = none := List.find?_eq_none.2 fun s hs => by
        rw [List.mem_singleton.1 hs]
        simp only [decide_eq_true_eq]
        exact fun q => e q.symm
      rw [this]; simp
theorem comd {w1 w3 w4 : World} {B t mp ms : Nat} {X : Nat → Prop} {hs : List Hp} {ss : List Sn} {nm : ByteArray} {v' fv : Value} {fq : List Q} (h : PT w1 B t mp ms X hs ss) (hX : ∀ i, X i → i < w1.heap.size) (hr : RR w1 B (Mu t mp ms ss X) fv fq)
    (hown : w3.ownsRow B 34 2 v' ((seenQ ss nm).length + fq.length) ((seenQ ss nm).flatMap cellsR ++ fq.flatMap cellsR)) (hgrow : w1.grownBy w3 (seenV ss nm).ownBlock) (hat : v'.ownBlock = (seenV ss nm).ownBlock ∨ v'.ownBlock = some w1.heap.size)
    (hM : MP w4 sk ms (put (ss.map entS) nm v')) (hg4 : w3.grownBy w4 (some ms)) : PT w4 B t mp ms X hs (putS ss nm v' (seenQ ss nm ++ fq)) ∧ Gs (Tb t mp ms ss) w1 w4 := by
  have hlt := h.lt
  have hrr := h.rr nm
  have hseen : ∀ i, (seenV ss nm).ownBlock = some i → Tb t mp ms ss i := fun i hi => by
    obtain ⟨s, h1, _, h3⟩ := seenV_mem hi
    exact .inr (.inr (.inr ⟨s, h1, h3⟩))
  have G : Gs (fun i => i = ms ∨ (seenV ss nm).ownBlock = some i) w1 w4 := (Gs.one hgrow fun k hk => .inr hk).trans (Gs.one hg4 fun k hk => .inl (Option.some.inj hk).symm)
  have hST : ∀ i, (i = ms ∨ (seenV ss nm).ownBlock = some i) → Tb t mp ms ss i := fun i hi => by
    rcases hi with hi | hi
    · exact .inr (.inr (.inl hi))
    · exact hseen i hi
  have hA : ∀ i, i < w1.heap.size → (i = ms ∨ (seenV ss nm).ownBlock = some i) → Mu t mp ms ss X i := fun i _ hi => Mu.iff.2 (.inl (hST i hi))
  have hT' : ∀ i, i < w1.heap.size → Tb t mp ms (putS ss nm v' (seenQ ss nm ++ fq)) i → Tb t mp ms ss i := fun i hi hb => by
    rcases hb with e | e | e | ⟨s, hs', e⟩
    · exact .inl e
    · exact .inr (.inl e)
    · exact .inr (.inr (.inl e))
    · rcases putS_mem hs' with rfl | ⟨h1, _⟩
      · rcases hat with q | q
        · exact hseen i (q ▸ e)
        · have e' : v'.ownBlock = some i := e
          rw [q] at e'; have := Option.some.inj e'; omega
      · exact .inr (.inr (.inr ⟨s, h1, e⟩))
  have hA' : ∀ i, i < w1.heap.size → Mu t mp ms (putS ss nm v' (seenQ ss nm ++ fq)) X i → Mu t mp ms ss X i := fun i hi m => by
    rcases Mu.iff.1 m with m | m
    · exact Mu.iff.2 (.inl (hT' i hi m))
    · exact Mu.iff.2 (.inr m)
  have nblk : ∀ k, v'.ownBlock = some k → k ≠ t ∧ k ≠ mp ∧ k ≠ ms := fun k hk => by
    rcases hat with q | q
    · obtain ⟨s, h1, _, h3⟩ := seenV_mem (q ▸ hk)
      exact h.sd s h1 k h3
    · rw [q] at hk
      have hk := Option.some.inj hk
      have a1 := (hlt t (.inl rfl)).2
      have a2 := (hlt mp (.inr (.inl rfl))).2
      have a3 := (hlt ms (.inr (.inr (.inl rfl)))).2
      exact ⟨by omega, by omega, by omega⟩
  have nfar : ∀ s' ∈ ss, s'.nm ≠ nm → ∀ k, v'.ownBlock = some k → s'.v.ownBlock ≠ some k := fun s' hs' hne k hk e => by
    rcases hat with q | q
    · obtain ⟨s, h1, h2, h3⟩ := seenV_mem (q ▸ hk)
      exact h.sp s h1 s' hs' (fun e' => hne (e'.symm.trans h2)) k h3 e
    · rw [q] at hk
      have := (hlt k (.inr (.inr (.inr ⟨s', hs', e⟩)))).2
      have hk := Option.some.inj hk
      omega
  refine ⟨⟨G.own h.own ?_, G.map h.pre ?_, ?_, fun p hp => ⟨(h.ph p hp).1.kept G (fun k hk s => (h.ph p hp).2 k hk (Mu.iff.2 (.inl (hST k s)))) hA hA', fun k hk m => (h.ph p hp).2 k hk (hA' k (World.ownsRow.lt (h.ph p hp).1.own k hk).2 m)⟩, ?_, h.ge, h.ne, ?_, ?_, ?_⟩, G.mono fun i _ s => hST i s⟩
  · intro g hg s
    obtain rfl : t = g := by cases hg; rfl
    rcases s with s | s
    · exact h.ne.2.1 s
    · obtain ⟨s, h1, _, h3⟩ := seenV_mem s
      exact (h.sd s h1 _ h3).1 rfl
  · rintro (s | s)
    · exact h.ne.2.2 s
    · obtain ⟨s, h1, _, h3⟩ := seenV_mem s
      exact (h.sd s h1 _ h3).2.1 rfl
  · rw [putS_ent]; exact hM
  · intro s hs'
    rcases putS_mem hs' with rfl | ⟨h1, h2⟩
    · refine ⟨?_, fun q hq => ?_, fun q hq y hy => ?_⟩
      · rw [List.length_append, List.flatMap_append]
        exact own_grown hown hg4 fun k hk e => (nblk k hk).2.2 (Option.some.inj e)
      · rcases List.mem_append.1 hq with hq | hq
        · exact G.vals (hrr.lies q hq) fun x hx s => (hrr.vb q hq x hx).1 (hA _ (hrr.vb q hq x hx).2.1 s)
        · exact G.vals (hr.lies q hq) fun x hx s => (hr.vb q hq x hx).1 (hA _ (hr.vb q hq x hx).2.1 s)
      · have key : ¬ Mu t mp ms ss X y.block ∧ y.block < w1.heap.size ∧ B ≤ y.block := by
          rcases List.mem_append.1 hq with hq | hq
          · exact hrr.vb q hq y hy
          · exact hr.vb q hq y hy
        exact ⟨fun m => key.1 (hA' _ key.2.1 m), Nat.lt_of_lt_of_le key.2.1 G.size, key.2.2⟩
    · refine (h.sh s h1).kept G (fun k hk q => ?_) hA hA'
      rcases q with q | q
      · exact (h.sd s h1 k hk).2.2 q
      · obtain ⟨s', g1, g2, g3⟩ := seenV_mem q
        exact h.sp s' g1 s h1 (fun e => h2 (e.symm.trans g2)) k g3 hk
  · intro s hs' k hk
    rcases putS_mem hs' with rfl | ⟨h1, _⟩
    · exact nblk k hk
    · exact h.sd s h1 k hk
  · intro s hs' s' hs'' hne k hk e
    rcases putS_mem hs' with rfl | ⟨h1, h2⟩
    · rcases putS_mem hs'' with rfl | ⟨g1, g2⟩
      · exact hne rfl
      · exact nfar s' g1 g2 k hk e
    · rcases putS_mem hs'' with rfl | ⟨g1, g2⟩
      · exact nfar s h1 h2 k e hk
      · exact h.sp s h1 s' g1 hne k hk e
  · exact fun i hi b => h.xd i hi (hT' i (hX i hi) b)
end Go.Proofs.YtmeeoamcelkhmaaGreatDoor
