import Derived.Deep.Quiet
import Derived.Deep.QuietTactic
import Derived.BigQuiet
import Derived.KernelRfl
namespace Go.Proofs.YtobhccmnlmlapaaGreatDoor
open Go
set_option linter.unusedVariables false
set_option linter.unusedSimpArgs false

/-! A region that draws its order: a head of quiet operations, which all must have come up ahead of the others; then a tail, whatever it does. -/
section
variable {P : Program} {md : Region.Mode} {ops : Array Oper} {C : World → Prop} {K : Nat}

def allHead (K : Nat) (listed : Array Bool) : Prop := ∀ i, i < K → listed.getD i true = true
/-- What an operation waits for has come up, if it has. -/
def Down (md : Region.Mode) (ops : Array Oper) (listed : Array Bool) : Prop := ∀ j o, ops[j]? = some o → listed.getD j false = true → ∀ e ∈ o.after, Region.binds md e = true → listed.getD e.on false = true
open Classical in
noncomputable def wpAnyH (P : Program) (md : Region.Mode) (ops : Array Oper) (C : World → Prop) (K : Nat) (T : Array Bool → Act → Prop) : Nat → Array Bool → Act → Prop
  | 0, listed, a => allHead K listed ∧ T listed a
  | fuel + 1, listed, a => if allHead K listed then T listed a else Region.ready md ops listed ≠ [] ∧ ∀ i ∈ Region.ready md ops listed, qOp P ops C i (wpAnyH P md ops C K T fuel (listed.setIfInBounds i true)) a

theorem wpAny_more {Q : Exit → Act → World → Prop} : ∀ (fuel : Nat) (listed : Array Bool) (a : Act) (w : World), wpAny P md ops Q fuel listed a w → wpAny P md ops Q (fuel + 1) listed a w
  | 0, _, _, _, h => ⟨fun _ => h.2, fun i hi => by rw [h.1] at hi; cases hi⟩
  | fuel + 1, _, _, _, h => ⟨h.1, fun i hi => wpOp_mono (fun a w => wpAny_more fuel _ a w) (h.2 i hi)⟩
theorem wpAny_plus {Q : Exit → Act → World → Prop} {F : Nat} {listed : Array Bool} {a : Act} {w : World} (h : wpAny P md ops Q F listed a w) : ∀ n, wpAny P md ops Q (n + F) listed a w
  | 0 => by rw [Nat.zero_add]; exact h
  | n + 1 => by rw [Nat.add_right_comm]; exact wpAny_more _ _ _ _ (wpAny_plus h n)
theorem wpAny_of_head {Q : Exit → Act → World → Prop} {F : Nat} : ∀ (n : Nat) (listed : Array Bool) (a : Act) (w : World), C w →
    wpAnyH P md ops C K (fun l a => ∀ w, C w → wpAny P md ops Q F l a w) n listed a → wpAny P md ops Q (n + F) listed a w
  | 0, _, _, _, hw, h => by rw [Nat.zero_add]; exact h.2 _ hw
  | n + 1, listed, a, w, hw, h => by
    unfold wpAnyH at h
    split at h
    · exact wpAny_plus (h w hw) _
    · rw [Nat.add_right_comm]
      exact ⟨fun h0 => absurd h0 h.1, fun i hi => wpOp_of_qOp hw (fun a' w' hw' hh => wpAny_of_head n _ a' w' hw' hh) (h.2 i hi)⟩
theorem Down.put {listed : Array Bool} {i : Nat} (h : Down md ops listed) (hi : i ∈ Region.ready md ops listed) : Down md ops (listed.setIfInBounds i true) := by
  intro j o ho hj e he hb
  by_cases hji : i = j
  · subst hji
    obtain ⟨_, o', ho', hall⟩ := mem_ready.1 hi
    rw [ho] at ho'
    cases ho'
    exact getD_set_true (hall e he hb)
  · rw [getD_set_ne false hji] at hj
    exact getD_set_true (h j o ho hj e he hb)
/-- No operation of the tail comes up while one of the head is out. -/
def Blocks (md : Region.Mode) (ops : Array Oper) (K : Nat) : Prop := ∀ listed : Array Bool, Down md ops listed → ∀ j, K ≤ j → j ∈ Region.ready md ops listed → ∀ i, i < K → listed.getD i false = true
theorem unlisted {listed : Array Bool} {i : Nat} (h : listed.getD i true = false) : listed.getD i false = false := by
  rcases Nat.lt_or_ge i listed.size with h' | h'
  · simp [h'] at h ⊢; exact h
  · simp [Array.getElem?_eq_none h'] at h
theorem wpAnyH_first {T : Array Bool → Act → Prop} {i : Nat} {oi : Oper} {v : Value} (hi : ops[i]? = some oi) (hsel : ∀ (j : Nat) (o : Oper) cs b, ops[j]? = some o → o.op ≠ .select cs b) (hiK : i < K) (hbl : Blocks md ops K) :
    ∀ (fuel : Nat) (listed : Array Bool) (a : Act), Down md ops listed →
      (∀ j oj, ops[j]? = some oj → j ≠ i → listed.getD j true = false → (∀ e ∈ oj.after, Region.binds md e = true → e.on ≠ i) → oi.apart ops oj = true) →
      i ∈ Region.ready md ops listed → YieldsIn P ops C oi v a →
      wpAnyH P md ops C K T fuel (listed.setIfInBounds i true) (a.put oi.dst v) → wpAnyH P md ops C K T (fuel + 1) listed a := by
  intro fuel
  induction fuel with
  | zero =>
    intro listed a hd _ hr hy H
    have hiu := (mem_ready.1 hr).1
    unfold wpAnyH
    rw [if_neg (fun h => by have := h i hiK; rw [hiu] at this; cases this)]
    refine ⟨fun h => (by rw [h] at hr; cases hr), fun j hj => ?_⟩
    by_cases hji : j = i
    · subst hji; exact hy.qOp hi H
    · have hju := (mem_ready.1 hj).1
      rcases Nat.lt_or_ge j K with hjK | hjK
      · have := H.1 j hjK
        rw [getD_set_ne true (Ne.symm hji), hju] at this
        cases this
      · have := hbl listed hd j hjK hj i hiK
        rw [unlisted hiu] at this
        cases this
  | succ fuel ih =>
    intro listed a hd hfree hr hy H
    have hiu := (mem_ready.1 hr).1
    have H0 := H
    unfold wpAnyH
    rw [if_neg (fun h => by have := h i hiK; rw [hiu] at this; cases this)]
    refine ⟨fun h => (by rw [h] at hr; cases hr), fun j hj => ?_⟩
    by_cases hji : j = i
    · subst hji; exact hy.qOp hi H0
    · have hju := (mem_ready.1 hj).1
      rcases Nat.lt_or_ge j K with hjK | hjK
      · unfold wpAnyH at H
        rw [if_neg (fun h => by have := h j hjK; rw [getD_set_ne true (Ne.symm hji), hju] at this; cases this)] at H
        have h1 := H.2 j (ready_mono hj hji)
        obtain ⟨hjun, oj, hoj, hall⟩ := mem_ready.1 hj
        have hnot : ∀ e ∈ oj.after, Region.binds md e = true → e.on ≠ i := fun e he hb heq => by
          have h1 := hall e he hb
          rw [heq, unlisted hiu] at h1
          cases h1
        have h2 := qOp_put hoj (hfree j oj hoj hji hjun hnot) (fun cs b => hsel i oi cs b hi) (fun cs b => hsel j oj cs b hoj) hy h1
        have hfree' : ∀ k ok, ops[k]? = some ok → k ≠ i → (listed.setIfInBounds j true).getD k true = false →
            (∀ e ∈ ok.after, Region.binds md e = true → e.on ≠ i) → oi.apart ops ok = true := fun k ok hk hki hun hno => by
          refine hfree k ok hk hki ?_ hno
          by_cases hjk : j = k
          · subst hjk; exact hjun
          · rw [getD_set_ne true hjk] at hun; exact hun
        refine qOp_mono (fun a' h3 => ih (listed.setIfInBounds j true) a' (hd.put hj) hfree' (ready_mono hr (Ne.symm hji)) h3.1 ?_) h2
        rw [Array.setIfInBounds_comm _ _ hji]
        exact h3.2
      · have := hbl listed hd j hjK hj i hiK
        rw [unlisted hiu] at this
        cases this
/-- The head in its lexical order. -/
def lexHead (md : Region.Mode) (ops : Array Oper) : Nat → Nat → Array Bool → Bool
  | 0, _, _ => true
  | n + 1, k, listed => (Region.ready md ops listed).contains k && Region.free md ops listed k && lexHead md ops n (k + 1) (listed.setIfInBounds k true)
def headDone : Nat → Nat → Array Bool → Array Bool
  | 0, _, listed => listed
  | n + 1, k, listed => headDone n (k + 1) (listed.setIfInBounds k true)
theorem wpAnyH_lex {T : Array Bool → Act → Prop} (hs : Region.noSelect ops = true) (hbl : Blocks md ops K) : ∀ (l : List Oper) (k : Nat) (listed : Array Bool) (a : Act), k + l.length = K → Down md ops listed → (∀ j, j < l.length → l[j]? = ops[k + j]?) → allHead K (headDone l.length k listed) →
    lexHead md ops l.length k listed = true → wpQuiet P ops C (fun a' => T (headDone l.length k listed) a') l a → wpAnyH P md ops C K T l.length listed a
  | [], _, listed, _, _, _, _, hall, _, h => ⟨hall, h⟩
  | o :: l, k, listed, a, hk, hd, hl, hall, hB, h => by
    have h0 : ops[k]? = some o := by simpa using (hl 0 (by simp)).symm
    simp only [List.length_cons, lexHead, Bool.and_eq_true] at hB
    obtain ⟨⟨hr, hf⟩, hB'⟩ := hB
    have hr' : k ∈ Region.ready md ops listed := by simpa using hr
    have hst : qOp P ops C k (wpQuiet P ops C (fun a' => T (headDone l.length (k + 1) (listed.setIfInBounds k true)) a') l) a := by unfold qOp; simp only [h0]; exact h
    obtain ⟨v, hy, hK⟩ := yieldsIn_of_qOp h0 hst
    exact wpAnyH_first h0 (Region.noSelect_spec hs) (by simp only [List.length_cons] at hk; omega) hbl l.length listed a hd (Region.free_spec h0 hf) hr' hy
      (wpAnyH_lex hs hbl l (k + 1) _ _ (by simp only [List.length_cons] at hk; omega) (hd.put hr') (fun j hj => by have := hl (j + 1) (by simp; omega); simpa [Nat.add_assoc, Nat.add_comm 1 j] using this) hall hB' hK)
/-- What an operation waits for, step by step. -/
def ancOf (md : Region.Mode) (ops : Array Oper) : Nat → Nat → List Nat
  | 0, _ => []
  | n + 1, j => match ops[j]? with
    | none => []
    | some o => (o.after.toList.filter fun e => Region.binds md e).flatMap fun e => e.on :: ancOf md ops n e.on
def blocksB (md : Region.Mode) (ops : Array Oper) (K n : Nat) : Bool := (List.range ops.size).all fun j => decide (j < K) || (List.range K).all fun i => (ancOf md ops n j).contains i
theorem anc_listed {listed : Array Bool} (hd : Down md ops listed) : ∀ (n j : Nat) (o : Oper), ops[j]? = some o → (∀ e ∈ o.after, Region.binds md e = true → listed.getD e.on false = true) → ∀ i ∈ ancOf md ops n j, listed.getD i false = true
  | 0, _, _, _, _, i, hi => by cases hi
  | n + 1, j, o, ho, hall, i, hi => by
    simp only [ancOf, ho, List.mem_flatMap, List.mem_filter, List.mem_cons] at hi
    obtain ⟨e, ⟨he, hb⟩, hi⟩ := hi
    have h1 := hall e (by simpa using he) hb
    rcases hi with rfl | hi
    · exact h1
    · cases n with
      | zero => cases hi
      | succ n =>
        cases ho' : ops[e.on]? with
        | none => simp [ancOf, ho'] at hi
        | some o' => exact anc_listed hd (n + 1) e.on o' ho' (fun e' he' hb' => hd e.on o' ho' h1 e' he' hb') i hi
theorem blocks_of {n : Nat} (h : blocksB md ops K n = true) : Blocks md ops K := fun listed hd j hj hr i hi => by
  obtain ⟨_, o, ho, hall⟩ := mem_ready.1 hr
  have h1 := List.all_eq_true.1 h j (List.mem_range.2 (Array.getElem?_eq_some_iff.1 ho).1)
  simp only [Bool.or_eq_true, decide_eq_true_eq, List.all_eq_true, List.mem_range] at h1
  rcases h1 with h1 | h1
  · omega
  · exact anc_listed hd n j o ho hall i (by simpa using h1 i hi)
theorem down_start (md : Region.Mode) (ops : Array Oper) : Down md ops (Array.replicate ops.size false) := fun j o ho hj => by
  have := (Array.getElem?_eq_some_iff.1 ho).1
  simp [this] at hj

/-- A QUIET HEAD, THEN A TAIL. -/
theorem wp_region_head {id : Nat} {Q : Exit → Act → World → Prop} {a : Act} {w : World} {l : List Oper} (n : Nat) (hm : P.follows .mixedOrders = true) (hs : Region.noSelect l.toArray = true) (hbl : blocksB .any l.toArray K n = true) (hKl : K ≤ l.length)
    (hB : lexHead .any l.toArray K 0 (Array.replicate l.toArray.size false) = true) (hall : (List.range K).all (fun i => (headDone K 0 (Array.replicate l.toArray.size false)).getD i true) = true) (hC : C w.drew)
    (h : wpQuiet P l.toArray C (fun a' => ∀ w', C w' → wpAny P .any l.toArray Q (l.length - K) (headDone K 0 (Array.replicate l.toArray.size false)) a' w') (l.take K) a) : (Code.region id l.toArray true).wp P Q a w := by
  have hlen : (l.take K).length = K := by rw [List.length_take]; omega
  have h1 := wpAnyH_lex (K := K) (P := P) (C := C) (T := fun ls a' => ∀ w', C w' → wpAny P .any l.toArray Q (l.length - K) ls a' w') hs (blocks_of hbl) (l.take K) 0 (Array.replicate l.toArray.size false) a (by omega) (down_start _ _)
    (fun j hj => by rw [List.getElem?_take_of_lt (by omega)]; simp) (by
      rw [hlen]; intro i hi; exact List.all_eq_true.1 hall i (List.mem_range.2 hi)) (by rw [hlen]; exact hB) (by rw [hlen]; exact h)
  rw [hlen] at h1
  have h2 := wpAny_of_head (Q := Q) (F := l.length - K) K _ a w.drew hC h1
  rw [show K + (l.length - K) = l.toArray.size by simp; omega] at h2
  exact wp_region_any hm h2
end
end Go.Proofs.YtobhccmnlmlapaaGreatDoor
