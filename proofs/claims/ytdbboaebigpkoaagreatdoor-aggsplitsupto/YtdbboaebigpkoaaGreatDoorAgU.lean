import Derived.Test.YtdbboaebigpkoaaGreatDoorAgQ
import Derived.Test.YtdbboaebigpkoaaGreatDoorAgG
namespace Go.Proofs.YtdbboaebigpkoaaGreatDoor
open Go.RowKit Go.Maps
set_option linter.unusedVariables false
set_option linter.unusedSimpArgs false

theorem overF_assoc (kind : Int) (x y z : Tm) : overF kind (overF kind x y) z = overF kind x (overF kind y z) := by
  unfold overF
  cases h1 : bet kind x y with
  | true =>
    simp only [if_true]
    cases h2 : bet kind y z with
    | true => simp only [if_true]; rw [bet_trans kind _ _ _ h1 h2]; rfl
    | false => simp only [Bool.false_eq_true, if_false]; rw [h1]; rfl
  | false =>
    simp only [Bool.false_eq_true, if_false]
    cases h2 : bet kind y z with
    | true => simp only [if_true]
    | false =>
      simp only [Bool.false_eq_true, if_false]
      rw [h1]
      cases h3 : bet kind x z with
      | false => rfl
      | true =>
        rcases bet_neg kind x y z h3 with h | h
        · rw [h1] at h; cases h
        · rw [h2] at h; cases h
theorem fold_overF (kind : Int) : ∀ (r : List Tm) (x y : Tm), (y :: r).foldl (overF kind) x = overF kind x (r.foldl (overF kind) y)
  | [], x, y => rfl
  | z :: r, x, y => by
    have h1 := fold_overF kind r (overF kind x y) z
    have h2 := fold_overF kind r y z
    simp only [List.foldl_cons] at *
    rw [h1, h2, overF_assoc]
theorem over_app (kind : Int) (L M : List Tm) (hL : L ≠ []) (hM : M ≠ []) : over kind (L ++ M) = overF kind (over kind L) (over kind M) := by
  cases L with
  | nil => exact absurd rfl hL
  | cons x r =>
    cases M with
    | nil => exact absurd rfl hM
    | cons y q =>
      show (r ++ y :: q).foldl (overF kind) x = _
      rw [List.foldl_append, fold_overF]
      rfl
theorem over_in (kind : Int) (L : List Tm) (h : L ≠ []) : over kind L ∈ L := by
  cases L with
  | nil => exact absurd rfl h
  | cons x r => exact (over_best kind r x).1
theorem nn_k (m : List Tm) : ∀ o ∈ nn m, o.v.k ≠ 0 := fun o ho => by
  unfold nn at ho
  rw [List.mem_filter] at ho
  simpa using ho.2
theorem pick_null (kind : Int) (m : List Tm) : (pickS kind m).v.k = 0 ↔ nn m = [] := by
  rw [pick_over]
  constructor
  · intro h
    rcases Classical.em (nn m = []) with h' | h'
    · exact h'
    · exact absurd h (nn_k m _ (over_in kind _ h'))
  · intro h; rw [h]; rfl
theorem nn_app (l m : List Tm) : nn (l ++ m) = nn l ++ nn m := List.filter_append _ _
/-- One that is kept of two parts. -/
theorem pick_join (kind : Int) (l m : List Tm) (h : (pickS kind m).v.k ≠ 0) : pickF kind (pickS kind l) (pickS kind m) = pickS kind (l ++ m) := by
  have hm : nn m ≠ [] := fun e => h ((pick_null kind m).2 e)
  rw [pick_over kind (l ++ m), nn_app]
  rcases Classical.em (nn l = []) with hl | hl
  · have h0 : (pickS kind l).v.k = 0 := (pick_null kind l).2 hl
    rw [hl, List.nil_append, ← pick_over]
    unfold pickF
    rw [if_pos ⟨h, .inl h0⟩]
  · have h0 : (pickS kind l).v.k ≠ 0 := fun e => hl ((pick_null kind l).1 e)
    rw [over_app kind _ _ hl hm, ← pick_over, ← pick_over]
    unfold pickF overF
    simp [h, h0]
theorem pick_join0 (kind : Int) (l m : List Tm) (h : (pickS kind m).v.k = 0) : pickS kind (l ++ m) = pickS kind l := by
  rw [pick_over, pick_over, nn_app, (pick_null kind m).1 h, List.append_nil]
theorem tot_app (l m : List Tm) : tot (l ++ m) = tot l + tot m := by
  unfold tot; rw [List.filter_append, List.map_append, List.sum_append]
theorem wrap_add' (a b : Int) : wrap64 (a + wrap64 b) = wrap64 (a + b) := by unfold wrap64; omega
theorem sum_null (m : List Tm) : (sumS m).k = 0 ↔ (m.filter isI).length = 0 := by
  unfold sumS
  rw [sum_fold]
  split
  · rename_i h; exact ⟨fun _ => h, fun _ => rfl⟩
  · rename_i h; exact ⟨fun e => by simp at e, fun e => absurd e h⟩
theorem sum_n (m : List Tm) : (sumS m).n = wrap64 (tot m) := by
  unfold sumS
  rw [sum_fold]
  split
  · rename_i h
    have : tot m = 0 := by unfold tot; rw [List.eq_nil_of_length_eq_zero h]; rfl
    rw [this]
    show (0 : Int) = wrap64 0
    rw [w64 (by omega) (by omega)]
  · show wrap64 (0 + tot m) = _
    rw [Int.zero_add]
theorem sum_join (l m : List Tm) (h : (sumS m).k ≠ 0) : sumS (l ++ m) = ⟨1, wrap64 ((sumS l).n + (sumS m).n), ⟨#[]⟩⟩ := by
  have hm : ¬ (m.filter isI).length = 0 := fun e => h ((sum_null m).2 e)
  have e : sumS (l ++ m) = ⟨1, wrap64 (tot l + tot m), ⟨#[]⟩⟩ := by
    unfold sumS
    rw [sum_fold, if_neg (by rw [List.filter_append, List.length_append]; omega), tot_app]
    show (⟨1, wrap64 (0 + (tot l + tot m)), ⟨#[]⟩⟩ : V) = _
    rw [Int.zero_add]
  rw [e, sum_n, sum_n, wrap_add', wrap_add]
theorem sum_join0 (l m : List Tm) (h : (sumS m).k = 0) : sumS (l ++ m) = sumS l := by
  have hm := (sum_null m).1 h
  have ht : tot m = 0 := by unfold tot; rw [List.eq_nil_of_length_eq_zero hm]; rfl
  unfold sumS
  rw [sum_fold, sum_fold, List.filter_append, List.length_append, hm, tot_app, ht, Int.add_zero, Nat.add_zero]
theorem nv_app (l m : List Tm) : nv (l ++ m) = nv l ++ nv m := by unfold nv; rw [nn_app, List.map_append]
/-- Sets of the same values are of one size. -/
theorem dst_same {a b : List V} (h : ∀ x, x ∈ a ↔ x ∈ b) : (dst a).length = (dst b).length :=
  Nat.le_antisymm (len_sub (dst_nodup a) fun x hx => (dst_mem b x).2 ((h x).1 ((dst_mem a x).1 hx))) (len_sub (dst_nodup b) fun x hx => (dst_mem a x).2 ((h x).2 ((dst_mem b x).1 hx)))
/-- What a way's parts are. -/
def keptOf (kind : Int) (m : List Tm) : Tm := if kind = 1 then ⟨0, ⟨1, m.length, ⟨#[]⟩⟩⟩ else if kind = 2 then ⟨0, sumS m⟩ else pickS kind m
def PartsOf (kind : Int) (m ps : List Tm) : Prop :=
  if kind = 7 then (∀ v, v ∈ ps.map (·.v) ↔ v ∈ nv m) ∧ ps.length ≤ m.length ∧ (∀ p ∈ ps, p.v.k ≠ 0 ∧ p.t = 0)
  else ps = if (keptOf kind m).v.k = 0 then [] else [keptOf kind m]
end Go.Proofs.YtdbboaebigpkoaaGreatDoor
