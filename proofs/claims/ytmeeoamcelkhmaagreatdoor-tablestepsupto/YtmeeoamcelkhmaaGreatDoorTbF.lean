import Derived.Test.YtmeeoamcelkhmaaGreatDoorTbE
import Derived.Maps.RangeWalk
namespace Go.Proofs.YtmeeoamcelkhmaaGreatDoor
open Go.RowKit Go.Maps
set_option linter.unusedVariables false
set_option linter.unusedSimpArgs false
set_option maxRecDepth 100000

def txk : KeyKind Tryz.prog 27 Tx where
  kv := vv
  kl := keyV
  ok := Fits
  key := keyV_of
  inj := keyV_inj
theorem nodup_of_map {α β : Type} {f : α → β} {l : List α} (h : (l.map f).Nodup) : l.Nodup := (List.pairwise_map.1 h).imp (fun hne e => hne (congrArg _ e))
theorem sum_sub {α : Type} (f : α → Nat) : ∀ (l m : List α), l.Nodup → (∀ p ∈ l, p ∈ m) → (l.map f).sum ≤ (m.map f).sum
  | [], m, _, _ => by simp
  | p :: l, m, hn, hs => by
    obtain ⟨s, t, rfl⟩ := List.append_of_mem (hs p (by simp))
    rw [List.nodup_cons] at hn
    have := sum_sub f l (s ++ t) hn.2 (fun q hq => by
      have h1 := hs q (by simp [hq])
      rw [List.mem_append, List.mem_cons] at h1
      rcases h1 with h1 | rfl | h1
      · exact List.mem_append_left _ h1
      · exact absurd hq hn.1
      · exact List.mem_append_right _ h1)
    simp only [List.map_append, List.map_cons, List.sum_append, List.sum_cons] at this ⊢
    omega
/-- What has come of a map, and what is left of it. -/
def CollM (m : List (Tx × Value)) (left : Lit → Bool) (cs : List (Tx × Value)) : Prop := (cs.map (·.1)).Nodup ∧ (∀ p ∈ cs, p ∈ m) ∧ ∀ p ∈ m, (p ∈ cs ↔ left (keyV p.1) = false)
theorem CollM.step {m cs : List (Tx × Value)} {left : Lit → Bool} {x : Tx} {c : Value} (h : CollM m left cs) (hn : (m.map (·.1)).Nodup) (hok : ∀ p ∈ m, Fits p.1) (hx : (x, c) ∈ m) (hl : left (keyV x) = true) : CollM m (fun z => left z && !z.sameKey (keyV x)) (cs ++ [(x, c)]) := by
  have hfx := hok _ hx
  have hnew : (x, c) ∉ cs := fun hc => by have := (h.2.2 _ hx).1 hc; rw [hl] at this; cases this
  have uniq : ∀ p ∈ m, p.1 = x → p = (x, c) := fun p hp e => by
    have h1 := fnd_of hn (show (x, p.2) ∈ m by rw [← e]; exact hp)
    have h2 := fnd_of hn hx
    rw [h1] at h2
    rw [← e]
    exact Prod.ext rfl (Option.some.inj h2)
  refine ⟨?_, fun p hp => ?_, fun p hp => ?_⟩
  · rw [List.map_append, List.nodup_append]
    refine ⟨h.1, by simp, fun a ha b hb e => ?_⟩
    simp at hb
    obtain ⟨p, hp, rfl⟩ := List.mem_map.1 ha
    have := uniq p (h.2.1 p hp) (by rw [e, hb])
    exact hnew (this ▸ hp)
  · rcases List.mem_append.1 hp with hp | hp
    · exact h.2.1 p hp
    · rw [List.mem_singleton.1 hp]; exact hx
  · by_cases e : p.1 = x
    · have := uniq p hp e
      subst this
      have hs : (keyV x).sameKey (keyV x) = true := (same_keyV x x hfx hfx).2 rfl
      simp [hs]
    · have hs : (keyV p.1).sameKey (keyV x) = false := by
        cases hh : (keyV p.1).sameKey (keyV x) with
        | false => rfl
        | true => exact absurd ((same_keyV _ _ (hok p hp) hfx).1 hh) e
      have hne : p ≠ (x, c) := fun e' => e (by rw [e'])
      simp [h.2.2 p hp, hs, hne]
theorem CollM.all {m cs : List (Tx × Value)} {left : Lit → Bool} (h : CollM m left cs) (hn : (m.map (·.1)).Nodup) (hl : ∀ kl, left kl = false) : cs.Perm m := by
  have n1 : cs.Nodup := nodup_of_map h.1
  have n2 : m.Nodup := nodup_of_map hn
  exact (List.perm_ext_iff_of_nodup n1 n2).2 fun p => ⟨fun hp => h.2.1 p hp, fun hp => (h.2.2 p hp).2 (hl _)⟩
/-- How many rows. -/
def lenV : Value → Nat
  | .slice _ n _ => n
  | _ => 0
def sumL (m : List (Tx × Value)) : Nat := (m.map fun p => lenV p.2).sum
theorem MP.mem_at {w : World} {b : Nat} {m : List (Tx × Value)} {es : List (Lit × DataW Value)} (hes : es.Perm (mpOf txk m)) (hok : ∀ p ∈ m, Fits p.1) (hn : (m.map (·.1)).Nodup) {x : Tx} {c : Value} (hx : Fits x) (hat : ∀ zd, (DataW.map es).atKey (keyV x) zd = .held c) : (x, c) ∈ m := by
  have hf := find_mp (kd := txk) lawV hes hok hn hx
  have h1 := hat .nil
  have h2 : es.find? (fun p => p.1.sameKey (keyV x)) = (fnd m x).map fun v => (keyV x, .held v) := hf
  simp only [DataW.atKey, h2] at h1
  cases hq : fnd m x with
  | none => rw [hq] at h1; simp at h1
  | some v =>
    rw [hq] at h1
    simp at h1
    rw [← h1]; exact fnd_mem hq
set_option maxHeartbeats 2000000 in
theorem waiting_any (w : World) (t mp : Nat) (ms : Value) (m : List (Tx × Value)) (hO : Own w t 59 2 [.map (some mp), ms]) (hM : MP w txk mp m) (hs : ∀ p ∈ m, ∃ a n c, p.2 = .slice a n c) (hb : sumL m ≤ 1099511627776) :
    Calls Tryz.prog 16 #[.pointer (some ⟨t, 0, none⟩)] w fun e w' => e = .returned (.int .i64 (sumL m : Int)) ∧ Below w.heap.size w w' := by
  obtain ⟨es, ho, hp, hok, hn⟩ := hM
  have c0 : w.cell? ⟨t, 0, none⟩ = some (.map (some mp)) := hO.cell 0 (by decide)
  have HP := hidMk hp
  have HOK : Hid (∀ p ∈ m, Fits p.1) := hok
  have HN := hidMk hn
  have HS := hidMk hs
  have HST : Hid (CollM m (Maps.has (DataW.map es)) []) := by
    refine ⟨List.nodup_nil, (fun p h => by cases h), fun p hpm => ?_⟩
    have hf := find_mp (kd := txk) lawV hp hok hn (hok p hpm)
    have hf' : es.find? (fun q => q.1.sameKey (keyV p.1)) = (fnd m p.1).map fun v => (keyV p.1, .held v) := hf
    have : Maps.has (DataW.map es) (keyV p.1) = true := by
      rw [has_eq, List.any_eq_true, ← List.find?_isSome, hf', Option.isSome_map, fnd_of hn (show (p.1, p.2) ∈ m from hpm)]; rfl
    rw [this]; simp
  clear hO hp hok hn hs
  go_enter Tryz.func16, Tryz.ntmps16
  go_wp2_with (first
    | (at_range; refine wpList_range_own _ rfl _ 56 rfl 27 _ lawV Tryz.underlying56 _ mp _ _ rfl ho ?_; intro w0 hrg0 hg0 hs0)
    | go_in)
  go_frame
  go_loopw [3] (fun s wr => ∃ (left : Lit → Bool) (cnt : Nat) (cs : List (Tx × Value)), s = .int .i64 (sumL cs : Int) ∧ wr.ranges Tryz.prog 27 heldE mp w.heap.size m.length (DataW.map es) left cnt ∧ CollM m left cs ∧ Below w.heap.size w wr) (fun _ wr => wr.rangeLeft mp w.heap.size)
  case atStart => exact ⟨_, _, [], rfl, hrg0, HST.out, ⟨hg0.os, hg0.tape, hg0.output, hg0.size, fun i hi => hg0.block i hi (by simp)⟩⟩
  case round =>
    obtain ⟨left, cnt, cs, rfl, hrg, hC, hB⟩ := hrel
    have HC := hidMk hC
    have HB := hidMk hB
    clear hC hB
    go_wp2_with (first
      | (at_next; refine wpList_next_ranges _ rfl _ rfl 27 lawV heldE vv id (fun key kl hk => by obtain ⟨x, hx, _⟩ := keyV_inv hk; exact ⟨x, hx⟩) (fun v _ _ => ⟨v, rfl⟩) mp w.heap.size m.length _ _ _ rfl hrg ?_ ?_)
      | go_in)
    · intro hc0 hl0
      have hsum : sumL cs = sumL m := ((HC.out.all HN.out hl0).map _).sum_nat
      have HSUM := hidMk hsum
      clear hl0 hsum
      go_wp2_with fail
      go_ret
      exact ⟨ret_int (by rw [HSUM.out]), HB.out⟩
    · intro x c kl yd yp w2 cnt2 hkey hlk hv hat hrg2 hlt hg2 hs2 hen
      obtain ⟨x', ex, hfx, rfl⟩ := keyV_inv hkey
      obtain rfl : x = x' := vv_inj ex
      simp only [heldE, id, Option.some.injEq, Prod.mk.injEq] at hv
      obtain ⟨rfl, rfl⟩ := hv
      have hxc := MP.mem_at (w := w) (b := mp) HP.out HOK.out HN.out hfx hat
      obtain ⟨a, n, cc, e⟩ := HS.out _ hxc
      simp only at e
      subst e
      have HC2 := hidMk (HC.out.step HN.out HOK.out hxc hlk)
      have hsum : sumL (cs ++ [(x, .slice a n cc)]) = sumL cs + n := by unfold sumL; simp [lenV]
      have hle : sumL (cs ++ [(x, .slice a n cc)]) ≤ sumL m := sum_sub _ _ _ (nodup_of_map HC2.out.1) HC2.out.2.1
      have HSUM := hidMk hsum
      have hle2 : sumL cs + n ≤ 1099511627776 := by omega
      have HB2 : Hid (Below w.heap.size w w2) := HB.out.grown hg2 HB.out.size (fun k hk => by cases hk; exact Nat.le_refl _)
      have HRG := hidMk hrg2
      have HLT := hidMk hlt
      have HRG0 := hidMk hrg
      clear hrg hrg2 hlt hg2 hs2 hat hlk hkey hxc hsum hle ex hfx HB
      generalize sumL cs = s at *
      obtain ⟨xm, xs, xt⟩ := x
      simp only [vv, id] at hen ⊢
      go_wp2_with fail
      go_roundw
      case rel => exact ⟨_, cnt2, _, by rw [HSUM.out]; go_num, HRG.out, HC2.out, HB2.out⟩
      case measure => rw [HRG.out.left_eq, HRG0.out.left_eq]; exact HLT.out
end Go.Proofs.YtmeeoamcelkhmaaGreatDoor
