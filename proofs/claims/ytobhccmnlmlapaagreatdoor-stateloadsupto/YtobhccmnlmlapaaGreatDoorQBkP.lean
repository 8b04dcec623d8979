import Derived.Test.YtobhccmnlmlapaaGreatDoorGi
namespace Go.Proofs.YtobhccmnlmlapaaGreatDoor.Wr
open Go.RowKit
set_option linter.unusedVariables false
set_option maxRecDepth 100000

theorem tab_top : ∀ i : Fin 16, ∀ j : Fin 16, tab i.val / 268435456 = tab j.val / 268435456 → i = j := by decide +kernel
theorem xor_div28 (a b : Nat) : (a ^^^ b) / 268435456 = (a / 268435456) ^^^ (b / 268435456) := by
  have h := Nat.shiftRight_xor_distrib (a := a) (b := b) (i := 28)
  simpa [Nat.shiftRight_eq_div_pow] using h
theorem xor_cancel (a b t : Nat) (h : a ^^^ t = b ^^^ t) : a = b := by
  have := congrArg (· ^^^ t) h
  simpa [Nat.xor_assoc] using this
theorem q4_inj {x y : Nat} (hx : x < 4294967296) (hy : y < 4294967296) (h : q4 x = q4 y) : x = y := by
  unfold q4 at h
  have hd := congrArg (· / 268435456) h
  simp only [xor_div28] at hd
  rw [show x / 16 / 268435456 = 0 by omega, show y / 16 / 268435456 = 0 by omega, Nat.zero_xor, Nat.zero_xor] at hd
  have hm := tab_top ⟨x % 16, by omega⟩ ⟨y % 16, by omega⟩ hd
  have hm' : x % 16 = y % 16 := by simpa using hm
  rw [hm'] at h
  have := xor_cancel _ _ _ h
  omega
theorem byteStep_inj {r c r' c' : Nat} (hr : r < 4294967296) (hc : c < 256) (hr' : r' < 4294967296) (hc' : c' < 256) (h : byteStep r c = byteStep r' c') : r ^^^ c = r' ^^^ c' := by
  unfold byteStep at h
  have h1 := xor_lt r c hr (by omega)
  have h2 := xor_lt r' c' hr' (by omega)
  exact q4_inj h1 h2 (q4_inj (q4_lt _ h1) (q4_lt _ h2) h)
theorem regTo_congr (f g : Nat → UInt8) : ∀ n, (∀ i, i < n → f i = g i) → regTo f n = regTo g n
  | 0, _ => rfl
  | n + 1, h => by rw [regTo, regTo, regTo_congr f g n (fun i hi => h i (by omega)), h n (by omega)]
theorem sumN_congr (f g : Nat → UInt8) (n : Nat) (h : ∀ i, i < n → f i = g i) : sumN f n = sumN g n := by unfold sumN; rw [regTo_congr f g n h]
theorem regTo_diff (f g : Nat → UInt8) (k : Nat) (hne : f k ≠ g k) : ∀ n, k < n → (∀ i, i < n → i ≠ k → f i = g i) → regTo f n ≠ regTo g n
  | 0, hk, _ => by omega
  | n + 1, hk, h => by
    intro he
    rw [regTo, regTo] at he
    have hx := byteStep_inj (regTo_lt f n) (UInt8.toNat_lt _) (regTo_lt g n) (UInt8.toNat_lt _) he
    by_cases hkn : k = n
    · subst hkn
      rw [regTo_congr f g k (fun i hi => h i (by omega) (by omega)), Nat.xor_comm, Nat.xor_comm (regTo g k)] at hx
      exact hne (UInt8.toNat_inj.1 (xor_cancel _ _ _ hx))
    · rw [h n (by omega) (fun e => hkn e.symm)] at hx
      exact regTo_diff f g k hne n (by omega) (fun i hi hik => h i (by omega) hik) (xor_cancel _ _ _ hx)
theorem sumN_diff (f g : Nat → UInt8) (k n : Nat) (hk : k < n) (hne : f k ≠ g k) (h : ∀ i, i < n → i ≠ k → f i = g i) : sumN f n ≠ sumN g n := by
  unfold sumN
  intro he
  exact regTo_diff f g k hne n hk h (xor_cancel _ _ _ he)

/-- The four bytes of a word. -/
def w4 (n : Nat) : List UInt8 := [wb n 0, wb n 1, wb n 2, wb n 3]
def sealed (body : List UInt8) : List UInt8 := w4 body.length ++ (w4 (sumN (lat body) body.length) ++ body)
theorem w4_len (n : Nat) : (w4 n).length = 4 := rfl
theorem sealed_len (body : List UInt8) : (sealed body).length = body.length + 8 := by unfold sealed; rw [List.length_append, List.length_append, w4_len, w4_len]; omega
theorem lat_app (l m : List UInt8) (i : Nat) : lat (l ++ m) i = if i < l.length then lat l i else lat m (i - l.length) := by
  unfold lat
  by_cases h : i < l.length
  · rw [if_pos h]; simp [List.getD, List.getElem?_append_left h]
  · rw [if_neg h]; simp [List.getD, List.getElem?_append_right (by omega : l.length ≤ i)]
theorem w4_at (n i : Nat) (hi : i < 4) : lat (w4 n) i = wb n i := by
  match i, hi with
  | 0, _ => rfl
  | 1, _ => rfl
  | 2, _ => rfl
  | 3, _ => rfl
theorem sealed_head (body : List UInt8) (i : Nat) (hi : i < 4) : lat (sealed body) i = wb body.length i := by
  unfold sealed; rw [lat_app, if_pos (by rw [w4_len]; exact hi), w4_at _ _ hi]
theorem sealed_sum (body : List UInt8) (i : Nat) (hi : i < 4) : lat (sealed body) (4 + i) = wb (sumN (lat body) body.length) i := by
  unfold sealed; rw [lat_app, if_neg (by rw [w4_len]; omega), w4_len, show 4 + i - 4 = i by omega, lat_app, if_pos (by rw [w4_len]; exact hi), w4_at _ _ hi]
theorem sealed_body (body : List UInt8) (i : Nat) : lat (sealed body) (8 + i) = lat body i := by
  unfold sealed; rw [lat_app, if_neg (by rw [w4_len]; omega), w4_len, lat_app, if_neg (by rw [w4_len]; omega), w4_len, show 8 + i - 4 - 4 = i by omega]

/-- A sealed body within bytes is opened. -/
theorem open_sealed (ahead body behind : List UInt8) (hb : body.length ≤ 134217728) :
    opnE (lat (ahead ++ (sealed body ++ behind))) (ahead ++ (sealed body ++ behind)).length (ahead.length : Int) = 0 ∧ (wordN fun i => lat (ahead ++ (sealed body ++ behind)) (ahead.length + i)) = body.length ∧
      ∀ i, i < body.length → lat (ahead ++ (sealed body ++ behind)) (ahead.length + 8 + i) = lat body i := by
  have key : ∀ i, i < body.length + 8 → lat (ahead ++ (sealed body ++ behind)) (ahead.length + i) = lat (sealed body) i := fun i hi => by
    rw [lat_app, if_neg (by omega), show ahead.length + i - ahead.length = i by omega, lat_app, if_pos (by rw [sealed_len]; exact hi)]
  have hw : (wordN fun i => lat (ahead ++ (sealed body ++ behind)) (ahead.length + i)) = body.length :=
    (wb_word _ _ (by omega)).2 (fun i hi => by rw [key i (by omega), sealed_head body i hi])
  have hs : (wordN fun i => lat (ahead ++ (sealed body ++ behind)) (ahead.length + 4 + i)) = sumN (lat body) body.length :=
    (wb_word _ _ (sumN_lt _ _)).2 (fun i hi => by rw [Nat.add_assoc, key (4 + i) (by omega), sealed_sum body i hi])
  have hbody : ∀ i, i < body.length → lat (ahead ++ (sealed body ++ behind)) (ahead.length + 8 + i) = lat body i := fun i hi => by
    rw [Nat.add_assoc, key (8 + i) (by omega), sealed_body]
  have hl : (ahead ++ (sealed body ++ behind)).length = ahead.length + (body.length + 8 + behind.length) := by rw [List.length_append, List.length_append, sealed_len]
  refine ⟨?_, hw, hbody⟩
  rw [opnE_in _ _ _ (by omega), hw, if_neg (by omega), if_pos]
  rw [hs]
  exact sumN_congr _ _ _ hbody
/-- With a byte turned it isn't. -/
theorem open_turned (body : List UInt8) (hb : body.length ≤ 134217728) (k : Nat) (h4 : 4 ≤ k) (hk : k < body.length + 8) (y : UInt8) (hy : y ≠ lat (sealed body) k) : opnE (lat ((sealed body).set k y)) (body.length + 8) 0 = 8 := by
  have key : ∀ i, i < body.length + 8 → lat ((sealed body).set k y) i = if i = k then y else lat (sealed body) i := fun i hi => by
    have hl := sealed_len body
    unfold lat
    by_cases h : i = k
    · subst h; rw [if_pos rfl]; simp [hl, hi]
    · rw [if_neg h]; simp [List.getElem?_set_ne (Ne.symm h)]
  have hw : (wordN fun i => lat ((sealed body).set k y) (0 + i)) = body.length :=
    (wb_word _ _ (by omega)).2 (fun i hi => by rw [Nat.zero_add, key i (by omega), if_neg (by omega), sealed_head body i hi])
  have h := opnE_in (lat ((sealed body).set k y)) (body.length + 8) 0 (by omega)
  rw [hw, if_neg (by omega)] at h
  rw [show ((0 : Nat) : Int) = 0 by rfl] at h
  rw [h, if_neg]
  intro he
  by_cases hk8 : k < 8
  · have hsum : sumN (fun i => lat ((sealed body).set k y) (0 + 8 + i)) body.length = sumN (lat body) body.length := sumN_congr _ _ _ (fun i hi => by
      rw [show 0 + 8 + i = 8 + i by omega, key (8 + i) (by omega), if_neg (by omega), sealed_body])
    rw [hsum] at he
    have hh := (wb_word _ _ (sumN_lt _ _)).1 he.symm (k - 4) (by omega)
    rw [show 0 + 4 + (k - 4) = k by omega, key k hk, if_pos rfl, ← sealed_sum body (k - 4) (by omega), show 4 + (k - 4) = k by omega] at hh
    exact hy hh.symm
  · have hsw : (wordN fun i => lat ((sealed body).set k y) (0 + 4 + i)) = sumN (lat body) body.length :=
      (wb_word _ _ (sumN_lt _ _)).2 (fun i hi => by rw [show 0 + 4 + i = 4 + i by omega, key (4 + i) (by omega), if_neg (by omega), sealed_sum body i hi])
    rw [hsw] at he
    refine sumN_diff _ _ (k - 8) body.length (by omega) ?_ ?_ he
    · rw [show 0 + 8 + (k - 8) = k by omega, key k hk, if_pos rfl, ← sealed_body body (k - 8), show 8 + (k - 8) = k by omega]
      exact hy
    · intro i hi hik
      rw [show 0 + 8 + i = 8 + i by omega, key (8 + i) (by omega), if_neg (by omega), sealed_body]
end Go.Proofs.YtobhccmnlmlapaaGreatDoor.Wr
