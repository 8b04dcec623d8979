import Derived.Test.YtoioaalkeanhgaaDoorDpE
namespace Go.Proofs.YtoioaalkeanhgaaDoor
open Go.RowKit
set_option linter.unusedVariables false
set_option linter.unusedSimpArgs false
set_option maxRecDepth 100000

theorem info41 : (Tryd.prog.info? 41).map (fun i => (i.zero, i.size, i.bytes)) = some (some (.agg #[.int .i64 0, .int .i64 0, .int .i64 0]), 3, 24) := by kernel_rfl
theorem info45 : (Tryd.prog.info? 45).map (fun i => (i.zero, i.size, i.bytes)) = some (some (.agg #[.int .i64 0, .int .i64 0, .slice none 0 0]), 3, 40) := by kernel_rfl
theorem flat_at {α β : Type} (f : α → List β) (m : Nat) (hf : ∀ a, (f a).length = m) : ∀ (l : List α) (i j : Nat) (hi : i < l.length), j < m → (l.flatMap f)[i * m + j]? = (f l[i])[j]?
  | a :: l, 0, j, _, hj => by
    rw [List.flatMap_cons, Nat.zero_mul, Nat.zero_add, List.getElem?_append_left (by rw [hf]; exact hj)]; rfl
  | a :: l, i + 1, j, hi, hj => by
    have ih := flat_at f m hf l i j (by simpa using hi) hj
    rw [List.flatMap_cons, List.getElem?_append_right (by rw [hf, Nat.add_mul]; omega), hf, show (i + 1) * m + j - m = i * m + j by rw [Nat.add_mul]; omega, ih]
    rfl
theorem flat_len {α : Type} (enc : α → List UInt8) (hp : ∀ x, 0 < (enc x).length) : ∀ xs : List α, xs.length ≤ (xs.flatMap enc).length
  | [] => by simp
  | x :: xs => by
    rw [List.flatMap_cons, List.length_append, List.length_cons]
    have := hp x
    have := flat_len enc hp xs
    omega
def cellsO (o : Of) : List Value := [.int .i64 o.n, .int .i64 o.p, .int .i64 o.a]
/-- Offsets in a row of one's own. -/
def OO (w : World) (B : Nat) (x : Value) (os : List Of) : Prop := w.ownsRow B 41 3 x os.length (os.flatMap cellsO)
theorem OO.to {w : World} {B k : Nat} {x : Value} {os : List Of} (h : OO w B x os) (hk : os.length = k) : w.ownsRow B 41 3 x k (os.flatMap cellsO) := by subst hk; exact h
theorem OO.form {w : World} {B : Nat} {x : Value} {os : List Of} (h : OO w B x os) : ∃ a c, x = .slice a os.length c ∧ OfL w a os ∧ ∀ y, a = some y → B ≤ y.block ∧ y.block < w.heap.size := by
  rcases h.2 with ⟨h1, h2⟩ | ⟨g, c, cur, h1, h2, h3, -⟩
  · refine ⟨none, 0, by rw [h1, h2], fun i hi => absurd hi (by omega), fun y hy => by cases hy⟩
  · refine ⟨some ⟨g, 0, none⟩, c, h1, fun i hi => ?_, fun y hy => ?_⟩
    · rw [h1] at h
      have key : ∀ j, j < 3 → w.cell? ⟨g, i * 3 + j, none⟩ = (cellsO os[i])[j]? := fun j hj => by
        rw [World.ownsRow.cellAt h (i * 3 + j) (by omega), flat_at cellsO 3 (fun _ => rfl) os i j hi hj]
      exact ⟨g, 0, rfl, by rw [Nat.zero_add]; exact key 0 (by decide), by rw [Nat.zero_add]; exact key 1 (by decide), by rw [Nat.zero_add]; exact key 2 (by decide)⟩
    · cases hy
      rcases Nat.lt_or_ge g w.heap.size with h | h
      · exact ⟨h2, h⟩
      · rw [Array.getElem?_eq_none h] at h3; cases h3
theorem OO.grown {w w' : World} {B : Nat} {x : Value} {os : List Of} {r : Option Nat} (h : OO w B x os) (hg : w.grownBy w' r) (hr : ∀ k, r = some k → k < B) : OO w' B x os :=
  own_grown h hg fun k hk e => by have h1 := (World.ownsRow.lt h k hk).1; have h2 := hr k e.symm; omega
theorem OO.later {w w' : World} {B : Nat} {x : Value} {os : List Of} (h : OO w B x os) (hb : Below w.heap.size w w') : OO w' B x os := own_later h hb
theorem OO.base {w : World} {B B' : Nat} {x : Value} {os : List Of} (h : OO w B x os) (hb : B' ≤ B) : OO w B' x os := by
  refine ⟨h.1, ?_⟩
  rcases h.2 with h2 | ⟨g, cap, cur, h1, h2, h3⟩
  · exact .inl h2
  · exact .inr ⟨g, cap, cur, h1, Nat.le_trans hb h2, h3⟩
theorem encOf_pos (o : Of) : 0 < (encOf o).length := by
  unfold encOf ofNs; simp only [List.flatMap_cons, List.length_append]; have := encInt_pos o.n; omega
theorem encHd_pos (h : Hd) : 0 < (encHd h).length := by
  unfold encHd; simp only [List.flatMap_cons, List.length_append]; have := encInt_pos h.n; omega
theorem drop_flat {α : Type} (f : α → List UInt8) (l : List α) (k : Nat) (hk : k < l.length) : (l.drop k).flatMap f = f l[k] ++ (l.drop (k + 1)).flatMap f := by
  rw [List.drop_eq_getElem_cons hk, List.flatMap_cons]
theorem fitO {n : Nat} {L1 L' : List UInt8} {α : Type} (f : α → List UInt8) (hp : ∀ x, 0 < (f x).length) (l : List α) : l.length ≤ (l.flatMap f ++ L').length := by
  rw [List.length_append]; have := flat_len f hp l; omega

set_option maxHeartbeats 8000000 in
theorem rlistO (g : Nat) (L L' : List UInt8) (os : List Of) (w : World) (hR : Rd w g L) (hL : L = encInt (os.length : Int) ++ (os.flatMap encOf ++ L')) (ho : ∀ o ∈ os, InO o) (hl : os.length ≤ 549755813888) :
    Calls Tryd.prog 21 #[.pointer (some ⟨g, 0, none⟩), .func (.func 22) #[] #[]] w fun e w' => ∃ x, e = .returned (.tuple #[x, .bool true]) ∧ OO w' w.heap.size x os ∧ Rd w' g L' ∧ w.grownBy w' (some g) := by
  obtain ⟨i0, hi0, hz0, hz1, hz2⟩ := info_parts info41
  have HR := hidMk hR
  have HL := hidMk hL
  have HO := hidMk ho
  have hgl := hR.lt
  clear hR hL ho
  go_enter Tryd.func21, Tryd.ntmps21
  go_wp2_with fail
  refine (count_any g L w HR.out).mono ?_
  rintro e w1 ⟨m, ok, L1, rfl, hg1, hR1, hl1, hy, hn⟩
  cases ok with
  | false => exact absurd HL.out ((hn rfl).2 _ _ ⟨by omega, by omega⟩ (fitO (n := 0) (L1 := []) encOf encOf_pos os))
  | true =>
    obtain ⟨q1, q2⟩ := hy rfl
    rw [HL.out] at q1
    obtain ⟨q3, q4⟩ := encInt_pf q1
    have q5 : os.length = m := by omega
    subst q5 q4
    have HG1 := hidMk hg1
    have HR1 : Hid (Rd w1 g ((os.drop 0).flatMap encOf ++ L')) := hR1
    have hs1 := hg1.size
    clear hg1 hR1 hy hn q1 q2 q3 HR
    go_wp2
    go_loopg [8, 19] os.length (fun gk x i wr => ∃ k : Nat, gk + k = os.length ∧ i = .int .i64 k ∧ Rd wr g ((os.drop k).flatMap encOf ++ L') ∧ OO wr w1.heap.size x (os.take k) ∧ w.grownBy wr (some g) ∧ w1.heap.size ≤ wr.heap.size)
    case atStart => exact ⟨0, by omega, rfl, HR1.out, by rw [List.take_zero]; exact World.ownsRow_nil _ _ _ _, HG1.out, Nat.le_refl _⟩
    case round =>
      obtain ⟨k, hgk, rfl, hRk, hOk, hGk, hszk⟩ := hrel
      obtain ⟨ax, cx, rfl, -, -⟩ := hOk.form
      have HRk := hidMk hRk
      have HOk := hidMk hOk
      have HGk := hidMk hGk
      clear hRk hOk hGk
      by_cases hk : k < os.length
      · have hk' : (k : Int) < (os.length : Int) := by omega
        have HD : Hid ((os.drop k).flatMap encOf ++ L' = encOf os[k] ++ ((os.drop (k + 1)).flatMap encOf ++ L')) := by rw [Hid, drop_flat encOf os k hk, List.append_assoc]
        have HI : Hid (InO os[k]) := HO.out _ (List.getElem_mem hk)
        have htk : (os.take k).length = k := by rw [List.length_take]; omega
        have HT : Hid (os.take (k + 1) = os.take k ++ [os[k]]) := List.take_succ_eq_append_getElem hk
        go_wp2_with fail
        refine (rof_ok g _ _ os[k] wr HRk.out HD.out HI.out).mono ?_
        rintro e w3 ⟨rfl, hR3, hg3⟩
        have HOV3 : Hid (OO w3 w1.heap.size (.slice ax (os.take k).length cx) (os.take k)) := HOk.out.grown hg3 (fun k hk => by cases hk; omega)
        have HG3 : Hid (w.grownBy w3 (some g)) := grown_trans HGk.out hg3
        have HR3 := hidMk hR3
        have hs3 := hg3.size
        clear hg3 hR3 HOk HGk HRk HD HI
        generalize os[k] = o at *
        rw [htk] at HOV3 ⊢
        go_wp2_with (first
          | (at_builtin; refine wpList_append_own_at _ rfl _ _ 22 rfl w1.heap.size 41 i0 (.agg #[.int .i64 0, .int .i64 0, .int .i64 0]) 3 24 Tryd.underlying22 hi0 hz0 hz1 hz2 rfl (by decide) _ k ((os.take k).flatMap cellsO) rfl ((World.ownsRow.alloc (OO.to HOV3.out htk) _).alloc _) ⟨w3.heap.size + 1, 0, none⟩ 1 1 (cellsO o) rfl rfl ?c1 ?c2 ?c3 ?c4 ?c5 ?_))
        case c1 =>
          intro j u hj
          match j, hj with
          | 0, hj => simp [cellsO] at hj; subst hj; simp [Addr.add]
          | 1, hj => simp [cellsO] at hj; subst hj; simp [Addr.add]
          | 2, hj => simp [cellsO] at hj; subst hj; simp [Addr.add]
        case c2 => intro u hu; simp [cellsO] at hu; rcases hu with rfl | rfl | rfl <;> rfl
        case c3 => unfold maxLen; omega
        case c4 => omega
        case c5 => simp; omega
        · intro v' w5 hown' hgrow _ hat
          have hne : ∀ j, (Value.slice ax k cx).ownBlock = some j → w1.heap.size ≤ j := fun j hj => (World.ownsRow.lt HOV3.out j hj).1
          have hb2 : Below w3.heap.size w3 ((w3.alloc (.cells #[.int .i64 o.n, .int .i64 o.p, .int .i64 o.a] 41)).alloc (.cells #[.int .i64 o.n, .int .i64 o.p, .int .i64 o.a] 41)) := (bel1 _ _).alloc (by simp) _
          have HRR := hidMk ((HR3.out.later hb2).grown hgrow (fun j hj => by have := hne j hj; omega))
          have HGG : Hid (w.grownBy w5 (some g)) := grown_new (grown_trans HG3.out (grown_below hb2)) hgrow (fun j hj => by have := hne j hj; omega)
          have HO5 : Hid (OO w5 w1.heap.size v' (os.take (k + 1))) := by
            unfold Hid OO
            rw [HT.out, List.length_append, htk, List.flatMap_append]
            simpa using hown'
          have hsz5 := hgrow.size
          have hb2s := hb2.size
          clear hown' hgrow hat hne hb2 HOV3 HG3 HR3 HT
          go_wp2
          go_roundg (gk - 1)
          case measure => omega
          case rel => exact ⟨k + 1, by omega, by go_num, HRR.out, HO5.out, HGG.out, by omega⟩
      · have hk' : ¬ (k : Int) < (os.length : Int) := by omega
        obtain rfl : k = os.length := by omega
        have HR4 : Hid (Rd wr g L') := by have := HRk.out; rw [List.drop_length, List.flatMap_nil, List.nil_append] at this; exact this
        have HO4 : Hid (OO wr w.heap.size (.slice ax (os.take os.length).length cx) os) := by have := HOk.out.base hs1; rw [List.take_length] at this ⊢; exact this
        rw [List.take_length] at HO4 ⊢
        go_wp2
        go_ret2
        exact ⟨_, rfl, HO4.out, HR4.out, HGk.out⟩
end Go.Proofs.YtoioaalkeanhgaaDoor
