import Derived.Test.YtodkekmfadfjkaaGreatDoorVRsA
import Derived.Maps.AppendAt
import Derived.Deep.OwnRows
import Derived.Laws.OwnMore
import Derived.OwnWalk
import Derived.Laws.BytesArg
import Derived.Laws.IdiomStrings
namespace Go.Proofs.YtodkekmfadfjkaaGreatDoor.Vl
open Go.RowKit
set_option linter.unusedVariables false
set_option maxRecDepth 100000

def hexv (c : UInt8) : Int := if isD c then (c.toNat : Int) - 48 else if decide (97 ≤ c.toNat) && decide (c.toNat ≤ 102) then (c.toNat : Int) - 97 + 10 else -1
theorem hexv_lt (c : UInt8) : hexv c < 16 ∧ -1 ≤ hexv c := by
  unfold hexv isD
  split
  · rename_i h; simp at h; omega
  · split
    · rename_i h; simp at h; omega
    · omega
set_option maxHeartbeats 1000000 in
theorem hex_any (c : UInt8) (w : World) : Calls Tryz.prog 45 #[.int .u8 (c.toNat : Int)] w fun e w' => e = .returned (.int .i64 (hexv c)) ∧ w' = w := by
  have hc2 := UInt8.toNat_lt c
  have HH : Hid (hexv c = if isD c then (c.toNat : Int) - 48 else if decide (97 ≤ c.toNat) && decide (c.toNat ≤ 102) then (c.toNat : Int) - 97 + 10 else -1) := rfl
  have HI : Hid (isD c = (decide (48 ≤ c.toNat) && decide (c.toNat ≤ 57))) := rfl
  generalize c.toNat = X at *
  by_cases h1 : 48 ≤ X ∧ X ≤ 57
  · have a1 : (48 : Int) ≤ (X : Int) := by omega
    have a2 : (X : Int) ≤ 57 := by omega
    have H : Hid (hexv c = (X : Int) - 48) := by rw [Hid, HH.out, HI.out, decide_eq_true h1.1, decide_eq_true h1.2]; rfl
    go_enter Tryz.func45, Tryz.ntmps45
    go_wp2
    go_ret
    exact ⟨ret_int H.out.symm, rfl⟩
  · have hi : isD c = false := by
      rw [HI.out]
      by_cases h : 48 ≤ X
      · rw [decide_eq_false (show ¬ X ≤ 57 by omega), Bool.and_false]
      · rw [decide_eq_false h, Bool.false_and]
    by_cases h2 : 97 ≤ X ∧ X ≤ 102
    · have a1 : (48 : Int) ≤ (X : Int) := by omega
      have a2 : ¬ (X : Int) ≤ 57 := by omega
      have a3 : (97 : Int) ≤ (X : Int) := by omega
      have a4 : (X : Int) ≤ 102 := by omega
      have H : Hid (hexv c = (X : Int) - 97 + 10) := by rw [Hid, HH.out, hi, decide_eq_true h2.1, decide_eq_true h2.2]; rfl
      go_enter Tryz.func45, Tryz.ntmps45
      go_wp2
      go_ret
      exact ⟨ret_int H.out.symm, rfl⟩
    · have H : Hid (hexv c = -1) := by
        rw [Hid, HH.out, hi]
        by_cases h : 97 ≤ X
        · rw [decide_eq_false (show ¬ X ≤ 102 by omega), Bool.and_false]; rfl
        · rw [decide_eq_false h, Bool.false_and]; rfl
      by_cases b1 : 48 ≤ X
      · have a1 : (48 : Int) ≤ (X : Int) := by omega
        have a2 : ¬ (X : Int) ≤ 57 := by omega
        by_cases b3 : 97 ≤ X
        · have a3 : (97 : Int) ≤ (X : Int) := by omega
          have a4 : ¬ (X : Int) ≤ 102 := by omega
          go_enter Tryz.func45, Tryz.ntmps45
          go_wp2
          go_ret
          exact ⟨ret_int H.out.symm, rfl⟩
        · have a3 : ¬ (97 : Int) ≤ (X : Int) := by omega
          go_enter Tryz.func45, Tryz.ntmps45
          go_wp2
          go_ret
          exact ⟨ret_int H.out.symm, rfl⟩
      · have a1 : ¬ (48 : Int) ≤ (X : Int) := by omega
        have a3 : ¬ (97 : Int) ≤ (X : Int) := by omega
        go_enter Tryz.func45, Tryz.ntmps45
        go_wp2
        go_ret
        exact ⟨ret_int H.out.symm, rfl⟩

/-- A text whose signs are turned back. -/
def unq : List UInt8 → List UInt8
  | [] => []
  | [c] => [c]
  | [c, d] => [c, d]
  | c :: x :: y :: r => if c = 92 ∧ 0 ≤ hexv x ∧ 0 ≤ hexv y then UInt8.ofNat (16 * hexv x + hexv y).toNat :: unq r else c :: unq (x :: y :: r)
theorem unq_len : ∀ l, (unq l).length ≤ l.length
  | [] => by simp [unq]
  | [c] => by simp [unq]
  | [c, d] => by simp [unq]
  | c :: x :: y :: r => by
    rw [unq]
    have h1 := unq_len r
    have h2 := unq_len (x :: y :: r)
    split
    · simp; omega
    · simp at h2 ⊢; omega
theorem unq_plain {c : UInt8} {r : List UInt8} (h : ∀ x y t, r = x :: y :: t → ¬ (c = 92 ∧ 0 ≤ hexv x ∧ 0 ≤ hexv y)) : unq (c :: r) = c :: unq r := by
  match r, h with
  | [], _ => rfl
  | [d], _ => rfl
  | x :: y :: t, h => rw [unq, if_neg (h x y t rfl)]
theorem unq_turn {x y : UInt8} {t : List UInt8} (hx : 0 ≤ hexv x) (hy : 0 ≤ hexv y) : unq (92 :: x :: y :: t) = UInt8.ofNat (16 * hexv x + hexv y).toNat :: unq t := by
  rw [unq, if_pos ⟨rfl, hx, hy⟩]

def ub (c : UInt8) : Value := .int .u8 (c.toNat : Int)
theorem infoB : (Tryz.prog.info? 5).map (fun i => (i.zero, i.size, i.bytes)) = some (some (.int .u8 0), 1, 1) := by kernel_rfl
def OB (w : World) (B : Nat) (v : Value) (l : List UInt8) : Prop := w.ownsRow B 5 1 v l.length (l.map ub)
theorem OB.alloc {w : World} {B : Nat} {v : Value} {l : List UInt8} (h : OB w B v l) (o : Obj) : OB (w.alloc o) B v l := World.ownsRow.alloc h o
theorem OB.conv {w : World} {B : Nat} {v : Value} {l : List UInt8} (h : OB w B v l) : ∃ a c, v = .slice a l.length c ∧ (convert 46 9 v).run Tryz.prog w = .ok (.string ⟨l.toArray⟩) w := by
  rcases h.2 with ⟨h1, h2⟩ | ⟨g, c, cur, h1, h2, h3, h4, h5, h6, h7⟩
  · have hl : l = [] := List.eq_nil_of_length_eq_zero h2
    subst hl h1
    exact ⟨none, 0, rfl, run_convert_bytes_nil (P := Tryz.prog) w 46 5 Tryz.underlying46 Tryz.underlying5 0 0 9 Tryz.underlying9⟩
  · subst h1
    refine ⟨_, c, rfl, ?_⟩
    have := run_convert_bytes_back (P := Tryz.prog) w 46 9 5 ⟨g, 0, none⟩ c l Tryz.underlying46 Tryz.underlying5 Tryz.underlying9 (by
      intro j hj
      rw [WideShapes.add_plain, Nat.zero_add, World.ownsRow.cellAt h j (by omega)]
      simp [ub, hj])
    exact this

set_option maxHeartbeats 4000000 in
theorem unquoted_any (s : ByteArray) (w : World) (hs : s.size ≤ 140737488355327) :
    Calls Tryz.prog 27 #[.string s] w fun e w' => e = .returned (.string ⟨(unq s.data.toList).toArray⟩) ∧ Below w.heap.size w w' := by
  obtain ⟨i0, hi0, hz0, hz1, hz2⟩ := info_parts infoB
  have hlen : s.data.toList.length = s.size := by simp
  have HG : Hid (∀ k (h : k < s.size), s.data.toList[k]'(by omega) = s[k]) := fun k h => by simp [ByteArray.getElem_eq_getElem_data]
  obtain ⟨L, hL⟩ : ∃ L, L = s.data.toList := ⟨_, rfl⟩
  rw [← hL] at hlen ⊢
  have HG2 : Hid (∀ k (h : k < s.size), L.drop k = s[k] :: L.drop (k + 1)) := fun k h => by
    subst hL
    rw [List.drop_eq_getElem_cons (by omega), HG.out k h]
  clear HG hL
  go_enter Tryz.func27, Tryz.ntmps27
  go_wp2
  go_loopw [3, 4] (fun b i w' => ∃ (k : Nat) (d : List UInt8), k ≤ s.size ∧ i = .int .i64 k ∧ OB w' w.heap.size b d ∧ d ++ unq (L.drop k) = unq L ∧ d.length ≤ k ∧ Below w.heap.size w w') (fun _ i _ => s.size - (intOf i).toNat)
  case atStart => exact ⟨0, [], Nat.zero_le _, rfl, World.ownsRow_nil _ _ _ _, rfl, Nat.zero_le _, Below.refl _ _⟩
  case round =>
    obtain ⟨k, d, hk, rfl, ho, hd, hdk, hb⟩ := hrel
    have HO : Hid (OB wr w.heap.size u3 d) := ho
    have HD : Hid (d ++ unq (L.drop k) = unq L) := hd
    have HB : Hid (Below w.heap.size w wr) := hb
    have hsz := hb.size
    clear ho hd hb
    by_cases hlt : k < s.size
    · have hki : (k : Int) < (s.size : Int) := by omega
      have hc2 := UInt8.toNat_lt s[k]
      have HC := HG2.out k hlt
      have HC' : Hid (L.drop k = s[k] :: L.drop (k + 1)) := HC
      clear HC
      by_cases hA : s[k].toNat = 92 ∧ k + 2 < s.size
      · obtain ⟨h92, hk2⟩ := hA
        have hk92 : s[k] = 92 := by apply UInt8.toNat_inj.1; exact h92
        have hb92 : ((s[k].toNat : Int) == 92) = true := by rw [beq_iff_eq]; omega
        have h2i : (k : Int) + 2 < (s.size : Int) := by omega
        have HC1 : Hid (L.drop (k + 1) = s[k + 1] :: L.drop (k + 2)) := HG2.out (k + 1) (by omega)
        have HC2 : Hid (L.drop (k + 2) = s[k + 2] :: L.drop (k + 3)) := HG2.out (k + 2) (by omega)
        have hx1 := hexv_lt s[k + 1]
        have hx2 := hexv_lt s[k + 2]
        have HX : Hid (∀ W, Calls Tryz.prog 45 #[.int .u8 (s[k + 1].toNat : Int)] W fun e w' => e = .returned (.int .i64 (hexv s[k + 1])) ∧ w' = W) := hex_any _
        have HY : Hid (∀ W, Calls Tryz.prog 45 #[.int .u8 (s[k + 2].toNat : Int)] W fun e w' => e = .returned (.int .i64 (hexv s[k + 2])) ∧ w' = W) := hex_any _
        have HUT : Hid (0 ≤ hexv s[k + 1] → 0 ≤ hexv s[k + 2] → unq (L.drop k) = UInt8.ofNat (16 * hexv s[k + 1] + hexv s[k + 2]).toNat :: unq (L.drop (k + 3))) := fun h1 h2 => by
          rw [HC'.out, HC1.out, HC2.out, hk92, unq_turn h1 h2]
        have HUP : Hid (¬ (0 ≤ hexv s[k + 1] ∧ 0 ≤ hexv s[k + 2]) → unq (L.drop k) = 92 :: unq (L.drop (k + 1))) := fun h => by
          rw [HC'.out, hk92]
          refine unq_plain (fun x y t he hh => h ?_)
          rw [HC1.out, HC2.out] at he
          injection he with e1 e2
          injection e2 with e3 e4
          subst e1 e3
          exact hh.2
        clear HC' HC1 HC2 hk92
        generalize hexv s[k + 1] = p at *
        generalize hexv s[k + 2] = q at *
        go_wp2_with fail
        refine (HX.out _).mono ?_
        rintro e w1 ⟨rfl, rfl⟩
        go_wp2_with fail
        refine (HY.out _).mono ?_
        rintro e w2 ⟨rfl, rfl⟩
        generalize w2 = wr at *
        clear HX HY
        by_cases hp : 0 ≤ p
        · by_cases hqq : 0 ≤ q
          · obtain ⟨c0, hc0⟩ : ∃ c0, c0 = UInt8.ofNat (16 * p + q).toNat := ⟨_, rfl⟩
            have hc0n : (c0.toNat : Int) = 16 * p + q := by rw [hc0, UInt8.toNat_ofNat']; omega
            have HW : Hid (∀ v' w5, OB w5 w.heap.size v' (d ++ [c0]) → Below w.heap.size w w5 → ∃ (k' : Nat) (d : List UInt8), k' ≤ s.size ∧ Value.int .i64 ((k : Int) + 3) = .int .i64 k' ∧ OB w5 w.heap.size v' d ∧ d ++ unq (L.drop k') = unq L ∧ d.length ≤ k' ∧ Below w.heap.size w w5) := fun v' w5 h1 h2 =>
              ⟨k + 3, d ++ [c0], by omega, by go_num, h1, by rw [← HD.out, HUT.out hp hqq, ← hc0]; simp, by simp; omega, h2⟩
            have HC0 : Hid ((c0.toNat : Int) = 16 * p + q) := hc0n
            have hwu : IntKind.u8.wrap (16 * p + q) = 16 * p + q := by rw [IntKind.wrap_u8']; omega
            clear HUT HUP hc0 hc0n
            go_wp2_with (first
              | (at_builtin; refine wpList_append_own_at _ rfl _ _ 46 rfl w.heap.size 5 i0 (.int .u8 0) 1 1 Tryz.underlying46 hi0 hz0 hz1 hz2 rfl (by decide) _ d.length (d.map ub) rfl (World.ownsRow.alloc HO.out _) ⟨wr.heap.size, 0, none⟩ 1 1 [ub c0] rfl rfl ?c1 ?c2 ?c3 ?c4 ?c5 ?_))
            case c1 =>
              intro j u hj
              match j, hj with
              | 0, hj => simp at hj; subst hj; simp [Addr.add, ub, HC0.out]
            case c2 => first | rfl | (intro u hu; simp at hu; subst hu; rfl)
            case c3 => unfold maxLen; omega
            case c4 => omega
            case c5 => first | omega | (simp; omega)
            · intro v' w5 hown' hgrow _ hat
              have hb5 : Below w.heap.size w w5 := (HB.out.alloc hsz _).grown hgrow (by simp; omega) (fun j hj => (World.ownsRow.lt HO.out j hj).1)
              have hO5 : OB w5 w.heap.size v' (d ++ [c0]) := by unfold OB; rw [List.length_append, List.map_append]; exact hown'
              have HR := HW.out v' w5 hO5 hb5
              have HR' : Hid (∃ (k' : Nat) (d : List UInt8), k' ≤ s.size ∧ Value.int .i64 ((k : Int) + 3) = .int .i64 k' ∧ OB w5 w.heap.size v' d ∧ d ++ unq (L.drop k') = unq L ∧ d.length ≤ k' ∧ Below w.heap.size w w5) := HR
              clear hown' hgrow hat hb5 hO5 HR HW HO
              go_wp2
              go_roundw
              case rel => (first | exact HR'.out | (have h := HR'.out; rw [show (k : Int) + 3 = (k : Int) + 2 + 1 by omega] at h; exact h))
              case measure => simp [intOf]; omega
          · have HW : Hid (∀ v' w5, OB w5 w.heap.size v' (d ++ [92]) → Below w.heap.size w w5 → ∃ (k' : Nat) (d : List UInt8), k' ≤ s.size ∧ Value.int .i64 ((k : Int) + 1) = .int .i64 k' ∧ OB w5 w.heap.size v' d ∧ d ++ unq (L.drop k') = unq L ∧ d.length ≤ k' ∧ Below w.heap.size w w5) := fun v' w5 h1 h2 =>
              ⟨k + 1, d ++ [92], by omega, by go_num, h1, by rw [← HD.out, HUP.out (fun h => hqq h.2)]; simp, by simp; omega, h2⟩
            clear HUT HUP
            go_wp2_with (first
              | (at_builtin; refine wpList_append_own_at _ rfl _ _ 46 rfl w.heap.size 5 i0 (.int .u8 0) 1 1 Tryz.underlying46 hi0 hz0 hz1 hz2 rfl (by decide) _ d.length (d.map ub) rfl (World.ownsRow.alloc HO.out _) ⟨wr.heap.size, 0, none⟩ 1 1 [ub 92] rfl rfl ?c1 ?c2 ?c3 ?c4 ?c5 ?_))
            case c1 =>
              intro j u hj
              match j, hj with
              | 0, hj => simp at hj; subst hj; simp [Addr.add, ub]
            case c2 => first | rfl | (intro u hu; simp at hu; subst hu; rfl)
            case c3 => unfold maxLen; omega
            case c4 => omega
            case c5 => first | omega | (simp; omega)
            · intro v' w5 hown' hgrow _ hat
              have hb5 : Below w.heap.size w w5 := (HB.out.alloc hsz _).grown hgrow (by simp; omega) (fun j hj => (World.ownsRow.lt HO.out j hj).1)
              have hO5 : OB w5 w.heap.size v' (d ++ [92]) := by unfold OB; rw [List.length_append, List.map_append]; exact hown'
              have HR := HW.out v' w5 hO5 hb5
              have HR' : Hid (∃ (k' : Nat) (d : List UInt8), k' ≤ s.size ∧ Value.int .i64 ((k : Int) + 1) = .int .i64 k' ∧ OB w5 w.heap.size v' d ∧ d ++ unq (L.drop k') = unq L ∧ d.length ≤ k' ∧ Below w.heap.size w w5) := HR
              clear hown' hgrow hat hb5 hO5 HR HW HO
              go_wp2
              go_roundw
              case rel => exact HR'.out
              case measure => simp [intOf]; omega
        · have HW : Hid (∀ v' w5, OB w5 w.heap.size v' (d ++ [92]) → Below w.heap.size w w5 → ∃ (k' : Nat) (d : List UInt8), k' ≤ s.size ∧ Value.int .i64 ((k : Int) + 1) = .int .i64 k' ∧ OB w5 w.heap.size v' d ∧ d ++ unq (L.drop k') = unq L ∧ d.length ≤ k' ∧ Below w.heap.size w w5) := fun v' w5 h1 h2 =>
            ⟨k + 1, d ++ [92], by omega, by go_num, h1, by rw [← HD.out, HUP.out (fun h => hp h.1)]; simp, by simp; omega, h2⟩
          clear HUT HUP
          go_wp2_with (first
            | (at_builtin; refine wpList_append_own_at _ rfl _ _ 46 rfl w.heap.size 5 i0 (.int .u8 0) 1 1 Tryz.underlying46 hi0 hz0 hz1 hz2 rfl (by decide) _ d.length (d.map ub) rfl (World.ownsRow.alloc HO.out _) ⟨wr.heap.size, 0, none⟩ 1 1 [ub 92] rfl rfl ?c1 ?c2 ?c3 ?c4 ?c5 ?_))
          case c1 =>
            intro j u hj
            match j, hj with
            | 0, hj => simp at hj; subst hj; simp [ub]
          case c2 => first | rfl | (intro u hu; simp at hu; subst hu; rfl)
          case c3 => unfold maxLen; omega
          case c4 => omega
          case c5 => first | omega | (simp; omega)
          · intro v' w5 hown' hgrow _ hat
            have hb5 : Below w.heap.size w w5 := (HB.out.alloc hsz _).grown hgrow (by simp; omega) (fun j hj => (World.ownsRow.lt HO.out j hj).1)
            have hO5 : OB w5 w.heap.size v' (d ++ [92]) := by unfold OB; rw [List.length_append, List.map_append]; exact hown'
            have HR := HW.out v' w5 hO5 hb5
            have HR' : Hid (∃ (k' : Nat) (d : List UInt8), k' ≤ s.size ∧ Value.int .i64 ((k : Int) + 1) = .int .i64 k' ∧ OB w5 w.heap.size v' d ∧ d ++ unq (L.drop k') = unq L ∧ d.length ≤ k' ∧ Below w.heap.size w w5) := HR
            clear hown' hgrow hat hb5 hO5 HR HW HO
            go_wp2
            go_roundw
            case rel => exact HR'.out
            case measure => simp [intOf]; omega
      · have HP : Hid (unq (L.drop k) = s[k] :: unq (L.drop (k + 1))) := by
          rw [Hid, HC'.out]
          refine unq_plain (fun x y t h hh => hA ⟨by rw [hh.1]; rfl, ?_⟩)
          have := congrArg List.length h
          rw [List.length_drop] at this
          simp at this
          omega
        have HW : Hid (∀ v' w5, OB w5 w.heap.size v' (d ++ [s[k]]) → Below w.heap.size w w5 → ∃ (k' : Nat) (d : List UInt8), k' ≤ s.size ∧ Value.int .i64 ((k : Int) + 1) = .int .i64 k' ∧ OB w5 w.heap.size v' d ∧ d ++ unq (L.drop k') = unq L ∧ d.length ≤ k' ∧ Below w.heap.size w w5) := fun v' w5 h1 h2 =>
          ⟨k + 1, d ++ [s[k]], by omega, by go_num, h1, by rw [← HD.out, HP.out]; simp, by simp; omega, h2⟩
        clear HD HP HC'
        obtain ⟨X, hX⟩ : ∃ X : Nat, X = s[k].toNat := ⟨_, rfl⟩
        have hor : (¬ X = 92) ∨ (X = 92 ∧ ¬ k + 2 < s.size) := by
          by_cases h : X = 92
          · exact .inr ⟨h, fun h2 => hA ⟨by omega, h2⟩⟩
          · exact .inl h
        rcases hor with h | ⟨h, h2⟩
        · have hb92 : ((s[k].toNat : Int) == 92) = false := by rw [beq_eq_false_iff_ne]; omega
          go_wp2_with (first
            | (at_builtin; refine wpList_append_own_at _ rfl _ _ 46 rfl w.heap.size 5 i0 (.int .u8 0) 1 1 Tryz.underlying46 hi0 hz0 hz1 hz2 rfl (by decide) _ d.length (d.map ub) rfl (World.ownsRow.alloc HO.out _) ⟨wr.heap.size, 0, none⟩ 1 1 [ub s[k]] rfl rfl ?c1 ?c2 ?c3 ?c4 ?c5 ?_))
          case c1 =>
            intro j u hj
            match j, hj with
            | 0, hj => simp at hj; subst hj; simp [Addr.add, ub]
          case c2 => first | rfl | (intro u hu; simp at hu; subst hu; rfl)
          case c3 => unfold maxLen; omega
          case c4 => omega
          case c5 => first | omega | (simp; omega)
          · intro v' w5 hown' hgrow _ hat
            have hb5 : Below w.heap.size w w5 := (HB.out.alloc hsz _).grown hgrow (by simp; omega) (fun j hj => (World.ownsRow.lt HO.out j hj).1)
            have hO5 : OB w5 w.heap.size v' (d ++ [s[k]]) := by unfold OB; rw [List.length_append, List.map_append]; exact hown'
            have HR := HW.out v' w5 hO5 hb5
            have HR' : Hid (∃ (k' : Nat) (d : List UInt8), k' ≤ s.size ∧ Value.int .i64 ((k : Int) + 1) = .int .i64 k' ∧ OB w5 w.heap.size v' d ∧ d ++ unq (L.drop k') = unq L ∧ d.length ≤ k' ∧ Below w.heap.size w w5) := HR
            clear hown' hgrow hat hb5 hO5 HR HW HO
            go_wp2
            go_roundw
            case rel => exact HR'.out
            case measure => simp [intOf]; omega
        · have hb92 : ((s[k].toNat : Int) == 92) = true := by rw [beq_iff_eq]; omega
          have hk92 : s[k] = 92 := by apply UInt8.toNat_inj.1; show s[k].toNat = 92; omega
          rw [hk92] at HW
          have h2i : ¬ (k : Int) + 2 < (s.size : Int) := by omega
          go_wp2_with (first
            | (at_builtin; refine wpList_append_own_at _ rfl _ _ 46 rfl w.heap.size 5 i0 (.int .u8 0) 1 1 Tryz.underlying46 hi0 hz0 hz1 hz2 rfl (by decide) _ d.length (d.map ub) rfl (World.ownsRow.alloc HO.out _) ⟨wr.heap.size, 0, none⟩ 1 1 [ub 92] rfl rfl ?c1 ?c2 ?c3 ?c4 ?c5 ?_))
          case c1 =>
            intro j u hj
            match j, hj with
            | 0, hj => simp at hj; subst hj; simp [ub]
          case c2 => first | rfl | (intro u hu; simp at hu; subst hu; rfl)
          case c3 => unfold maxLen; omega
          case c4 => omega
          case c5 => first | omega | (simp; omega)
          · intro v' w5 hown' hgrow _ hat
            have hb5 : Below w.heap.size w w5 := (HB.out.alloc hsz _).grown hgrow (by simp; omega) (fun j hj => (World.ownsRow.lt HO.out j hj).1)
            have hO5 : OB w5 w.heap.size v' (d ++ [92]) := by unfold OB; rw [List.length_append, List.map_append]; exact hown'
            have HR := HW.out v' w5 hO5 hb5
            have HR' : Hid (∃ (k' : Nat) (d : List UInt8), k' ≤ s.size ∧ Value.int .i64 ((k : Int) + 1) = .int .i64 k' ∧ OB w5 w.heap.size v' d ∧ d ++ unq (L.drop k') = unq L ∧ d.length ≤ k' ∧ Below w.heap.size w w5) := HR
            clear hown' hgrow hat hb5 hO5 HR HW HO
            go_wp2
            go_roundw
            case rel => exact HR'.out
            case measure => simp [intOf]; omega
    · obtain rfl : k = s.size := by omega
      have hde : d = unq L := by
        have := HD.out
        rw [List.drop_eq_nil_of_le (by omega), show unq [] = [] from rfl, List.append_nil] at this
        exact this
      subst hde
      obtain ⟨a, c, rfl, hcv⟩ := HO.out.conv
      go_wp2
      go_ret
      exact ⟨rfl, HB.out⟩
end Go.Proofs.YtodkekmfadfjkaaGreatDoor.Vl
