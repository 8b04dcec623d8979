import Derived.Test.YtodkekmfadfjkaaGreatDoorVRsF
namespace Go.Proofs.YtodkekmfadfjkaaGreatDoor.Vl
open Go.RowKit
set_option linter.unusedVariables false
set_option maxRecDepth 100000

def UPost (w : World) (s : ByteArray) (e : Ending) (w' : World) : Prop := ∃ t : ByteArray, e = .returned (.string t) ∧ t.size ≤ s.size ∧ Below w.heap.size w w'
def UInv (w : World) (s : ByteArray) (b i : Value) (w' : World) : Prop := ∃ (k : Nat) (d : List UInt8), k ≤ s.size ∧ i = .int .i64 k ∧ OB w' w.heap.size b d ∧ d.length ≤ k ∧ Below w.heap.size w w'

set_option maxHeartbeats 4000000 in
theorem unescaped_tot (s : ByteArray) (w : World) (hs : s.size ≤ 140737488355327) (hsen : Sen w) :
    Calls Tryz.prog 58 #[.string s] w (UPost w s) := by
  obtain ⟨i0, hi0, hz0, hz1, hz2⟩ := info_parts infoB
  have HSN : Hid (Sen w) := hsen
  clear hsen
  go_enter Tryz.func58, Tryz.ntmps58
  go_wp2
  go_loopw [3, 4] (fun b i w' => UInv w s b i w') (fun _ i _ => s.size - (intOf i).toNat)
  case atStart => exact ⟨0, [], Nat.zero_le _, rfl, World.ownsRow_nil _ _ _ _, Nat.zero_le _, Below.refl _ _⟩
  case round =>
    obtain ⟨k, d, hk, rfl, ho, hdk, hb⟩ := hrel
    have HO : Hid (OB wr w.heap.size u3 d) := ho
    have HB : Hid (Below w.heap.size w wr) := hb
    have hsz := hb.size
    clear ho hb
    by_cases hlt : k < s.size
    · have hki : (k : Int) < (s.size : Int) := by omega
      have hc2 := UInt8.toNat_lt s[k]
      by_cases hA : s[k].toNat = 92 ∧ k + 2 < s.size
      · obtain ⟨h92, hk2⟩ := hA
        have hb92 : ((s[k].toNat : Int) == 92) = true := by rw [beq_iff_eq]; omega
        have h2i : (k : Int) + 2 < (s.size : Int) := by omega
        have hsl := slice_pair s k hk2
        have HPU : Hid (Calls Tryz.prog 72 #[.string ⟨#[s[k + 1], s[k + 2]]⟩, .int .i64 16, .int .i64 8] wr (PU wr)) := parseUint_tot _ _ wr (HSN.out.later HB.out)
        generalize (⟨#[s[k + 1], s[k + 2]]⟩ : ByteArray) = P at *
        go_wp2_with fail
        refine HPU.out.mono ?_
        rintro e w2 ⟨hb2, hcase⟩
        have HO2 : Hid (OB w2 w.heap.size u3 d) := owns_later HO.out hb2
        have HB2 : Hid (Below w.heap.size w w2) := HB.out.trans (hb2.mono hsz)
        have hsz2 := HB2.out.size
        clear hb2 HB HO HPU hsz
        rcases hcase with ⟨v, hv, rfl⟩ | ⟨N, rfl⟩
        · have hwu : IntKind.u8.wrap (v : Int) = (v : Int) := by rw [IntKind.wrap_u8']; omega
          obtain ⟨c0, hc0⟩ : ∃ c0 : UInt8, (c0.toNat : Int) = (v : Int) := ⟨UInt8.ofNat v, by rw [UInt8.toNat_ofNat']; omega⟩
          have HC0 : Hid ((c0.toNat : Int) = (v : Int)) := hc0
          clear hc0
          go_wp2_with (first
              | (at_builtin; refine wpList_append_own_at _ rfl _ _ 46 rfl w.heap.size 5 i0 (.int .u8 0) 1 1 Tryz.underlying46 hi0 hz0 hz1 hz2 rfl (by decide) _ d.length (d.map ub) rfl (World.ownsRow.alloc HO2.out _) ⟨w2.heap.size, 0, none⟩ 1 1 [ub c0] rfl rfl ?c1 ?c2 ?c3 ?c4 ?c5 ?_))
          case c1 =>
            intro j u hj
            match j, hj with
            | 0, hj => simp at hj; subst hj; simp [Addr.add, ub, HC0.out]
          case c2 => first | rfl | (intro u hu; simp at hu; subst hu; rfl)
          case c3 => unfold maxLen; omega
          case c4 => omega
          case c5 => first | omega | (simp; omega)
          · intro v' w5 hown' hgrow _ hat
            have hb5 : Below w.heap.size w w5 := (HB2.out.alloc hsz2 _).grown hgrow (by simp; omega) (fun j hj => (World.ownsRow.lt HO2.out j hj).1)
            have hO5 : OB w5 w.heap.size v' (d ++ [c0]) := by unfold OB; rw [List.length_append, List.map_append]; exact hown'
            have HR' : Hid (UInv w s v' (.int .i64 ((k : Int) + 3)) w5) := ⟨k + 3, d ++ [c0], by omega, by go_num, hO5, by simp; omega, hb5⟩
            clear hown' hgrow hat hb5 hO5 HO2 HB2
            go_wp2
            go_roundw
            case rel => (first | exact HR'.out | (have h := HR'.out; rw [show (k : Int) + 3 = (k : Int) + 2 + 1 by omega] at h; exact h))
            case measure => simp [intOf]; omega
        · go_wp2_with (first
              | (at_builtin; refine wpList_append_own_at _ rfl _ _ 46 rfl w.heap.size 5 i0 (.int .u8 0) 1 1 Tryz.underlying46 hi0 hz0 hz1 hz2 rfl (by decide) _ d.length (d.map ub) rfl (World.ownsRow.alloc HO2.out _) ⟨w2.heap.size, 0, none⟩ 1 1 [ub 92] rfl rfl ?c1 ?c2 ?c3 ?c4 ?c5 ?_))
          case c1 =>
            intro j u hj
            match j, hj with
            | 0, hj => simp at hj; subst hj; simp [Addr.add, ub]
          case c2 => first | rfl | (intro u hu; simp at hu; subst hu; rfl)
          case c3 => unfold maxLen; omega
          case c4 => omega
          case c5 => first | omega | (simp; omega)
          · intro v' w5 hown' hgrow _ hat
            have hb5 : Below w.heap.size w w5 := (HB2.out.alloc hsz2 _).grown hgrow (by simp; omega) (fun j hj => (World.ownsRow.lt HO2.out j hj).1)
            have hO5 : OB w5 w.heap.size v' (d ++ [92]) := by unfold OB; rw [List.length_append, List.map_append]; exact hown'
            have HR' : Hid (UInv w s v' (.int .i64 ((k : Int) + 1)) w5) := ⟨k + 1, d ++ [92], by omega, by go_num, hO5, by simp; omega, hb5⟩
            clear hown' hgrow hat hb5 hO5 HO2 HB2
            go_wp2
            go_roundw
            case rel => exact HR'.out
            case measure => simp [intOf]; omega
      · obtain ⟨X, hX⟩ : ∃ X : Nat, X = s[k].toNat := ⟨_, rfl⟩
        have hor : (¬ X = 92) ∨ (X = 92 ∧ ¬ k + 2 < s.size) := by
          by_cases h : X = 92
          · exact .inr ⟨h, fun h2 => hA ⟨by omega, h2⟩⟩
          · exact .inl h
        rcases hor with h | ⟨h, h2⟩
        · have hb92 : ((s[k].toNat : Int) == 92) = false := by rw [beq_eq_false_iff_ne]; omega
          go_wp2_with (first
            | (at_builtin; refine wpList_append_own_at _ rfl _ _ 46 rfl w.heap.size 5 i0 (.int .u8 0) 1 1 Tryz.underlying46 hi0 hz0 hz1 hz2 rfl (by decide) _ d.length (d.map ub) rfl (World.ownsRow.alloc HO.out _) ⟨wr.heap.size, 0, none⟩ 1 1 [ub s[k]] rfl rfl ?c1 ?c2 ?c3 ?c4 ?c5 ?_))
          case c1 =>
            intro j u hj
            match j, hj with
            | 0, hj => simp at hj; subst hj; simp [Addr.add, ub]
          case c2 => first | rfl | (intro u hu; simp at hu; subst hu; rfl)
          case c3 => unfold maxLen; omega
          case c4 => omega
          case c5 => first | omega | (simp; omega)
          · intro v' w5 hown' hgrow _ hat
            have hb5 : Below w.heap.size w w5 := (HB.out.alloc hsz _).grown hgrow (by simp; omega) (fun j hj => (World.ownsRow.lt HO.out j hj).1)
            have hO5 : OB w5 w.heap.size v' (d ++ [s[k]]) := by unfold OB; rw [List.length_append, List.map_append]; exact hown'
            have HR' : Hid (UInv w s v' (.int .i64 ((k : Int) + 1)) w5) := ⟨k + 1, d ++ [s[k]], by omega, by go_num, hO5, by simp; omega, hb5⟩
            clear hown' hgrow hat hb5 hO5 HO
            go_wp2
            go_roundw
            case rel => exact HR'.out
            case measure => simp [intOf]; omega
        · have hb92 : ((s[k].toNat : Int) == 92) = true := by rw [beq_iff_eq]; omega
          have h2i : ¬ (k : Int) + 2 < (s.size : Int) := by omega
          go_wp2_with (first
            | (at_builtin; refine wpList_append_own_at _ rfl _ _ 46 rfl w.heap.size 5 i0 (.int .u8 0) 1 1 Tryz.underlying46 hi0 hz0 hz1 hz2 rfl (by decide) _ d.length (d.map ub) rfl (World.ownsRow.alloc HO.out _) ⟨wr.heap.size, 0, none⟩ 1 1 [ub s[k]] rfl rfl ?c1 ?c2 ?c3 ?c4 ?c5 ?_))
          case c1 =>
            intro j u hj
            match j, hj with
            | 0, hj => simp at hj; subst hj; simp [ub]
          case c2 => first | rfl | (intro u hu; simp at hu; subst hu; rfl)
          case c3 => unfold maxLen; omega
          case c4 => omega
          case c5 => first | omega | (simp; omega)
          · intro v' w5 hown' hgrow _ hat
            have hb5 : Below w.heap.size w w5 := (HB.out.alloc hsz _).grown hgrow (by simp; omega) (fun j hj => (World.ownsRow.lt HO.out j hj).1)
            have hO5 : OB w5 w.heap.size v' (d ++ [s[k]]) := by unfold OB; rw [List.length_append, List.map_append]; exact hown'
            have HR' : Hid (UInv w s v' (.int .i64 ((k : Int) + 1)) w5) := ⟨k + 1, d ++ [s[k]], by omega, by go_num, hO5, by simp; omega, hb5⟩
            clear hown' hgrow hat hb5 hO5 HO
            go_wp2
            go_roundw
            case rel => exact HR'.out
            case measure => simp [intOf]; omega
    · obtain rfl : k = s.size := by omega
      obtain ⟨a, c, rfl, hcv⟩ := HO.out.conv
      have FIN : Hid (UPost w s (.returned (.string ⟨d.toArray⟩)) wr) := ⟨_, rfl, by show d.toArray.size ≤ _; rw [List.size_toArray]; exact hdk, HB.out⟩
      go_wp2
      go_ret
      exact FIN.out
end Go.Proofs.YtodkekmfadfjkaaGreatDoor.Vl
