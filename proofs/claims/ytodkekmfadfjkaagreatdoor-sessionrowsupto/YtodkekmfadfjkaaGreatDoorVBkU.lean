import Derived.Test.YtodkekmfadfjkaaGreatDoorVBkA
import Derived.Test.YtodkekmfadfjkaaGreatDoorVBkM
namespace Go.Proofs.YtodkekmfadfjkaaGreatDoor.Vl
open Go.RowKit
set_option linter.unusedVariables false
set_option maxRecDepth 100000

theorem getE {s : ByteArray} {p : Nat} (h : p < s.size) (X Y : List UInt8) (c : UInt8) (hs : s.data.toList = X ++ c :: Y) (hp : p = X.length) : s[p] = c := by
  subst hp
  have h1 : s.data.toList[X.length]? = some c := by rw [hs]; simp
  have h2 : s.data[X.length]? = some c := by simpa using h1
  have h3 : s.data[X.length]'(by simpa using h) = c := by
    have := Array.getElem?_eq_getElem (xs := s.data) (i := X.length) (by simpa using h)
    rw [this] at h2
    exact Option.some.inj h2
  exact h3

theorem slice_two (s : ByteArray) (p : Nat) (X Y : List UInt8) (a b c : UInt8) (hs : s.data.toList = X ++ c :: a :: b :: Y) (hp : p = X.length) (w : World) :
    (Instr.slice 9 (.string s) (some (.int .i64 ((p : Int) + 1))) (some (.int .i64 ((p : Int) + 3))) none).run Tryz.prog w = .ok (.string ⟨#[a, b]⟩) w := by
  have hsz : s.size = X.length + (Y.length + 3) := by
    have : s.data.toList.length = s.size := by simp
    rw [← this, hs]; simp
  rw [run_slice_string w 9 s .i64 .i64 ((p : Int) + 1) ((p : Int) + 3) Tryz.underlying9 (by omega) (by omega) (by omega)]
  rw [show ((p : Int) + 1).toNat = p + 1 by omega, show ((p : Int) + 3).toNat = p + 3 by omega]
  congr 2
  apply ByteArray.ext
  apply Array.toList_inj.1
  rw [ByteArray.data_extract, Array.toList_extract, hs, hp]
  simp [List.extract]

theorem owns_later {w w2 : World} {base : Nat} {e : TypeId} {size : Nat} {v : Value} {n : Nat} {xs : List Value} (h : w.ownsRow base e size v n xs) (hb : Below w.heap.size w w2) : w2.ownsRow base e size v n xs := by
  refine ⟨h.1, ?_⟩
  rcases h.2 with h1 | ⟨g, cap, cur, h1, h2, h3, h4⟩
  · exact .inl h1
  · refine .inr ⟨g, cap, cur, h1, h2, ?_, h4⟩
    have hlt : g < w.heap.size := by
      rcases Nat.lt_or_ge g w.heap.size with h | h
      · exact h
      · rw [Array.getElem?_eq_none h] at h3; cases h3
    rw [hb.block g hlt]; exact h3

theorem escAll_split (x : List UInt8) (c : UInt8) (y : List UInt8) : escAll (x ++ c :: y) = escAll x ++ (esc c ++ escAll y) := by simp [escAll]

set_option maxHeartbeats 1000000 in
theorem unescaped_any (l : List UInt8) (w : World) (hl : l.length ≤ 60) :
    Calls Tryz.prog 58 #[.string ⟨(escAll l).toArray⟩] w fun e w' => e = .returned (.string ⟨l.toArray⟩) ∧ Below w.heap.size w w' := by
  obtain ⟨i0, hi0, hz0, hz1, hz2⟩ := info_parts info5
  have hX := escAll_len l
  obtain ⟨s, hs⟩ : ∃ s : ByteArray, s = ⟨(escAll l).toArray⟩ := ⟨_, rfl⟩
  have HD : Hid (s.data.toList = escAll l) := by unfold Hid; rw [hs]
  have hsz : s.size ≤ 180 := by
    have h1 : s.data.toList.length = s.size := by simp
    rw [← h1, HD.out]
    omega
  rw [← hs]
  clear hs hX
  go_enter Tryz.func58, Tryz.ntmps58
  go_wp2
  go_loopw [3, 4] (fun v i w' => ∃ k : Nat, k ≤ l.length ∧ i = .int .i64 ((escAll (l.take k)).length : Int) ∧ w'.ownsRow w.heap.size 5 1 v k ((l.take k).map u8v) ∧ Below w.heap.size w w') (fun _ i _ => s.size - (intOf i).toNat)
  case atStart => exact ⟨0, Nat.zero_le _, rfl, World.ownsRow_nil _ _ _ _, Below.refl _ _⟩
  case round =>
    obtain ⟨k, hk, rfl, hown, hb⟩ := hrel
    have hbs := hb.size
    by_cases hlt : k < l.length
    · have hspl : l = l.take k ++ l[k] :: l.drop (k + 1) := by simp
      have HT : Hid (l.take (k + 1) = l.take k ++ [l[k]]) := by unfold Hid; rw [List.take_succ_eq_append_getElem hlt]
      have HE : Hid (s.data.toList = escAll (l.take k) ++ (esc l[k] ++ escAll (l.drop (k + 1)))) := by
        unfold Hid
        have h1 := congrArg escAll hspl
        rw [escAll_split] at h1
        rw [HD.out]
        exact h1
      have HL : Hid ((escAll (l.take (k + 1))).length = (escAll (l.take k)).length + (esc l[k]).length) := by unfold Hid; rw [HT.out, escAll_snoc]; simp
      generalize escAll (l.drop (k + 1)) = Y at *
      generalize hXX : escAll (l.take k) = X at *
      clear hspl hXX
      have t1 : (0 : Int) ≤ (l[k].toNat : Int) := by omega
      have t2 : (l[k].toNat : Int) ≤ 255 := by have := UInt8.toNat_lt l[k]; omega
      have hsl : s.size = X.length + ((esc l[k]).length + Y.length) := by
        have h1 : s.data.toList.length = s.size := by simp
        rw [← h1, HE.out]; simp
      have HO : Hid (wr.ownsRow w.heap.size 5 1 u3 k ((l.take k).map u8v)) := hown
      clear hown
      cases hbr : bareB l[k] with
      | true =>
        have he : esc l[k] = [l[k]] := by unfold esc; rw [if_pos hbr]
        rw [he] at HE HL hsl
        have hlen : X.length < s.size := by simp at hsl; omega
        have hg : s[X.length] = l[k] := getE hlen X Y l[k] (by rw [HE.out]; rfl) rfl
        have hn : ((l[k].toNat : Int) == 92) = false := by
          have := bare_ne _ hbr
          simp
          intro h
          exact this (UInt8.toNat_inj.1 (by have h' : l[k].toNat = 92 := by omega
                                            rw [h']; rfl))
        have HSL : Hid (s.size = X.length + ([l[k]].length + Y.length)) := hsl
        clear hsl he
        go_wp2_with (first
          | (at_builtin; refine wpList_append_own _ rfl _ _ 46 rfl w.heap.size 5 i0 (.int .u8 0) 1 1 Tryz.underlying46 hi0 hz0 hz1 hz2 rfl (by decide) _ _ _ rfl (HO.out.alloc _) ⟨wr.heap.size, 0, none⟩ 1 1 [u8v l[k]] rfl rfl ?c1 ?c2 ?c3 ?c4 ?c5 ?_))
        case c1 =>
          intro j u hj
          match j, hj with
          | 0, hj => simp at hj; subst hj; simp [Addr.add, u8v]
        case c2 => intro u hu; simp at hu; subst hu; rfl
        case c3 => unfold maxLen; omega
        case c4 => omega
        case c5 => simp; omega
        · intro v' w1 hown' hgrow _
          have hB : Below w.heap.size w w1 := (hb.alloc hbs _).grown hgrow (by simp; omega) (fun j hj => (HO.out.lt j hj).1)
          have HO' : Hid (w1.ownsRow w.heap.size 5 1 v' (k + 1) ((l.take (k + 1)).map u8v)) := by unfold Hid; rw [HT.out, List.map_append, List.map_take]; exact hown'
          clear hown' hgrow HO hb
          go_wp2
          go_roundw
          case rel => exact ⟨k + 1, by omega, by rw [HL.out]; go_num, HO'.out, hB⟩
          case measure => simp [intOf]; omega
      | false =>
        have he : esc l[k] = [92, hexd (l[k].toNat / 16), hexd (l[k].toNat % 16)] := by unfold esc; rw [if_neg (by simp [hbr])]
        rw [he] at HE HL hsl
        have hlen : X.length < s.size := by simp at hsl; omega
        have hlen2 : X.length + 2 < s.size := by simp at hsl; omega
        have hg : s[X.length] = 92 := getE hlen X _ 92 (by rw [HE.out]; rfl) rfl
        have hs2 := slice_two s X.length X Y (hexd (l[k].toNat / 16)) (hexd (l[k].toNat % 16)) 92 (by rw [HE.out]; rfl) rfl
        have HSL : Hid (s.size = X.length + (3 + Y.length)) := hsl
        have e16 : ((16 * (l[k].toNat / 16) + l[k].toNat % 16 : Nat) : Int) = (l[k].toNat : Int) := by omega
        clear hsl he
        go_wp2_with fail
        refine (parseUint16 (l[k].toNat / 16) (l[k].toNat % 16) (by have := UInt8.toNat_lt l[k]; omega) (by omega) wr).mono ?_
        rintro e w2 ⟨rfl, hb2⟩
        have HO2 : Hid (w2.ownsRow w.heap.size 5 1 u3 k ((l.take k).map u8v)) := owns_later HO.out hb2
        have hB2 : Below w.heap.size w w2 := hb.trans (hb2.mono hbs)
        have hbs2 := hB2.size
        rw [e16]
        clear hb2 hb HO hbs e16
        go_wp2_with (first
          | (at_builtin; refine wpList_append_own _ rfl _ _ 46 rfl w.heap.size 5 i0 (.int .u8 0) 1 1 Tryz.underlying46 hi0 hz0 hz1 hz2 rfl (by decide) _ _ _ rfl (HO2.out.alloc _) ⟨w2.heap.size, 0, none⟩ 1 1 [u8v l[k]] rfl rfl ?c1 ?c2 ?c3 ?c4 ?c5 ?_))
        case c1 =>
          intro j u hj
          match j, hj with
          | 0, hj => simp at hj; subst hj; simp [Addr.add, u8v]
        case c2 => intro u hu; simp at hu; subst hu; rfl
        case c3 => unfold maxLen; omega
        case c4 => omega
        case c5 => simp; omega
        · intro v' w1 hown' hgrow _
          have hB : Below w.heap.size w w1 := (hB2.alloc hbs2 _).grown hgrow (by simp; omega) (fun j hj => (HO2.out.lt j hj).1)
          have HO' : Hid (w1.ownsRow w.heap.size 5 1 v' (k + 1) ((l.take (k + 1)).map u8v)) := by unfold Hid; rw [HT.out, List.map_append, List.map_take]; exact hown'
          clear hown' hgrow HO2 hB2
          go_wp2
          go_roundw
          case rel => exact ⟨k + 1, by omega, by rw [HL.out]; go_num, HO'.out, hB⟩
          case measure => simp [intOf]; omega
    · have hkl : k = l.length := by omega
      have HT : Hid (l.take k = l) := by unfold Hid; rw [List.take_of_length_le (by omega)]
      have hlen : (escAll (l.take k)).length = s.size := by
        have h1 : s.data.toList.length = s.size := by simp
        rw [HT.out, ← h1, HD.out]
      have hc1 : ¬ (((escAll (l.take k)).length : Int) < (s.size : Int)) := by omega
      have hcv : ∀ W, W = wr → (convert 46 9 u3).run Tryz.prog W = .ok (.string ⟨l.toArray⟩) W := by
        rintro W rfl
        rw [HT.out] at hown
        rcases hown.2 with ⟨rfl, h0⟩ | ⟨g, cap, cur, rfl, _⟩
        · have : l = [] := List.length_eq_zero_iff.1 (by omega)
          subst this
          show Sem.run Tryz.prog _ _ = _
          kernel_rfl
        · exact conv_own l hown
      have hcv' := hcv wr rfl
      clear hcv hown
      generalize (escAll (l.take k)).length = p at *
      go_wp2
      go_ret
      exact ⟨rfl, hb⟩
end Go.Proofs.YtodkekmfadfjkaaGreatDoor.Vl
