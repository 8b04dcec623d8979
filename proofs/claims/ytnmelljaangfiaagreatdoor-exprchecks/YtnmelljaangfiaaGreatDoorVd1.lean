import Derived.Test.YtnmelljaangfiaaGreatDoorVBkA
import Derived.Test.YtnmelljaangfiaaGreatDoorVc1
import Derived.Test.YtnmelljaangfiaaGreatDoorShelfV
namespace Go.Proofs.YtnmelljaangfiaaGreatDoor.Vl
open Go.RowKit
set_option linter.unusedVariables false
set_option maxRecDepth 100000

theorem getE {s : ByteArray} {p : Nat} (h : p < s.size) (X Y : List UInt8) (c : UInt8) (hs : s.data.toList = X ++ c :: Y) (hp : p = X.length) : s[p] = c := by
  subst hp
  have h1 : s.data.toList[X.length]? = some c := by rw [hs]; simp
  have h2 : s.data[X.length]? = some c := by simpa using h1
  have h3 : s.data[X.length]'(by simpa using h) = c := by
    have := Array.getElem?_eq_getElem (xs := s.data) (i := X.length) (by simpa using h)
    rw [this] at h2
    exact Option.some.inj h2
  exact h3

theorem slice_two (s : ByteArray) (p : Nat) (X Y : List UInt8) (a b c : UInt8) (hs : s.data.toList = X ++ c :: a :: b :: Y) (hp : p = X.length) (w : World) :
    (Instr.slice 9 (.string s) (some (.int .i64 ((p : Int) + 1))) (some (.int .i64 ((p : Int) + 3))) none).run Tryz.prog w = .ok (.string ⟨#[a, b]⟩) w := by
  have hsz : s.size = X.length + (Y.length + 3) := by
    have : s.data.toList.length = s.size := by simp
    rw [← this, hs]; simp
  rw [run_slice_string w 9 s .i64 .i64 ((p : Int) + 1) ((p : Int) + 3) Tryz.underlying9 (by omega) (by omega) (by omega)]
  rw [show ((p : Int) + 1).toNat = p + 1 by omega, show ((p : Int) + 3).toNat = p + 3 by omega]
  congr 2
  apply ByteArray.ext
  apply Array.toList_inj.1
  rw [ByteArray.data_extract, Array.toList_extract, hs, hp]
  simp [List.extract]

theorem owns_later {w w2 : World} {base : Nat} {e : TypeId} {size : Nat} {v : Value} {n : Nat} {xs : List Value} (h : w.ownsRow base e size v n xs) (hb : Below w.heap.size w w2) : w2.ownsRow base e size v n xs := by
  refine ⟨h.1, ?_⟩
  rcases h.2 with h1 | ⟨g, cap, cur, h1, h2, h3, h4⟩
  · exact .inl h1
  · refine .inr ⟨g, cap, cur, h1, h2, ?_, h4⟩
    have hlt : g < w.heap.size := by
      rcases Nat.lt_or_ge g w.heap.size with h | h
      · exact h
      · rw [Array.getElem?_eq_none h] at h3; cases h3
    rw [hb.block g hlt]; exact h3

theorem escAll_split (x : List UInt8) (c : UInt8) (y : List UInt8) : escAll (x ++ c :: y) = escAll x ++ (esc c ++ escAll y) := by simp [escAll]

set_option maxHeartbeats 1000000 in
theorem unescaped_any (l : List UInt8) (w : World) (hl : l.length ≤ 60) :
    Calls Tryz.prog 168 #[.string ⟨(escAll l).toArray⟩] w fun e w' => e = .returned (.string ⟨l.toArray⟩) ∧ Below w.heap.size w w' := by
  obtain ⟨i0, hi0, hz0, hz1, hz2⟩ := info_parts info5
  have hX := escAll_len l
  obtain ⟨s, hs⟩ : ∃ s : ByteArray, s = ⟨(escAll l).toArray⟩ := ⟨_, rfl⟩
  have HD : Hid (s.data.toList = escAll l) := by unfold Hid; rw [hs]
  have hsz : s.size ≤ 180 := by
    have h1 : s.data.toList.length = s.size := by simp
    rw [← h1, HD.out]
    omega
  rw [← hs]
  clear hs hX
  go_enter Tryz.func168, Tryz.ntmps168
  go_wp2
  go_loopw [3, 4] (fun v i w' => ∃ k : Nat, k ≤ l.length ∧ i = .int .i64 ((escAll (l.take k)).length : Int) ∧ w'.ownsRow w.heap.size 5 1 v k ((l.take k).map u8v) ∧ Below w.heap.size w w') (fun _ i _ => s.size - (intOf i).toNat)
  case atStart => exact ⟨0, Nat.zero_le _, rfl, World.ownsRow_nil _ _ _ _, Below.refl _ _⟩
  case round =>
    obtain ⟨k, hk, rfl, hown, hb⟩ := hrel
    have hbs := hb.size
    by_cases hlt : k < l.length
    · have hspl : l = l.take k ++ l[k] :: l.drop (k + 1) := by simp
      have HT : Hid (l.take (k + 1) = l.take k ++ [l[k]]) := by unfold Hid; rw [List.take_succ_eq_append_getElem hlt]
      have HE : Hid (s.data.toList = escAll (l.take k) ++ (esc l[k] ++ escAll (l.drop (k + 1)))) := by
        unfold Hid
        have h1 := congrArg escAll hspl
        rw [escAll_split] at h1
        rw [HD.out]
        exact h1
      have HL : Hid ((escAll (l.take (k + 1))).length = (escAll (l.take k)).length + (esc l[k]).length) := by unfold Hid; rw [HT.out, escAll_snoc]; simp
      generalize escAll (l.drop (k + 1)) = Y at *
      generalize hXX : escAll (l.take k) = X at *
      clear hspl hXX
      have t1 : (0 : Int) ≤ (l[k].toNat : Int) := by omega
      have t2 : (l[k].toNat : Int) ≤ 255 := by have := UInt8.toNat_lt l[k]; omega
      have hsl : s.size = X.length + ((esc l[k]).length + Y.length) := by
        have h1 : s.data.toList.length = s.size := by simp
        rw [← h1, HE.out]; simp
      have HO : Hid (wr.ownsRow w.heap.size 5 1 u3 k ((l.take k).map u8v)) := hown
      clear hown
      cases hbr : bareB l[k] with
      | true =>
        have he : esc l[k] = [l[k]] := by unfold esc; rw [if_pos hbr]
        rw [he] at HE HL hsl
        have hlen : X.length < s.size := by simp at hsl; omega
        have hg : s[X.length] = l[k] := getE hlen X Y l[k] (by rw [HE.out]; rfl) rfl
        have hn : ((l[k].toNat : Int) == 92) = false := by
          have := bare_ne _ hbr
          simp
          intro h
          exact this (UInt8.toNat_inj.1 (by have h' : l[k].toNat = 92 := by omega
                                            rw [h']; rfl))
        have HSL : Hid (s.size = X.length + ([l[k]].length + Y.length)) := hsl
        clear hsl he
        go_wp2_with (first
          | (at_builtin; refine wpList_append_own _ rfl _ _ 143 rfl w.heap.size 5 i0 (.int .u8 0) 1 1 Tryz.underlying143 hi0 hz0 hz1 hz2 rfl (by decide) _ _ _ rfl (HO.out.alloc _) ⟨wr.heap.size, 0, none⟩ 1 1 [u8v l[k]] rfl rfl ?c1 ?c2 ?c3 ?c4 ?c5 ?_))
        case c1 =>
          intro j u hj
          match j, hj with
          | 0, hj => simp at hj; subst hj; simp [Addr.add, u8v]
        case c2 => intro u hu; simp at hu; subst hu; rfl
        case c3 => unfold maxLen; omega
        case c4 => omega
        case c5 => simp; omega
        · intro v' w1 hown' hgrow _
          have hB : Below w.heap.size w w1 := (hb.alloc hbs _).grown hgrow (by simp; omega) (fun j hj => (HO.out.lt j hj).1)
          have HO' : Hid (w1.ownsRow w.heap.size 5 1 v' (k + 1) ((l.take (k + 1)).map u8v)) := by unfold Hid; rw [HT.out, List.map_append, List.map_take]; exact hown'
          clear hown' hgrow HO hb
          go_wp2
          go_roundw
          case rel => exact ⟨k + 1, by omega, by rw [HL.out]; go_num, HO'.out, hB⟩
          case measure => simp [intOf]; omega
      | false =>
        have he : esc l[k] = [92, hexd (l[k].toNat / 16), hexd (l[k].toNat % 16)] := by unfold esc; rw [if_neg (by simp [hbr])]
        rw [he] at HE HL hsl
        have hlen : X.length < s.size := by simp at hsl; omega
        have hlen2 : X.length + 2 < s.size := by simp at hsl; omega
        have hg : s[X.length] = 92 := getE hlen X _ 92 (by rw [HE.out]; rfl) rfl
        have hs2 := slice_two s X.length X Y (hexd (l[k].toNat / 16)) (hexd (l[k].toNat % 16)) 92 (by rw [HE.out]; rfl) rfl
        have HSL : Hid (s.size = X.length + (3 + Y.length)) := hsl
        have e16 : ((16 * (l[k].toNat / 16) + l[k].toNat % 16 : Nat) : Int) = (l[k].toNat : Int) := by omega
        clear hsl he
        go_wp2_with fail
        refine (parseUint16 (l[k].toNat / 16) (l[k].toNat % 16) (by have := UInt8.toNat_lt l[k]; omega) (by omega) wr).mono ?_
        rintro e w2 ⟨rfl, hb2⟩
        have HO2 : Hid (w2.ownsRow w.heap.size 5 1 u3 k ((l.take k).map u8v)) := owns_later HO.out hb2
        have hB2 : Below w.heap.size w w2 := hb.trans (hb2.mono hbs)
        have hbs2 := hB2.size
        rw [e16]
        clear hb2 hb HO hbs e16
        go_wp2_with (first
          | (at_builtin; refine wpList_append_own _ rfl _ _ 143 rfl w.heap.size 5 i0 (.int .u8 0) 1 1 Tryz.underlying143 hi0 hz0 hz1 hz2 rfl (by decide) _ _ _ rfl (HO2.out.alloc _) ⟨w2.heap.size, 0, none⟩ 1 1 [u8v l[k]] rfl rfl ?c1 ?c2 ?c3 ?c4 ?c5 ?_))
        case c1 =>
          intro j u hj
          match j, hj with
          | 0, hj => simp at hj; subst hj; simp [Addr.add, u8v]
        case c2 => intro u hu; simp at hu; subst hu; rfl
        case c3 => unfold maxLen; omega
        case c4 => omega
        case c5 => simp; omega
        · intro v' w1 hown' hgrow _
          have hB : Below w.heap.size w w1 := (hB2.alloc hbs2 _).grown hgrow (by simp; omega) (fun j hj => (HO2.out.lt j hj).1)
          have HO' : Hid (w1.ownsRow w.heap.size 5 1 v' (k + 1) ((l.take (k + 1)).map u8v)) := by unfold Hid; rw [HT.out, List.map_append, List.map_take]; exact hown'
          clear hown' hgrow HO2 hB2
          go_wp2
          go_roundw
          case rel => exact ⟨k + 1, by omega, by rw [HL.out]; go_num, HO'.out, hB⟩
          case measure => simp [intOf]; omega
    · have hkl : k = l.length := by omega
      have HT : Hid (l.take k = l) := by unfold Hid; rw [List.take_of_length_le (by omega)]
      have hlen : (escAll (l.take k)).length = s.size := by
        have h1 : s.data.toList.length = s.size := by simp
        rw [HT.out, ← h1, HD.out]
      have hc1 : ¬ (((escAll (l.take k)).length : Int) < (s.size : Int)) := by omega
      have hcv : ∀ W, W = wr → (convert 143 9 u3).run Tryz.prog W = .ok (.string ⟨l.toArray⟩) W := by
        rintro W rfl
        rw [HT.out] at hown
        rcases hown.2 with ⟨rfl, h0⟩ | ⟨g, cap, cur, rfl, _⟩
        · have : l = [] := List.length_eq_zero_iff.1 (by omega)
          subst this
          show Sem.run Tryz.prog _ _ = _
          kernel_rfl
        · exact conv_own l hown
      have hcv' := hcv wr rfl
      clear hcv hown
      generalize (escAll (l.take k)).length = p at *
      go_wp2
      go_ret
      exact ⟨rfl, hb⟩
end Go.Proofs.YtnmelljaangfiaaGreatDoor.Vl
namespace Go.Proofs.YtnmelljaangfiaaGreatDoor.Vl
open Go.RowKit
set_option linter.unusedVariables false
set_option maxRecDepth 100000

theorem frozen_later {w wx : World} {a : Addr} (hb : Below w.heap.size w wx) (ha : a.block < w.heap.size) (h : w.frozen? a = false) : wx.frozen? a = false := (hb.frozen ha).trans h

theorem cut_text (X : List UInt8) : Lib.trimPrefix (39 :: X) [39] = X ∧ Lib.hasPrefix (39 :: X) [39] = true := by
  unfold Lib.trimPrefix Lib.hasPrefix
  simp [List.isPrefixOf]
theorem trim_text (X : List UInt8) : Lib.trimSuffix (X ++ [39]) [39] = X := by
  unfold Lib.trimSuffix Lib.hasSuffix
  have : List.isSuffixOf [39] (X ++ [39]) = true := by
    rw [List.isSuffixOf_iff_suffix]; exact List.suffix_append X [39]
  simp [this]

set_option maxHeartbeats 1000000 in
theorem guess_text (l : List UInt8) (w : World) (hl : l.length ≤ 60) :
    Calls Tryz.prog 164 #[.string ⟨(39 :: escAll l ++ [39]).toArray⟩] w fun e w' => e = .returned (.agg #[.int .i64 3, .int .i64 0, .string ⟨l.toArray⟩]) ∧ Below w.heap.size w w' := by
  have hX := escAll_len l
  have h1 := cut_text (escAll l ++ [39])
  have h2 := trim_text (escAll l)
  have h3 : (⟨(39 :: escAll l ++ [39]).toArray⟩ : ByteArray).data.toList = 39 :: (escAll l ++ [39]) := by simp
  have h4 : (⟨(escAll l ++ [39]).toArray⟩ : ByteArray).data.toList = escAll l ++ [39] := by simp
  have HC : ∀ W, Calls Tryz.prog 167 #[.string ⟨(39 :: escAll l ++ [39]).toArray⟩, .string ⟨#[39]⟩] W fun e w' => e = .returned (.tuple #[.string ⟨(escAll l ++ [39]).toArray⟩, .bool true]) ∧ w' = W := by
    intro W
    have := Tryz.strings_CutPrefix ⟨(39 :: escAll l ++ [39]).toArray⟩ ⟨#[39]⟩ W
    rw [h3, show (⟨#[39]⟩ : ByteArray).data.toList = [39] from rfl, h1.1, h1.2] at this
    exact this
  have HT : ∀ W, Calls Tryz.prog 169 #[.string ⟨(escAll l ++ [39]).toArray⟩, .string ⟨#[39]⟩] W fun e w' => e = .returned (.string ⟨(escAll l).toArray⟩) ∧ w' = W := by
    intro W
    have := Tryz.strings_TrimSuffix ⟨(escAll l ++ [39]).toArray⟩ ⟨#[39]⟩ W (by show (escAll l ++ [39]).toArray.size ≤ _; simp; omega)
    rw [h4, show (⟨#[39]⟩ : ByteArray).data.toList = [39] from rfl, h2] at this
    exact this
  have HC' : Hid _ := HC
  have HT' : Hid _ := HT
  clear HC HT h1 h2 h3 h4 hX
  generalize (⟨(39 :: escAll l ++ [39]).toArray⟩ : ByteArray) = s at *
  generalize (⟨(escAll l ++ [39]).toArray⟩ : ByteArray) = s2 at *
  go_enter Tryz.func164, Tryz.ntmps164
  go_wp2_with fail
  refine (HC'.out _).mono ?_
  rintro e w1 ⟨rfl, rfl⟩
  go_wp2_with fail
  refine (HT'.out _).mono ?_
  rintro e w1 ⟨rfl, rfl⟩
  go_wp2_with fail
  refine (unescaped_any l _ hl).mono ?_
  rintro e w1 ⟨rfl, hb1⟩
  have hf0 := frozen_later (a := ⟨w.heap.size, 0, none⟩) hb1 (by simp) (by simp)
  have hf1 := frozen_later (a := ⟨w.heap.size, 1, none⟩) hb1 (by simp) (by simp)
  have hf2 := frozen_later (a := ⟨w.heap.size, 2, none⟩) hb1 (by simp) (by simp)
  have hc0 := cell_later (a := ⟨w.heap.size, 0, none⟩) (v := .int .i64 0) hb1 (by go_simp)
  have hc1 := cell_later (a := ⟨w.heap.size, 1, none⟩) (v := .int .i64 0) hb1 (by go_simp)
  have hc2 := cell_later (a := ⟨w.heap.size, 2, none⟩) (v := .string ⟨#[]⟩) hb1 (by go_simp)
  have hB1 := (bel1 w _).trans (hb1.mono (by simp))
  clear hb1
  go_wp2_with fail
  refine (words_any _ _).mono ?_
  rintro e w2 ⟨rfl, hb2⟩
  have hlt : w.heap.size < w1.heap.size := World.block_lt_of_cell? _ _ hc0
  replace hf0 := frozen_later hb2 hlt hf0
  replace hf1 := frozen_later hb2 hlt hf1
  replace hf2 := frozen_later hb2 hlt hf2
  replace hc0 := cell_later hb2 hc0
  replace hc1 := cell_later hb2 hc1
  replace hc2 := cell_later hb2 hc2
  have hB2 := hB1.trans (hb2.mono hB1.size)
  clear hb2 hB1 hlt HC' HT'
  go_wp2
  exact bodyPost_ret (v := .agg #[.int .i64 3, .int .i64 0, .string ⟨l.toArray⟩]) (by simp [results, Tryz.results164, go_sem, hc0, hc1, hc2]) rfl ⟨rfl, ((hB2.setCell (Nat.le_refl _) _).setCell (Nat.le_refl _) _).setCell (Nat.le_refl _) _⟩

theorem cut_other (c : UInt8) (X : List UInt8) (h : c ≠ 39) : Lib.trimPrefix (c :: X) [39] = c :: X ∧ Lib.hasPrefix (c :: X) [39] = false := by
  have : Lib.hasPrefix (c :: X) [39] = false := by
    unfold Lib.hasPrefix
    simp [List.isPrefixOf]
    exact fun e => h e.symm
  unfold Lib.trimPrefix
  rw [this]
  exact ⟨rfl, rfl⟩
theorem cutPrefix_other (s : ByteArray) (c : UInt8) (X : List UInt8) (hs : s.data.toList = c :: X) (h : c ≠ 39) (W : World) :
    Calls Tryz.prog 167 #[.string s, .string ⟨#[39]⟩] W fun e w' => e = .returned (.tuple #[.string s, .bool false]) ∧ w' = W := by
  have h1 := cut_other c X h
  have := Tryz.strings_CutPrefix s ⟨#[39]⟩ W
  rw [hs, show (⟨#[39]⟩ : ByteArray).data.toList = [39] from rfl, h1.1, h1.2, ← hs] at this
  exact this

set_option maxHeartbeats 1000000 in
theorem guess_true (w : World) :
    Calls Tryz.prog 164 #[.string ⟨#[116, 114, 117, 101]⟩] w fun e w' => e = .returned (.agg #[.int .i64 2, .int .i64 1, .string ⟨#[]⟩]) ∧ Below w.heap.size w w' := by
  go_enter Tryz.func164, Tryz.ntmps164
  go_wp2_with fail
  refine (cutPrefix_other _ 116 [114, 117, 101] rfl (by decide) _).mono ?_
  rintro e w1 ⟨rfl, rfl⟩
  go_wp2_with fail
  refine (truth_true _).mono ?_
  rintro e w1 ⟨rfl, hb1⟩
  have hf0 := frozen_later (a := ⟨w.heap.size, 0, none⟩) hb1 (by simp) (by simp)
  have hf1 := frozen_later (a := ⟨w.heap.size, 1, none⟩) hb1 (by simp) (by simp)
  have hf2 := frozen_later (a := ⟨w.heap.size, 2, none⟩) hb1 (by simp) (by simp)
  have hc0 := cell_later (a := ⟨w.heap.size, 0, none⟩) (v := .int .i64 0) hb1 (by go_simp)
  have hc1 := cell_later (a := ⟨w.heap.size, 1, none⟩) (v := .int .i64 0) hb1 (by go_simp)
  have hc2 := cell_later (a := ⟨w.heap.size, 2, none⟩) (v := .string ⟨#[]⟩) hb1 (by go_simp)
  have hB1 := (bel1 w _).trans (hb1.mono (by simp))
  clear hb1
  go_wp2
  exact bodyPost_ret (v := .agg #[.int .i64 2, .int .i64 1, .string ⟨#[]⟩]) (by simp [results, Tryz.results164, go_sem, hc0, hc1, hc2]) rfl ⟨rfl, ((hB1.setCell (Nat.le_refl _) _).setCell (Nat.le_refl _) _).setCell (Nat.le_refl _) _⟩

set_option maxHeartbeats 1000000 in
theorem guess_false (w : World) :
    Calls Tryz.prog 164 #[.string ⟨#[102, 97, 108, 115, 101]⟩] w fun e w' => e = .returned (.agg #[.int .i64 2, .int .i64 0, .string ⟨#[]⟩]) ∧ Below w.heap.size w w' := by
  go_enter Tryz.func164, Tryz.ntmps164
  go_wp2_with fail
  refine (cutPrefix_other _ 102 [97, 108, 115, 101] rfl (by decide) _).mono ?_
  rintro e w1 ⟨rfl, rfl⟩
  go_wp2_with fail
  refine (truth_false _).mono ?_
  rintro e w1 ⟨rfl, hb1⟩
  have hf0 := frozen_later (a := ⟨w.heap.size, 0, none⟩) hb1 (by simp) (by simp)
  have hf1 := frozen_later (a := ⟨w.heap.size, 1, none⟩) hb1 (by simp) (by simp)
  have hf2 := frozen_later (a := ⟨w.heap.size, 2, none⟩) hb1 (by simp) (by simp)
  have hc0 := cell_later (a := ⟨w.heap.size, 0, none⟩) (v := .int .i64 0) hb1 (by go_simp)
  have hc1 := cell_later (a := ⟨w.heap.size, 1, none⟩) (v := .int .i64 0) hb1 (by go_simp)
  have hc2 := cell_later (a := ⟨w.heap.size, 2, none⟩) (v := .string ⟨#[]⟩) hb1 (by go_simp)
  have hB1 := (bel1 w _).trans (hb1.mono (by simp))
  clear hb1
  go_wp2
  exact bodyPost_ret (v := .agg #[.int .i64 2, .int .i64 0, .string ⟨#[]⟩]) (by simp [results, Tryz.results164, go_sem, hc0, hc1, hc2]) rfl ⟨rfl, ((hB1.setCell (Nat.le_refl _) _).setCell (Nat.le_refl _) _).setCell (Nat.le_refl _) _⟩

theorem itoa_head (n : Int) : ∃ c X, Lib.itoa n = c :: X ∧ (c.toNat = 45 ∨ (48 ≤ c.toNat ∧ c.toNat ≤ 57)) := by
  by_cases hn : n < 0
  · exact ⟨45, Lib.decDigits n.natAbs, by unfold Lib.itoa; rw [if_pos hn], .inl rfl⟩
  · obtain ⟨c, r, e, h1, h2⟩ := dec_head n.toNat
    exact ⟨c, r, by unfold Lib.itoa; rw [if_neg hn, e], .inr ⟨h1, h2⟩⟩

set_option maxHeartbeats 1000000 in
theorem guess_num (n : Int) (w : World) (h0 : -9223372036854775808 ≤ n) (h1 : n ≤ 9223372036854775807) :
    Calls Tryz.prog 164 #[.string ⟨(Lib.itoa n).toArray⟩] w fun e w' => e = .returned (.agg #[.int .i64 1, .int .i64 n, .string ⟨#[]⟩]) ∧ Below w.heap.size w w' := by
  have hp := parse_itoa n h0 h1
  have hlen := Lib.itoa_length_le n h0 h1
  obtain ⟨c, X, e, hc⟩ := itoa_head n
  obtain ⟨s, hs⟩ : ∃ s : ByteArray, s = ⟨(Lib.itoa n).toArray⟩ := ⟨_, rfl⟩
  have hd : s.data.toList = Lib.itoa n := by rw [hs]
  rw [← hs]
  have hl : s.toList = c :: X := by rw [ByteArray.toList_eq]; rw [hd, e]
  have HC : Hid (∀ W, Calls Tryz.prog 167 #[.string s, .string ⟨#[39]⟩] W fun e w' => e = .returned (.tuple #[.string s, .bool false]) ∧ w' = W) :=
    cutPrefix_other s c X (by rw [hd, e]) (by rintro rfl; simp at hc)
  have q1 : (s.toList == [116, 114, 117, 101]) = false := by rw [hl]; simp; rintro rfl; simp at hc
  have q2 : (s.toList == [102, 97, 108, 115, 101]) = false := by rw [hl]; simp; rintro rfl; simp at hc
  have hsz : s.size ≤ 9223372036854775806 := by
    have h3 : s.data.toList.length = s.size := by simp
    rw [← h3, hd]; omega
  have HP : Hid (∀ W, Calls Tryz.prog 170 #[.string s, .int .i64 10, .int .i64 64] W fun e w' => e = .returned (.tuple #[.int .i64 n, .nilIface]) ∧ Below W.heap.size W w') := by
    intro W
    refine (Tryz.strconv_ParseInt_10_at64_ok s hsz n (by rw [hd]; exact hp) W).mono ?_
    rintro e w' ⟨rfl, hw⟩
    refine ⟨rfl, ?_⟩
    rcases hw with rfl | ⟨t, rfl⟩
    · exact Below.refl _ _
    · exact below_bytes _ _ _
  clear hp hlen e hc hs hd hl hsz h0 h1
  go_enter Tryz.func164, Tryz.ntmps164
  go_wp2_with fail
  refine (HC.out _).mono ?_
  rintro e w1 ⟨rfl, rfl⟩
  go_wp2_with fail
  refine (HP.out _).mono ?_
  rintro e w1 ⟨rfl, hb1⟩
  have hf0 := frozen_later (a := ⟨w.heap.size, 0, none⟩) hb1 (by simp) (by simp)
  have hf1 := frozen_later (a := ⟨w.heap.size, 1, none⟩) hb1 (by simp) (by simp)
  have hf2 := frozen_later (a := ⟨w.heap.size, 2, none⟩) hb1 (by simp) (by simp)
  have hc0 := cell_later (a := ⟨w.heap.size, 0, none⟩) (v := .int .i64 0) hb1 (by go_simp)
  have hc1 := cell_later (a := ⟨w.heap.size, 1, none⟩) (v := .int .i64 0) hb1 (by go_simp)
  have hc2 := cell_later (a := ⟨w.heap.size, 2, none⟩) (v := .string ⟨#[]⟩) hb1 (by go_simp)
  have hB1 := (bel1 w _).trans (hb1.mono (by simp))
  clear hb1
  go_wp2_with fail
  refine (of_any _ _).mono ?_
  rintro e w2 ⟨rfl, hb2⟩
  have hlt : w.heap.size < w1.heap.size := World.block_lt_of_cell? _ _ hc0
  replace hf0 := frozen_later hb2 hlt hf0
  replace hf1 := frozen_later hb2 hlt hf1
  replace hf2 := frozen_later hb2 hlt hf2
  replace hc0 := cell_later hb2 hc0
  replace hc1 := cell_later hb2 hc1
  replace hc2 := cell_later hb2 hc2
  have hB2 := hB1.trans (hb2.mono hB1.size)
  clear hb2 hB1 hlt HC HP
  go_wp2
  exact bodyPost_ret (v := .agg #[.int .i64 1, .int .i64 n, .string ⟨#[]⟩]) (by simp [results, Tryz.results164, go_sem, hc0, hc1, hc2]) rfl ⟨rfl, ((hB2.setCell (Nat.le_refl _) _).setCell (Nat.le_refl _) _).setCell (Nat.le_refl _) _⟩

set_option maxHeartbeats 1000000 in
theorem guess_null (w : World) (ev : Value) (hv : w.cell? ⟨5, 0, none⟩ = some ev) (hev : ev = .nilIface ∨ ∃ te pe, ev = .iface te pe) :
    Calls Tryz.prog 164 #[.string ⟨#[110, 117, 108, 108]⟩] w fun e w' => e = .returned (.agg #[.int .i64 0, .int .i64 0, .string ⟨#[]⟩]) ∧ Below w.heap.size w w' := by
  have HV : Hid (w.cell? ⟨5, 0, none⟩ = some ev) := hv
  have HP : Hid (∀ W, W.cell? ⟨5, 0, none⟩ = some ev → Calls Tryz.prog 170 #[.string ⟨#[110, 117, 108, 108]⟩, .int .i64 10, .int .i64 64] W fun e w' => ∃ N, e = .returned (.tuple #[.int .i64 0, .iface 229 (.pointer (some ⟨N, 0, none⟩))]) ∧ Below W.heap.size W w') := by
    intro W hW
    refine (Any.strconv_ParseInt_10_at64_syntax Tryz.laysC174 ⟨#[110, 117, 108, 108]⟩ (by decide) (by decide) ev W hW hev).mono ?_
    rintro e w' ⟨N, rfl, _, _, hb⟩
    exact ⟨N, rfl, hb⟩
  clear hv hev
  go_enter Tryz.func164, Tryz.ntmps164
  go_wp2_with fail
  refine (cutPrefix_other _ 110 [117, 108, 108] rfl (by decide) _).mono ?_
  rintro e w1 ⟨rfl, rfl⟩
  go_wp2_with fail
  refine (HP.out _ (cell_later (bel1 w _) HV.out)).mono ?_
  rintro e w1 ⟨N, rfl, hb1⟩
  have hf0 := frozen_later (a := ⟨w.heap.size, 0, none⟩) hb1 (by simp) (by simp)
  have hf1 := frozen_later (a := ⟨w.heap.size, 1, none⟩) hb1 (by simp) (by simp)
  have hf2 := frozen_later (a := ⟨w.heap.size, 2, none⟩) hb1 (by simp) (by simp)
  have hc0 := cell_later (a := ⟨w.heap.size, 0, none⟩) (v := .int .i64 0) hb1 (by go_simp)
  have hc1 := cell_later (a := ⟨w.heap.size, 1, none⟩) (v := .int .i64 0) hb1 (by go_simp)
  have hc2 := cell_later (a := ⟨w.heap.size, 2, none⟩) (v := .string ⟨#[]⟩) hb1 (by go_simp)
  have hB1 := (bel1 w _).trans (hb1.mono (by simp))
  clear hb1 HP HV
  go_wp2
  exact bodyPost_ret (v := .agg #[.int .i64 0, .int .i64 0, .string ⟨#[]⟩]) (by simp [results, Tryz.results164, go_sem, hc0, hc1, hc2]) rfl ⟨rfl, ((hB1.setCell (Nat.le_refl _) _).setCell (Nat.le_refl _) _).setCell (Nat.le_refl _) _⟩
end Go.Proofs.YtnmelljaangfiaaGreatDoor.Vl
namespace Go.Proofs.YtnmelljaangfiaaGreatDoor.Vl
open Go.RowKit
set_option linter.unusedVariables false
set_option maxRecDepth 100000
attribute [local go_sem ↓] neq24 eql24
attribute [local go_sem] guard24

/-- The library's sentinel lies in its variable: whatever it is, it is an interface value. -/
def Sen (w : World) : Prop := ∃ ev, w.cell? ⟨5, 0, none⟩ = some ev ∧ (ev = .nilIface ∨ ∃ te pe, ev = .iface te pe)
theorem Sen.later {w w' : World} (h : Sen w) (hb : Below w.heap.size w w') : Sen w' := by
  obtain ⟨ev, h1, h2⟩ := h
  exact ⟨ev, cell_later hb h1, h2⟩

theorem guess_show (k n : Int) (s : ByteArray) (w : World) (hv : validB k n s = true) (h0 : -9223372036854775808 ≤ n) (h1 : n ≤ 9223372036854775807) (hs : Sen w) :
    Calls Tryz.prog 164 #[.string (showB k n s)] w fun e w' => e = .returned (.agg #[.int .i64 k, .int .i64 n, .string s]) ∧ Below w.heap.size w w' := by
  rw [show_valid hv]
  rcases valid_form hv with ⟨rfl, rfl, rfl⟩ | ⟨rfl, rfl⟩ | ⟨rfl, rfl, rfl⟩ | ⟨rfl, rfl, rfl⟩ | ⟨rfl, rfl, hs1⟩
  · obtain ⟨ev, e1, e2⟩ := hs
    exact guess_null w ev e1 e2
  · exact guess_num n w h0 h1
  · exact guess_true w
  · exact guess_false w
  · have := guess_text s.data.toList w (by simpa using hs1)
    rw [show (⟨s.data.toList.toArray⟩ : ByteArray) = s by apply ByteArray.ext; simp] at this
    exact this

set_option maxHeartbeats 1000000 in
theorem read_show (k n : Int) (s : ByteArray) (w : World) (hv : validB k n s = true) (hsz : s.size ≤ maxLen) (h0 : -9223372036854775808 ≤ n) (h1 : n ≤ 9223372036854775807) (hs : Sen w) (ht : Tab w) :
    Calls Tryz.prog 162 #[.string (showB k n s)] w fun e w' => e = .returned (.tuple #[.agg #[.int .i64 k, .int .i64 n, .string s], .nilIface]) ∧ Below w.heap.size w w' := by
  have HG : Hid (∀ W, Below w.heap.size w W → Calls Tryz.prog 164 #[.string (showB k n s)] W fun e w' => e = .returned (.agg #[.int .i64 k, .int .i64 n, .string s]) ∧ Below W.heap.size W w') :=
    fun W hW => guess_show k n s W hv h0 h1 (hs.later hW)
  have HS : Hid (∀ W, Below w.heap.size w W → Calls Tryz.prog 35 #[.agg #[.int .i64 k, .int .i64 n, .string s]] W fun e w' => e = .returned (.string (showB k n s)) ∧ Below W.heap.size W w') :=
    fun W hW => show_any k n s W hsz h0 h1 (ht.later hW)
  clear hv hsz h0 h1 hs ht
  generalize showB k n s = S at *
  go_enter Tryz.func162, Tryz.ntmps162
  go_wp2_with fail
  refine (HG.out _ (bel1 w _)).mono ?_
  rintro e w1 ⟨rfl, hb1⟩
  have hf0 := frozen_later (a := ⟨w.heap.size, 0, none⟩) hb1 (by simp) (by simp)
  have hf1 := frozen_later (a := ⟨w.heap.size, 1, none⟩) hb1 (by simp) (by simp)
  have hf2 := frozen_later (a := ⟨w.heap.size, 2, none⟩) hb1 (by simp) (by simp)
  have hc0 := cell_later (a := ⟨w.heap.size, 0, none⟩) (v := .int .i64 0) hb1 (by go_simp)
  have hc1 := cell_later (a := ⟨w.heap.size, 1, none⟩) (v := .int .i64 0) hb1 (by go_simp)
  have hc2 := cell_later (a := ⟨w.heap.size, 2, none⟩) (v := .string ⟨#[]⟩) hb1 (by go_simp)
  have hB1 := (bel1 w _).trans (hb1.mono (by simp))
  have hlt : w.heap.size < w1.heap.size := World.block_lt_of_cell? _ _ hc0
  clear hb1
  go_wp2_with fail
  have hA := bel1 w1 (.cells #[.int .i64 k, .int .i64 n, .string s] 65)
  replace hf0 := frozen_later hA hlt hf0
  replace hf1 := frozen_later hA hlt hf1
  replace hf2 := frozen_later hA hlt hf2
  replace hc0 := cell_later hA hc0
  replace hc1 := cell_later hA hc1
  replace hc2 := cell_later hA hc2
  have d0 : (w1.alloc (.cells #[.int .i64 k, .int .i64 n, .string s] 65)).cell? ⟨w1.heap.size, 0, none⟩ = some (.int .i64 k) := by go_simp
  have d1 : (w1.alloc (.cells #[.int .i64 k, .int .i64 n, .string s] 65)).cell? ⟨w1.heap.size, 1, none⟩ = some (.int .i64 n) := by go_simp
  have d2 : (w1.alloc (.cells #[.int .i64 k, .int .i64 n, .string s] 65)).cell? ⟨w1.heap.size, 2, none⟩ = some (.string s) := by go_simp
  replace hB1 := hB1.trans (hA.mono hB1.size)
  have hlt2 : w.heap.size < (w1.alloc (.cells #[.int .i64 k, .int .i64 n, .string s] 65)).heap.size := World.block_lt_of_cell? _ _ hc0
  clear hA
  generalize hW : w1.alloc (.cells #[.int .i64 k, .int .i64 n, .string s] 65) = W at *
  clear hW
  refine (HS.out W hB1).mono ?_
  rintro e w2 ⟨rfl, hb2⟩
  replace hf0 := frozen_later hb2 hlt2 hf0
  replace hf1 := frozen_later hb2 hlt2 hf1
  replace hf2 := frozen_later hb2 hlt2 hf2
  replace hc0 := cell_later hb2 hc0
  replace hc1 := cell_later hb2 hc1
  replace hc2 := cell_later hb2 hc2
  replace d0 := cell_later hb2 d0
  replace d1 := cell_later hb2 d1
  replace d2 := cell_later hb2 d2
  replace hB1 := hB1.trans (hb2.mono hB1.size)
  have hne : ¬ w1.heap.size = w.heap.size := by omega
  have hne' : ¬ w.heap.size = w1.heap.size := by omega
  clear hb2 hlt2 HS HG
  go_wp2
  exact bodyPost_ret (v := .tuple #[.agg #[.int .i64 k, .int .i64 n, .string s], .nilIface]) (by simp [results, Tryz.results162, go_sem, hc0, hc1, hc2]) rfl ⟨rfl, ((hB1.setCell (Nat.le_refl _) _).setCell (Nat.le_refl _) _).setCell (Nat.le_refl _) _⟩

theorem bel2' (w : World) (o1 o2 : Obj) : Below w.heap.size w ((w.alloc o1).alloc o2) := ((Below.refl _ _).alloc (Nat.le_refl _) _).alloc (by simp) _

end Go.Proofs.YtnmelljaangfiaaGreatDoor.Vl
