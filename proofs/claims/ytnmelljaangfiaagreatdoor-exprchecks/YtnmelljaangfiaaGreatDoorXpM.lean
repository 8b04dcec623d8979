import Derived.Test.YtnmelljaangfiaaGreatDoorXpW
import Derived.Maps.AppendAt
import Derived.Laws.AppendOwn
import Derived.Laws.AppendOwnNone
namespace Go.Proofs.YtnmelljaangfiaaGreatDoor
open Go.RowKit
set_option linter.unusedVariables false
set_option linter.unusedSimpArgs false
set_option maxRecDepth 100000

theorem xownLater {w w' : World} {B e size n : Nat} {v : Value} {xs : List Value} (h : w.ownsRow B e size v n xs) (hb : Below w.heap.size w w') : w'.ownsRow B e size v n xs := by
  refine ⟨h.1, ?_⟩
  rcases h.2 with h2 | ⟨g, cap, cur, h1, h2, h3, h4⟩
  · exact .inl h2
  · refine .inr ⟨g, cap, cur, h1, h2, ?_, h4⟩
    have hlt : g < w.heap.size := by
      rcases Nat.lt_or_ge g w.heap.size with h | h
      · exact h
      · rw [Array.getElem?_eq_none h] at h3; cases h3
    rw [hb.block g hlt]; exact h3
theorem xownGrown {w w' : World} {B e size n : Nat} {v : Value} {xs : List Value} {r : Option Nat} (h : w.ownsRow B e size v n xs) (hg : w.grownBy w' r) (hne : ∀ g, v.ownBlock = some g → some g ≠ r) : w'.ownsRow B e size v n xs := by
  refine ⟨h.1, ?_⟩
  rcases h.2 with h2 | ⟨g, cap, cur, h1, h2, h3, h4⟩
  · exact .inl h2
  · refine .inr ⟨g, cap, cur, h1, h2, ?_, h4⟩
    have hlt : g < w.heap.size := by
      rcases Nat.lt_or_ge g w.heap.size with h | h
      · exact h
      · rw [Array.getElem?_eq_none h] at h3; cases h3
    rw [hg.block g hlt (hne g (by rw [h1]; rfl))]; exact h3
theorem xgTrans {a b c : World} {r : Option Nat} (h : a.grownBy b r) (k : b.grownBy c r) : a.grownBy c r :=
  ⟨k.os.trans h.os, k.tape.trans h.tape, k.output.trans h.output, Nat.le_trans h.size k.size, fun i hi hr => (k.block i (Nat.lt_of_lt_of_le hi h.size) hr).trans (h.block i hi hr)⟩
theorem xgBelow {a b : World} {r : Option Nat} (h : Below a.heap.size a b) : a.grownBy b r :=
  ⟨h.os, h.tape, h.output, h.size, fun i hi _ => h.block i hi⟩
theorem xgSet (w : World) (a : Addr) (u : Value) : w.grownBy (w.setCell a u) (some a.block) :=
  ⟨rfl, rfl, rfl, by simp, fun k _ hk => heap_setCell_other w a k u (fun e => hk (by simp [e]))⟩
theorem xgNew {a b c : World} {r r' : Option Nat} (h : a.grownBy b r) (k : b.grownBy c r') (hr : ∀ n, r' = some n → a.heap.size ≤ n) : a.grownBy c r :=
  ⟨k.os.trans h.os, k.tape.trans h.tape, k.output.trans h.output, Nat.le_trans h.size k.size, fun i hi hne => (k.block i (Nat.lt_of_lt_of_le hi h.size) (fun e => by have := hr i e.symm; omega)).trans (h.block i hi hne)⟩
theorem xbNew {a b c : World} {r' : Option Nat} (h : Below a.heap.size a b) (k : b.grownBy c r') (hr : ∀ n, r' = some n → a.heap.size ≤ n) : Below a.heap.size a c :=
  ⟨k.os.trans h.os, k.tape.trans h.tape, k.output.trans h.output, Nat.le_trans h.size k.size, fun i hi => (k.block i (Nat.lt_of_lt_of_le hi h.size) (fun e => by have := hr i e.symm; omega)).trans (h.block i hi)⟩

theorem flatAt {α β : Type} (f : α → List β) (m : Nat) (hf : ∀ a, (f a).length = m) : ∀ (l : List α) (i j : Nat) (hi : i < l.length), j < m → (l.flatMap f)[i * m + j]? = (f l[i])[j]?
  | a :: l, 0, j, _, hj => by
    rw [List.flatMap_cons, Nat.zero_mul, Nat.zero_add, List.getElem?_append_left (by rw [hf]; exact hj)]; rfl
  | a :: l, i + 1, j, hi, hj => by
    have ih := flatAt f m hf l i j (by simpa using hi) hj
    rw [List.flatMap_cons, List.getElem?_append_right (by rw [hf, Nat.add_mul]; omega), hf, show (i + 1) * m + j - m = i * m + j by rw [Nat.add_mul]; omega, ih]
    rfl
def cellsT (t : Tk) : List Value := [.int .i64 t.pl, .int .i64 t.kd, .string t.tx]
/-- Tokens in a row of one's own. -/
def OT (w : World) (B : Nat) (x : Value) (ts : List Tk) : Prop := w.ownsRow B 149 3 x ts.length (ts.flatMap cellsT)
theorem infoTk : (Tryz.prog.info? 149).map (fun i => (i.zero, i.size, i.bytes)) = some (some (.agg #[.int .i64 0, .int .i64 0, .string ⟨#[]⟩]), 3, 32) := by kernel_rfl

def ToksPost (w : World) (s : ByteArray) (e : Ending) (w' : World) : Prop := Below w.heap.size w w' ∧
  match tok s.size 0 s.data.toList with
  | .error p => e = fltE p 1
  | .ok l => ∃ x, e = .returned x ∧ OT w' w.heap.size x (l ++ [⟨s.size, 0, ⟨#[]⟩⟩])

theorem tok_space {m pl : Nat} {c : UInt8} {r : List UInt8} (h : isSp c = true) : tok (m + 1) pl (c :: r) = tok m (pl + 1) r := by rw [tok, if_pos h]
theorem tok_none {m pl : Nat} {c : UInt8} {r : List UInt8} (h : isSp c = false) (ht : tokAt (c :: r) = none) : tok (m + 1) pl (c :: r) = .error pl := by rw [tok, if_neg (by rw [h]; decide), ht]
theorem tok_some {m pl kd n : Nat} {c : UInt8} {r : List UInt8} (h : isSp c = false) (ht : tokAt (c :: r) = some (kd, n)) : tok (m + 1) pl (c :: r) = (tok m (pl + n) ((c :: r).drop n)).map fun l => ⟨pl, kd, ⟨((c :: r).take n).toArray⟩⟩ :: l := by rw [tok, if_neg (by rw [h]; decide), ht]

set_option maxHeartbeats 4000000 in
theorem tokens_any (s : ByteArray) (w : World) (hs : s.size ≤ 200) :
    Calls Tryz.prog 40 #[.string s] w (ToksPost w s) := by
  obtain ⟨i0, hi0, hz0, hz1, hz2⟩ := info_parts infoTk
  have hlen : s.data.toList.length = s.size := by simp
  have HT : Hid (∀ (k : Nat) (W : World), k < s.size → Calls Tryz.prog 67 #[.string s, .int .i64 k] W (TokAtPost W k (s.data.toList.drop k))) := fun k W hk => tokenAt_any s k W hk (by omega)
  have HI : Hid (∀ (c : UInt8) (w : World), Calls Tryz.prog 66 #[.int .u8 c.toNat] w fun e w' => e = .returned (.bool (isSp c)) ∧ w' = w) := isSpace_any
  go_enter Tryz.func40, Tryz.ntmps40
  go_wp2
  go_loopw [3, 4] (fun l i w' => ∃ (k m : Nat) (acc : List Tk), k ≤ s.size ∧ i = .int .i64 k ∧ s.size - k ≤ m ∧ tok s.size 0 s.data.toList = (tok m k (s.data.toList.drop k)).map (acc ++ ·) ∧ OT w' w.heap.size l acc ∧ Below w.heap.size w w' ∧ acc.length ≤ k) (fun _ i _ => s.size - (intOf i).toNat)
  case atStart =>
    refine ⟨0, s.size, [], Nat.zero_le _, rfl, by omega, ?_, World.ownsRow_nil _ _ _ _, Below.refl _ _, Nat.le_refl _⟩
    rw [List.drop_zero]
    cases tok s.size 0 s.data.toList <;> rfl
  case round =>
    obtain ⟨k, m, acc, hk, rfl, hm, htok, hOT, hB, hacc⟩ := hrel
    by_cases hlt : k < s.size
    · have hki : (k : Int) < (s.size : Int) := by omega
      have hk2 : k < s.data.toList.length := by omega
      have he : s.data.toList[k] = s[k] := by simp [ByteArray.getElem_eq_getElem_data]
      go_wp2_with fail
      refine (HI.out _ _).mono ?_
      rintro e w1 ⟨rfl, h⟩
      have := h.symm; subst this
      cases hb : isSp s[k]
      · have hne : s.data.toList.drop k = s[k] :: s.data.toList.drop (k + 1) := by rw [List.drop_eq_getElem_cons hk2, he]
        obtain ⟨m', rfl⟩ : ∃ m', m = m' + 1 := ⟨m - 1, by omega⟩
        have HTK : Hid (tok s.size 0 s.data.toList = (tok (m' + 1) k (s.data.toList.drop k)).map (acc ++ ·)) := htok
        have HO : Hid (OT wr w.heap.size u3 acc) := hOT
        have HB : Hid (Below w.heap.size w wr) := hB
        have HNE : Hid (s.data.toList.drop k = s[k] :: s.data.toList.drop (k + 1)) := hne
        have HSP : Hid (isSp s[k] = false) := hb
        clear htok hOT hB hne
        go_wp2_with fail
        refine (HT.out k wr hlt).mono ?_
        rintro e w1 ⟨hb1, hp⟩
        have HB1 : Hid (Below wr.heap.size wr w1) := hb1
        cases ht : tokAt (s.data.toList.drop k) with
        | none =>
          rw [ht] at hp
          subst hp
          have hT : tok s.size 0 s.data.toList = .error k := by rw [HTK.out, HNE.out, tok_none HSP.out (by rw [← HNE.out]; exact ht)]; rfl
          refine ⟨rfl, ?_⟩
          unfold ToksPost
          rw [hT]
          exact ⟨HB.out.trans (hb1.mono HB.out.size), rfl⟩
        | some p =>
          obtain ⟨kd, n⟩ := p
          rw [ht] at hp
          subst hp
          obtain ⟨hn0, hn1⟩ := tokAt_len ht
          rw [List.length_drop] at hn1
          have hT : tok s.size 0 s.data.toList = (tok m' (k + n) (s.data.toList.drop (k + n))).map ((acc ++ [⟨k, kd, ⟨((s.data.toList.drop k).take n).toArray⟩⟩]) ++ ·) := by
            rw [HTK.out, HNE.out, tok_some HSP.out (by rw [← HNE.out]; exact ht), ← HNE.out, List.drop_drop]
            cases tok m' (k + n) (s.data.toList.drop (k + n)) <;> simp [Except.map]
          have HT2 : Hid (tok s.size 0 s.data.toList = (tok m' (k + n) (s.data.toList.drop (k + n))).map ((acc ++ [⟨k, kd, ⟨((s.data.toList.drop k).take n).toArray⟩⟩]) ++ ·)) := hT
          obtain ⟨X, hX⟩ : ∃ X : ByteArray, X = ⟨((s.data.toList.drop k).take n).toArray⟩ := ⟨_, rfl⟩
          have hXn : X.size = n := by rw [hX]; show (((s.data.toList.drop k).take n).toArray).size = n; simp; omega
          rw [← hX] at HT2 ⊢
          clear hT hX HTK ht
          have hO1 := xownLater HO.out hb1
          have HO1 : Hid (OT w1 w.heap.size u3 acc) := hO1
          have HBB : Hid (Below w.heap.size w w1) := HB.out.trans (hb1.mono HB.out.size)
          clear hO1 hb1 HB1 HB HO HNE
          unfold tkV
          go_wp2_with (first
            | (at_builtin; refine wpList_append_own_at _ rfl _ _ 113 rfl w.heap.size 149 i0 (.agg #[.int .i64 0, .int .i64 0, .string ⟨#[]⟩]) 3 32 Tryz.underlying113 hi0 hz0 hz1 hz2 rfl (by decide) _ acc.length (acc.flatMap cellsT) rfl ((World.ownsRow.alloc HO1.out _).alloc _) ⟨w1.heap.size + 1, 0, none⟩ 1 1 (cellsT ⟨k, kd, X⟩) rfl rfl ?c1 ?c2 ?c3 ?c4 ?c5 ?_))
          case c1 =>
            intro j u hj
            match j, hj with
            | 0, hj => simp [cellsT] at hj; subst hj; simp [Addr.add]
            | 1, hj => simp [cellsT] at hj; subst hj; simp [Addr.add]
            | 2, hj => simp [cellsT] at hj; subst hj; simp [Addr.add]
          case c2 => intro u hu; simp [cellsT] at hu; rcases hu with rfl | rfl | rfl <;> rfl
          case c3 => unfold maxLen; omega
          case c4 => omega
          case c5 => have := HBB.out.size; simp; omega
          · intro v' w5 hown' hgrow _ hat
            have hne : ∀ g, u3.ownBlock = some g → w.heap.size ≤ g := fun g hg => (World.ownsRow.lt HO1.out g hg).1
            have hb2 : Below w1.heap.size w1 ((w1.alloc (.cells #[.int .i64 k, .int .i64 kd, .string X] 149)).alloc (.cells #[.int .i64 k, .int .i64 kd, .string X] 149)) := (xbel1 _ _).alloc (by simp) _
            have HB5 : Hid (Below w.heap.size w w5) := xbNew (HBB.out.trans (hb2.mono HBB.out.size)) hgrow hne
            have HO5 : Hid (OT w5 w.heap.size v' (acc ++ [⟨k, kd, X⟩])) := by
              unfold Hid OT
              rw [List.length_append, List.flatMap_append]
              simpa using hown'
            have c2 := World.grownBy.cell hgrow (a := ⟨w1.heap.size, 2, none⟩) (v := .string X) (by simp) (fun e => by have h := (World.ownsRow.lt HO1.out w1.heap.size e.symm).2; omega)
            clear hown' hgrow hat hne hb2 HBB HO1
            go_wp2
            go_roundw
            case rel => exact ⟨k + n, m', acc ++ [⟨k, kd, X⟩], by omega, by go_num, by omega, HT2.out, HO5.out, HB5.out, by simp; omega⟩
            case measure => simp [intOf]; omega
      · have hne : s.data.toList.drop k = s[k] :: s.data.toList.drop (k + 1) := by rw [List.drop_eq_getElem_cons hk2, he]
        obtain ⟨m', rfl⟩ : ∃ m', m = m' + 1 := ⟨m - 1, by omega⟩
        have hT : tok s.size 0 s.data.toList = (tok m' (k + 1) (s.data.toList.drop (k + 1))).map (acc ++ ·) := by rw [htok, hne, tok_space hb]
        have HT2 : Hid (tok s.size 0 s.data.toList = (tok m' (k + 1) (s.data.toList.drop (k + 1))).map (acc ++ ·)) := hT
        have HO : Hid (OT wr w.heap.size u3 acc) := hOT
        have HB : Hid (Below w.heap.size w wr) := hB
        clear htok hOT hB hne hT
        go_wp2
        exact ⟨⟨k + 1, m', acc, by omega, by go_num, by omega, HT2.out, HO.out, HB.out, by omega⟩, by simp [intOf]; omega⟩
    · obtain rfl : k = s.size := by omega
      have hT : tok s.size 0 s.data.toList = .ok acc := by
        rw [htok, List.drop_eq_nil_of_le (by omega)]
        unfold tok
        simp [Except.map]
      have HT2 : Hid (tok s.size 0 s.data.toList = .ok acc) := hT
      have HO : Hid (OT wr w.heap.size u3 acc) := hOT
      have HB : Hid (Below w.heap.size w wr) := hB
      clear htok hOT hB hT
      go_wp2_with (first
        | (at_builtin; refine wpList_append_own_at _ rfl _ _ 113 rfl w.heap.size 149 i0 (.agg #[.int .i64 0, .int .i64 0, .string ⟨#[]⟩]) 3 32 Tryz.underlying113 hi0 hz0 hz1 hz2 rfl (by decide) _ acc.length (acc.flatMap cellsT) rfl (World.ownsRow.alloc HO.out _) ⟨wr.heap.size, 0, none⟩ 1 1 (cellsT ⟨s.size, 0, ⟨#[]⟩⟩) rfl rfl ?c1 ?c2 ?c3 ?c4 ?c5 ?_))
      case c1 =>
        intro j u hj
        match j, hj with
        | 0, hj => simp [cellsT] at hj; subst hj; simp [Addr.add]
        | 1, hj => simp [cellsT] at hj; subst hj; simp [Addr.add]
        | 2, hj => simp [cellsT] at hj; subst hj; simp [Addr.add]
      case c2 => intro u hu; simp [cellsT] at hu; rcases hu with rfl | rfl | rfl <;> rfl
      case c3 => unfold maxLen; omega
      case c4 => omega
      case c5 => have := HB.out.size; simp; omega
      · intro v' w5 hown' hgrow _ hat
        have hne : ∀ g, u3.ownBlock = some g → w.heap.size ≤ g := fun g hg => (World.ownsRow.lt HO.out g hg).1
        have HB5 : Hid (Below w.heap.size w w5) := xbNew (HB.out.trans ((xbel1 _ _).mono HB.out.size)) hgrow hne
        have HO5 : Hid (OT w5 w.heap.size v' (acc ++ [⟨s.size, 0, ⟨#[]⟩⟩])) := by
          unfold Hid OT
          rw [List.length_append, List.flatMap_append]
          simpa using hown'
        clear hown' hgrow hat hne HB HO
        go_wp2
        go_ret
        unfold ToksPost
        rw [HT2.out]
        exact ⟨HB5.out, v', rfl, HO5.out⟩
end Go.Proofs.YtnmelljaangfiaaGreatDoor
