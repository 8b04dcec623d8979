import Derived.Test.YtoioaalkeanhgaaDoorDpF
namespace Go.Proofs.YtoioaalkeanhgaaDoor
open Go.RowKit
set_option linter.unusedVariables false
set_option linter.unusedSimpArgs false
set_option maxRecDepth 100000

/-- A piece as it lies in memory. -/
structure HM where
  n : Int
  g : Int
  a : Option Addr
  m : Nat
  c : Nat
def cellsH (h : HM) : List Value := [.int .i64 h.n, .int .i64 h.g, .slice h.a h.m h.c]
def HmL (w : World) (a : Option Addr) (os : List HM) : Prop :=
  ∀ i (hi : i < os.length), ∃ b off, a = some ⟨b, off, none⟩ ∧ w.cell? ⟨b, off + i * 3, none⟩ = some (.int .i64 os[i].n) ∧ w.cell? ⟨b, off + i * 3 + 1, none⟩ = some (.int .i64 os[i].g) ∧ w.cell? ⟨b, off + i * 3 + 2, none⟩ = some (.slice os[i].a os[i].m os[i].c)
/-- Pieces in a row of one's own. -/
def OH (w : World) (B : Nat) (x : Value) (os : List HM) : Prop := w.ownsRow B 45 3 x os.length (os.flatMap cellsH)
theorem OH.to {w : World} {B k : Nat} {x : Value} {os : List HM} (h : OH w B x os) (hk : os.length = k) : w.ownsRow B 45 3 x k (os.flatMap cellsH) := by subst hk; exact h
theorem OH.form {w : World} {B : Nat} {x : Value} {os : List HM} (h : OH w B x os) : ∃ a c, x = .slice a os.length c ∧ HmL w a os ∧ ∀ y, a = some y → B ≤ y.block ∧ y.block < w.heap.size := by
  rcases h.2 with ⟨h1, h2⟩ | ⟨g, c, cur, h1, h2, h3, -⟩
  · refine ⟨none, 0, by rw [h1, h2], fun i hi => absurd hi (by omega), fun y hy => by cases hy⟩
  · refine ⟨some ⟨g, 0, none⟩, c, h1, fun i hi => ?_, fun y hy => ?_⟩
    · rw [h1] at h
      have key : ∀ j, j < 3 → w.cell? ⟨g, i * 3 + j, none⟩ = (cellsH os[i])[j]? := fun j hj => by
        rw [World.ownsRow.cellAt h (i * 3 + j) (by omega), flat_at cellsH 3 (fun _ => rfl) os i j hi hj]
      exact ⟨g, 0, rfl, by rw [Nat.zero_add]; exact key 0 (by decide), by rw [Nat.zero_add]; exact key 1 (by decide), by rw [Nat.zero_add]; exact key 2 (by decide)⟩
    · cases hy
      rcases Nat.lt_or_ge g w.heap.size with h | h
      · exact ⟨h2, h⟩
      · rw [Array.getElem?_eq_none h] at h3; cases h3
theorem OH.grown {w w' : World} {B : Nat} {x : Value} {os : List HM} {r : Option Nat} (h : OH w B x os) (hg : w.grownBy w' r) (hr : ∀ k, r = some k → k < B) : OH w' B x os :=
  own_grown h hg fun k hk e => by have h1 := (World.ownsRow.lt h k hk).1; have h2 := hr k e.symm; omega
theorem OH.later {w w' : World} {B : Nat} {x : Value} {os : List HM} (h : OH w B x os) (hb : Below w.heap.size w w') : OH w' B x os := own_later h hb
theorem OH.base {w : World} {B B' : Nat} {x : Value} {os : List HM} (h : OH w B x os) (hb : B' ≤ B) : OH w B' x os := by
  refine ⟨h.1, ?_⟩
  rcases h.2 with h2 | ⟨g, cap, cur, h1, h2, h3⟩
  · exact .inl h2
  · exact .inr ⟨g, cap, cur, h1, Nat.le_trans hb h2, h3⟩
/-- Pieces in memory and what they are: their bytes lie ahead of the reader. -/
inductive HRel (w : World) (g : Nat) : List HM → List Hd → Prop
  | nil : HRel w g [] []
  | cons {m : HM} {h : Hd} {ms : List HM} {hs : List Hd} (h1 : m.n = h.n) (h2 : m.g = h.g) (h3 : m.m = h.b.length) (h4 : Bytes w m.a h.b.length (lat h.b)) (h5 : ∀ x, m.a = some x → x.block < g) (r : HRel w g ms hs) : HRel w g (m :: ms) (h :: hs)
theorem HRel.len {w : World} {g : Nat} {ms : List HM} {hs : List Hd} (h : HRel w g ms hs) : ms.length = hs.length := by
  induction h with
  | nil => rfl
  | cons _ _ _ _ _ _ ih => simp [ih]
theorem HRel.grown {w w' : World} {g : Nat} {ms : List HM} {hs : List Hd} {r : Option Nat} (h : HRel w g ms hs) (hg : w.grownBy w' r) (hr : ∀ k, r = some k → g ≤ k) : HRel w' g ms hs := by
  induction h with
  | nil => exact .nil
  | cons h1 h2 h3 h4 h5 _ ih => exact .cons h1 h2 h3 (h4.grown hg (fun x hx e => by have := h5 x hx; have := hr _ e.symm; omega)) h5 ih
theorem HRel.snoc {w : World} {g : Nat} {ms : List HM} {hs : List Hd} {o : Hd} {a : Option Addr} {c : Nat} (h : HRel w g ms hs) (hb : Bytes w a o.b.length (lat o.b)) (ha : ∀ x, a = some x → x.block < g) : HRel w g (ms ++ [⟨o.n, o.g, a, o.b.length, c⟩]) (hs ++ [o]) := by
  induction h with
  | nil => exact .cons rfl rfl rfl hb ha .nil
  | cons h1 h2 h3 h4 h5 _ ih => exact .cons h1 h2 h3 h4 h5 ih
/-- What reading pieces gives. -/
def HsPost (w : World) (g : Nat) (hs : List Hd) (L' : List UInt8) (e : Ending) (w' : World) : Prop := ∃ x ms, e = .returned (.tuple #[x, .bool true]) ∧ OH w' w.heap.size x ms ∧ HRel w' g ms hs ∧ Rd w' g L' ∧ w.grownBy w' (some g)
set_option maxHeartbeats 8000000 in
theorem rlistH (g : Nat) (L L' : List UInt8) (hs : List Hd) (w : World) (hR : Rd w g L) (hL : L = encInt (hs.length : Int) ++ (hs.flatMap encHd ++ L')) (ho : ∀ h ∈ hs, InH h) (hl : hs.length ≤ 549755813888) :
    Calls Tryd.prog 23 #[.pointer (some ⟨g, 0, none⟩), .func (.func 24) #[] #[]] w (HsPost w g hs L') := by
  obtain ⟨i0, hi0, hz0, hz1, hz2⟩ := info_parts info45
  have HR := hidMk hR
  have HL := hidMk hL
  have HO := hidMk ho
  have hgl := hR.lt
  clear hR hL ho
  go_enter Tryd.func23, Tryd.ntmps23
  go_wp2_with fail
  refine (count_any g L w HR.out).mono ?_
  rintro e w1 ⟨m, ok, L1, rfl, hg1, hR1, hl1, hy, hn⟩
  cases ok with
  | false => exact absurd HL.out ((hn rfl).2 _ _ ⟨by omega, by omega⟩ (fitO (n := 0) (L1 := []) encHd encHd_pos hs))
  | true =>
    obtain ⟨q1, q2⟩ := hy rfl
    rw [HL.out] at q1
    obtain ⟨q3, q4⟩ := encInt_pf q1
    have q5 : hs.length = m := by omega
    subst q5 q4
    have HG1 := hidMk hg1
    have HR1 : Hid (Rd w1 g ((hs.drop 0).flatMap encHd ++ L')) := hR1
    have hsz1 := hg1.size
    clear hg1 hR1 hy hn q1 q2 q3 HR
    go_wp2
    go_loopg [8, 19] hs.length (fun gk x i wr => ∃ k : Nat, gk + k = hs.length ∧ i = .int .i64 k ∧ Rd wr g ((hs.drop k).flatMap encHd ++ L') ∧ (∃ ms, OH wr w1.heap.size x ms ∧ HRel wr g ms (hs.take k)) ∧ w.grownBy wr (some g) ∧ w1.heap.size ≤ wr.heap.size)
    case atStart => exact ⟨0, by omega, rfl, HR1.out, ⟨[], World.ownsRow_nil _ _ _ _, by rw [List.take_zero]; exact HRel.nil⟩, HG1.out, Nat.le_refl _⟩
    case round =>
      obtain ⟨k, hgk, rfl, hRk, ⟨ms, hOk, hLk⟩, hGk, hszk⟩ := hrel
      obtain ⟨ax, cx, rfl, -, -⟩ := hOk.form
      have HRk := hidMk hRk
      have HOk := hidMk hOk
      have HLk := hidMk hLk
      have HGk := hidMk hGk
      clear hRk hOk hGk hLk
      by_cases hk : k < hs.length
      · have hk' : (k : Int) < (hs.length : Int) := by omega
        have HD : Hid ((hs.drop k).flatMap encHd ++ L' = encHd hs[k] ++ ((hs.drop (k + 1)).flatMap encHd ++ L')) := by rw [Hid, drop_flat encHd hs k hk, List.append_assoc]
        have HI : Hid (InH hs[k]) := HO.out _ (List.getElem_mem hk)
        have htk : ms.length = k := by have := HLk.out.len; rw [List.length_take] at this; omega
        have HT : Hid (hs.take (k + 1) = hs.take k ++ [hs[k]]) := List.take_succ_eq_append_getElem hk
        go_wp2_with fail
        refine (rhd_ok g _ _ hs[k] wr HRk.out HD.out HI.out).mono ?_
        rintro e w3 ⟨a3, c3, rfl, hR3, hg3, hBy3, hap3⟩
        have HL3 := hidMk (HLk.out.grown hg3 (fun j hj => by cases hj; exact Nat.le_refl _))
        have HBy3 := hidMk hBy3
        have HAP3 := hidMk hap3
        have HOV3 : Hid (OH w3 w1.heap.size (.slice ax ms.length cx) ms) := HOk.out.grown hg3 (fun k hk => by cases hk; omega)
        have HG3 : Hid (w.grownBy w3 (some g)) := grown_trans HGk.out hg3
        have HR3 := hidMk hR3
        have hs3 := hg3.size
        clear hg3 hR3 HOk HGk HRk HD HI HLk hBy3 hap3
        generalize hs[k] = o at *
        rw [htk] at HOV3 ⊢
        go_wp2_with (first
          | (at_builtin; refine wpList_append_own_at _ rfl _ _ 23 rfl w1.heap.size 45 i0 (.agg #[.int .i64 0, .int .i64 0, .slice none 0 0]) 3 40 Tryd.underlying23 hi0 hz0 hz1 hz2 rfl (by decide) _ k (ms.flatMap cellsH) rfl ((World.ownsRow.alloc (OH.to HOV3.out htk) _).alloc _) ⟨w3.heap.size + 1, 0, none⟩ 1 1 (cellsH ⟨o.n, o.g, a3, o.b.length, c3⟩) rfl rfl ?c1 ?c2 ?c3 ?c4 ?c5 ?_))
        case c1 =>
          intro j u hj
          match j, hj with
          | 0, hj => simp [cellsH] at hj; subst hj; simp [Addr.add]
          | 1, hj => simp [cellsH] at hj; subst hj; simp [Addr.add]
          | 2, hj => simp [cellsH] at hj; subst hj; simp [Addr.add]
        case c2 => intro u hu; simp [cellsH] at hu; rcases hu with rfl | rfl | rfl <;> rfl
        case c3 => unfold maxLen; omega
        case c4 => omega
        case c5 => simp; omega
        · intro v' w5 hown' hgrow _ hat
          have hne : ∀ j, (Value.slice ax k cx).ownBlock = some j → w1.heap.size ≤ j := fun j hj => (World.ownsRow.lt HOV3.out j hj).1
          have hb2 : Below w3.heap.size w3 ((w3.alloc (.cells #[.int .i64 o.n, .int .i64 o.g, .slice a3 o.b.length c3] 45)).alloc (.cells #[.int .i64 o.n, .int .i64 o.g, .slice a3 o.b.length c3] 45)) := (bel1 _ _).alloc (by simp) _
          have HRR := hidMk ((HR3.out.later hb2).grown hgrow (fun j hj => by have := hne j hj; omega))
          have HGG : Hid (w.grownBy w5 (some g)) := grown_new (grown_trans HG3.out (grown_below hb2)) hgrow (fun j hj => by have := hne j hj; omega)
          have HO5 : Hid (OH w5 w1.heap.size v' (ms ++ [⟨o.n, o.g, a3, o.b.length, c3⟩])) := by
            unfold Hid OH
            rw [List.length_append, htk, List.flatMap_append]
            simpa using hown'
          have HL5 : Hid (HRel w5 g (ms ++ [⟨o.n, o.g, a3, o.b.length, c3⟩]) (hs.take (k + 1))) := by
            rw [Hid, HT.out]
            refine HRel.snoc ((HL3.out.grown (r := none) (grown_below hb2) (fun j hj => by cases hj)).grown hgrow (fun j hj => by have := hne j hj; omega)) ((HBy3.out.later hb2).grown hgrow (fun x hx e => by have h1 := HAP3.out x hx; have h2 := hne _ e.symm; omega)) HAP3.out
          have hsz5 := hgrow.size
          have hb2s := hb2.size
          clear hown' hgrow hat hne hb2 HOV3 HG3 HR3 HT HL3 HBy3 HAP3
          go_wp2
          go_roundg (gk - 1)
          case measure => omega
          case rel => exact ⟨k + 1, by omega, by go_num, HRR.out, ⟨_, HO5.out, HL5.out⟩, HGG.out, by omega⟩
      · have hk' : ¬ (k : Int) < (hs.length : Int) := by omega
        obtain rfl : k = hs.length := by omega
        have HR4 : Hid (Rd wr g L') := by have := HRk.out; rw [List.drop_length, List.flatMap_nil, List.nil_append] at this; exact this
        have HO4 := hidMk (HOk.out.base hsz1)
        have HL4 : Hid (HRel wr g ms hs) := by have := HLk.out; rw [List.take_length] at this; exact this
        go_wp2
        go_ret2
        exact ⟨_, ms, rfl, HO4.out, HL4.out, HR4.out, HGk.out⟩
end Go.Proofs.YtoioaalkeanhgaaDoor
