import Derived.Test.YtoioaalkeanhgaaDoorDpC
namespace Go.Proofs.YtoioaalkeanhgaaDoor
open Go.RowKit
set_option linter.unusedVariables false
set_option linter.unusedSimpArgs false
set_option maxRecDepth 100000

/-- Nothing but two blocks has turned. -/
structure G2 (w w' : World) (g q : Nat) : Prop where
  os : w'.os = w.os
  tape : w'.tape = w.tape
  output : w'.output = w.output
  size : w.heap.size ≤ w'.heap.size
  block : ∀ i, i < w.heap.size → i ≠ g → i ≠ q → w'.heap[i]? = w.heap[i]?
theorem G2.refl (w : World) (g q : Nat) : G2 w w g q := ⟨rfl, rfl, rfl, Nat.le_refl _, fun _ _ _ _ => rfl⟩
theorem G2.fst {w a b : World} {g q : Nat} (h : G2 w a g q) (k : a.grownBy b (some g)) : G2 w b g q :=
  ⟨k.os.trans h.os, k.tape.trans h.tape, k.output.trans h.output, Nat.le_trans h.size k.size, fun i hi h1 h2 => (k.block i (Nat.lt_of_lt_of_le hi h.size) (fun e => h1 (Option.some.inj e))).trans (h.block i hi h1 h2)⟩
theorem G2.snd {w a b : World} {g q : Nat} (h : G2 w a g q) (k : a.grownBy b (some q)) : G2 w b g q :=
  ⟨k.os.trans h.os, k.tape.trans h.tape, k.output.trans h.output, Nat.le_trans h.size k.size, fun i hi h1 h2 => (k.block i (Nat.lt_of_lt_of_le hi h.size) (fun e => h2 (Option.some.inj e))).trans (h.block i hi h1 h2)⟩
theorem G2.cell {w w' : World} {g q : Nat} {a : Addr} {u : Value} (h : G2 w w' g q) (hc : w.cell? a = some u) (h1 : a.block ≠ g) (h2 : a.block ≠ q) : w'.cell? a = some u := by
  have hlt := World.block_lt_of_cell? _ _ hc
  have hb := h.block _ hlt h1 h2
  unfold World.cell? at hc ⊢
  rw [hb]; exact hc
/-- Seen from ahead of the second block. -/
theorem G2.one {w0 w w' : World} {g q : Nat} (hb : Below w0.heap.size w0 w) (h : G2 w w' g q) (hq : w0.heap.size ≤ q) : w0.grownBy w' (some g) :=
  ⟨h.os.trans hb.os, h.tape.trans hb.tape, h.output.trans hb.output, Nat.le_trans hb.size h.size, fun i hi hne => (h.block i (Nat.lt_of_lt_of_le hi hb.size) (fun e => hne (by rw [e])) (by omega)).trans (hb.block i hi)⟩
def iv (x : Int) : Value := .int .i64 x
theorem put_next (xs : List Int) (ys : List Value) (k : Nat) (hk : k < xs.length) (hy : xs.length ≤ ys.length) : ((xs.take k).map iv ++ ys.drop k).set k (.int .i64 xs[k]) = (xs.take (k + 1)).map iv ++ ys.drop (k + 1) := by
  have hl : ((xs.take k).map iv).length = k := by rw [List.length_map, List.length_take]; omega
  rw [List.set_append_right _ _ (by omega), hl, Nat.sub_self, List.drop_eq_getElem_cons (show k < ys.length by omega), List.set_cons_zero, List.take_succ_eq_append_getElem hk, List.map_append]
  simp [iv]

set_option maxHeartbeats 4000000 in
theorem rnums_ok (g q T n pb c : Nat) (L L' : List UInt8) (xs : List Int) (ys : List Value) (w : World) (hR : Rd w g L) (hQ : Own w q T n ys) (hgq : g < q) (hpl : ∀ i, i < xs.length → w.cell? ⟨pb, i, none⟩ = some (.pointer (some ⟨q, i, none⟩))) (hp1 : pb ≠ g) (hp2 : pb ≠ q)
    (hL : L = xs.flatMap encInt ++ L') (hx : ∀ x ∈ xs, InI x) (h3 : xs.length ≤ n) (hy : ys.length = n) (hs : xs.length ≤ 9) :
    Calls Tryd.prog 20 #[.pointer (some ⟨g, 0, none⟩), .slice (some ⟨pb, 0, none⟩) xs.length c] w fun e w' => e = .returned (.bool true) ∧ Rd w' g L' ∧ Own w' q T n (xs.map iv ++ ys.drop xs.length) ∧ G2 w w' g q := by
  have HR : Hid (Rd w g ((xs.drop 0).flatMap encInt ++ L')) := by rw [Hid, List.drop_zero, ← hL]; exact hR
  have HQ : Hid (Own w q T n ((xs.take 0).map iv ++ ys.drop 0)) := by simpa [Hid] using hQ
  have HP := hidMk hpl
  have HX := hidMk hx
  clear hR hQ hpl hx hL
  go_enter Tryd.func20, Tryd.ntmps20
  go_wp2
  go_loopg [11] xs.length (fun gk i wr => ∃ k : Nat, gk + k = xs.length ∧ i = .int .i64 k ∧ Rd wr g ((xs.drop k).flatMap encInt ++ L') ∧ Own wr q T n ((xs.take k).map iv ++ ys.drop k) ∧ G2 w wr g q)
  case atStart => exact ⟨0, by omega, rfl, HR.out, HQ.out, G2.refl _ _ _⟩
  case round =>
    obtain ⟨k, hgk, rfl, hRk, hQk, hGk⟩ := hrel
    have HRk := hidMk hRk
    have HQk := hidMk hQk
    have HGk := hidMk hGk
    clear hRk hQk hGk HR HQ
    by_cases hk : k < xs.length
    · have hk' : (k : Int) < (xs.length : Int) := by omega
      have c1 : wr.cell? ⟨pb, k, none⟩ = some (.pointer (some ⟨q, k, none⟩)) := HGk.out.cell (HP.out k hk) hp1 hp2
      have HD : Hid ((xs.drop k).flatMap encInt ++ L' = encInt xs[k] ++ ((xs.drop (k + 1)).flatMap encInt ++ L')) := by
        rw [Hid, List.drop_eq_getElem_cons hk, List.flatMap_cons, List.append_assoc]
      have HI : Hid (InI xs[k]) := HX.out _ (List.getElem_mem hk)
      have HN := hidMk (put_next xs ys k hk (by omega))
      go_wp2_with fail
      refine (num_any g _ _ HRk.out).mono ?_
      rintro e w1 ⟨z, ok, L1, rfl, hz, hg1, hR1, hl1, hyes, hno⟩
      cases ok with
      | false => exact absurd HD.out (hno rfl _ _ HI.out)
      | true =>
        have he := hyes rfl
        rw [HD.out] at he
        obtain ⟨rfl, rfl⟩ := encInt_pf he
        have hO1 : Own w1 q T n ((xs.take k).map iv ++ ys.drop k) := HQk.out.grown hg1 (fun e => by have := Option.some.inj e; omega)
        have cq : ∃ u, w1.cell? ⟨q, k, none⟩ = some u := by
          rw [hO1.cell k (by omega)]
          have hl : ((xs.take k).map iv ++ ys.drop k).length = n := by rw [List.length_append, List.length_map, List.length_take, List.length_drop]; omega
          exact ⟨_, List.getElem?_eq_getElem (by omega)⟩
        obtain ⟨u, cq⟩ := cq
        have fq : w1.frozen? ⟨q, k, none⟩ = false := hO1.soft k
        obtain ⟨hO2, hg2⟩ := hO1.put k (.int .i64 xs[k])
        have HO2 : Hid (Own (w1.setCell ⟨q, k, none⟩ (.int .i64 xs[k])) q T n ((xs.take (k + 1)).map iv ++ ys.drop (k + 1))) := by rw [Hid, ← HN.out]; exact hO2
        have HR2 := hidMk (hR1.grown hg2 (fun j hj => by cases hj; exact hgq))
        have HG2 := hidMk ((HGk.out.fst hg1).snd hg2)
        have hw : IntKind.i64.wrap xs[k] = xs[k] := by have := HI.out; unfold InI at this; simp [IntKind.wrap, IntKind.bits, IntKind.signed]; omega
        clear hO1 hO2 hg2 hg1 hR1 hyes hno he HD HN
        go_wp2
        go_roundg (gk - 1)
        case measure => omega
        case rel => exact ⟨k + 1, by omega, by go_num, HR2.out, HO2.out, HG2.out⟩
    · have hk' : ¬ (k : Int) < (xs.length : Int) := by omega
      obtain rfl : k = xs.length := by omega
      have HR3 : Hid (Rd wr g L') := by have := HRk.out; rw [List.drop_length, List.flatMap_nil, List.nil_append] at this; exact this
      have HQ3 : Hid (Own wr q T n (xs.map iv ++ ys.drop xs.length)) := by have := HQk.out; rw [List.take_length] at this; exact this
      go_wp2
      go_ret
      exact ⟨rfl, HR3.out, HQ3.out, HGk.out⟩
end Go.Proofs.YtoioaalkeanhgaaDoor
