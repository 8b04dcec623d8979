import Derived.Test.YtoioaalkeanhgaaDoorDpI
import Derived.Laws.StructEq
import Derived.Deep.QuietTactic
import Derived.BigQuiet
namespace Go.Proofs.YtoioaalkeanhgaaDoor
open Go.RowKit
set_option linter.unusedVariables false
set_option linter.unusedSimpArgs false
set_option maxRecDepth 100000

theorem HRel.at {w : World} {g : Nat} {ms : List HM} {hs : List Hd} (h : HRel w g ms hs) : ∀ (k : Nat) (h1 : k < ms.length) (h2 : k < hs.length), ms[k].n = hs[k].n ∧ ms[k].g = hs[k].g ∧ ms[k].m = hs[k].b.length ∧ Bytes w ms[k].a hs[k].b.length (lat hs[k].b) := by
  induction h with
  | nil => intro k h1; simp at h1
  | cons q1 q2 q3 q4 q5 _ ih =>
    intro k h1 h2
    cases k with
    | zero => exact ⟨q1, q2, q3, q4⟩
    | succ k => exact ih k (by simpa using h1) (by simpa using h2)
theorem HmL.later {w wx : World} {a : Option Addr} {ms : List HM} (h : HmL w a ms) (hb : Below w.heap.size w wx) : HmL wx a ms := h.grown (grown_below (r := none) hb) (fun x hx e => by cases e)
theorem HRel.later {w wx : World} {g : Nat} {ms : List HM} {hs : List Hd} (h : HRel w g ms hs) (hb : Below w.heap.size w wx) : HRel wx g ms hs := h.grown (grown_below (r := none) hb) (fun k hk => by cases hk)

theorem eq41 (n p a : Int) (w : World) :
    (Op.equalIn 10000 41 (.agg #[.int .i64 n, .int .i64 p, .int .i64 a]) (.agg #[.int .i64 n, .int .i64 p, .int .i64 a])).run Tryd.prog w = .ok true w := by
  have u2 := Tryd.underlying3
  have a2 := Tryd.isAgg3
  have z2 := Tryd.sizeOf3
  have hS : Tryd.prog.underlying 41 = some (.struct (Tryd.prog.fieldsOf 41)) := by kernel_rfl
  rw [show (10000 : Nat) = 9999 + 1 from rfl, run_equalIn_agg w 9999 41 _ _ hS (by kernel_rfl)]
  simp only [Program.fieldsOf, Tryd.underlying41]
  go_simp
theorem guard41 : Tryd.prog.eqGuardType Tryd.prog.depth 41 = false := by kernel_rfl
theorem neq41 (n p a : Int) (w : World) :
    (binOp .neq 41 (.agg #[.int .i64 n, .int .i64 p, .int .i64 a]) (.agg #[.int .i64 n, .int .i64 p, .int .i64 a])).run Tryd.prog w = .ok (.bool false) w := by
  rw [run_neq_struct, eq41]; rfl
attribute [local go_sem ↓] neq41
attribute [local go_sem] guard41
set_option maxHeartbeats 4000000 in
theorem same_ok (m : Int) (os : List Of) (hs : List Hd) (ms : List HM) (ao ah bo bh : Option Addr) (co ch do_ dh g : Nat) (w : World) (hO : OfL w ao os) (hH : HmL w ah ms) (hR : HRel w g ms hs) (hO' : OfL w bo os) (hH' : HdL w bh hs) (iH : ∀ h ∈ hs, InH h) (h1 : os.length ≤ 549755813888) (h2 : hs.length ≤ 549755813888) :
    Calls Tryd.prog 7 #[.agg #[.int .i64 m, .slice ao os.length co, .slice ah hs.length ch], .agg #[.int .i64 m, .slice bo os.length do_, .slice bh hs.length dh]] w fun e w' => e = .returned (.bool true) ∧ Below w.heap.size w w' := by
  obtain ⟨W1, hW1⟩ : ∃ W1, W1 = (w.alloc (.cells #[.int .i64 m, .slice ao os.length co, .slice ah hs.length ch] 25)).alloc (.cells #[.int .i64 m, .slice bo os.length do_, .slice bh hs.length dh] 25) := ⟨_, rfl⟩
  have hb1 : Below w.heap.size w W1 := by rw [hW1]; exact (bel1 _ _).alloc (by simp) _
  have HO := hidMk (hO.later hb1)
  have HH := hidMk (hH.later hb1)
  have HR := hidMk (hR.later hb1)
  have HO' := hidMk (hO'.later hb1)
  have HH' := hidMk (hH'.later hb1)
  have HIH := hidMk iH
  have HB1 := hidMk hb1
  have hml := hR.len
  have hz1 : W1.heap.size = w.heap.size + 2 := by rw [hW1]; simp
  have KA : Hid (∀ W, Below W1.heap.size W1 W → (W.cell? ⟨w.heap.size, 1, none⟩ = some (.slice ao os.length co) ∧ W.cell? ⟨w.heap.size, 2, none⟩ = some (.slice ah hs.length ch)) ∧ W.cell? ⟨w.heap.size + 1, 1, none⟩ = some (.slice bo os.length do_) ∧ W.cell? ⟨w.heap.size + 1, 2, none⟩ = some (.slice bh hs.length dh)) := fun W hW =>
    ⟨⟨cell_later hW (by rw [hW1]; simp), cell_later hW (by rw [hW1]; simp)⟩, cell_later hW (by rw [hW1]; simp), cell_later hW (by rw [hW1]; simp)⟩
  clear hO hH hR hO' hH' hb1 iH
  go_enter Tryd.func7, Tryd.ntmps7
  go_wp2
  rw [← hW1]
  clear hW1
  go_loopg [5] os.length (fun gk i wr => ∃ k : Nat, gk + k = os.length ∧ i = .int .i64 k ∧ Below W1.heap.size W1 wr)
  case atStart => exact ⟨0, by omega, rfl, Below.refl _ _⟩
  case round =>
    obtain ⟨k, hgk, rfl, hbk⟩ := hrel
    have HBk := hidMk hbk
    have hszk := hbk.size
    obtain ⟨⟨k1, k2⟩, k3, k4⟩ := KA.out wr hbk
    by_cases hk : k < os.length
    · have hk' : (k : Int) < (os.length : Int) := by omega
      obtain ⟨b, off, rfl, c1, c2, c3⟩ := (HO.out.later hbk) k hk
      obtain ⟨b', off', rfl, d1, d2, d3⟩ := (HO'.out.later hbk) k hk
      clear hbk
      generalize os[k] = o at *
      go_wp2
      go_quiet (fail)
      have HBq := hidMk (below_drewN HBk.out nq)
      go_wp2
      go_roundg (gk - 1)
      case measure => omega
      case rel => exact ⟨k + 1, by omega, by go_num, HBq.out⟩
    · have hk' : ¬ (k : Int) < (os.length : Int) := by omega
      clear hbk
      go_wp2
      go_loopg [6] hs.length (fun gk i wr => ∃ k : Nat, gk + k = hs.length ∧ i = .int .i64 k ∧ Below W1.heap.size W1 wr)
      case atStart => exact ⟨0, by omega, rfl, HBk.out⟩
      case round =>
        obtain ⟨k, hgk, rfl, hbk⟩ := hrel
        have HBk := hidMk hbk
        have hszk := hbk.size
        obtain ⟨⟨k1, k2⟩, k3, k4⟩ := KA.out wr hbk
        by_cases hk : k < hs.length
        · have hk' : (k : Int) < (hs.length : Int) := by omega
          obtain ⟨b, off, rfl, c1, c2, c3⟩ := (HH.out.later hbk) k (by omega)
          obtain ⟨b', off', x, c, rfl, d1, d2, d3, hBy', -⟩ := (HH'.out.later hbk) k hk
          obtain ⟨e1, e2, e3, hBy⟩ := (HR.out.later hbk).at k (by omega) hk
          have hlb : hs[k].b.length ≤ 549755813888 := (HIH.out _ (List.getElem_mem hk)).2.2
          rw [e1] at c1
          rw [e2] at c2
          rw [e3] at c3
          generalize ms[k] = mk at *
          generalize hs[k] = h at *
          have hx1 : Below wr.heap.size wr (wr.alloc (.cells #[.int .i64 h.n, .int .i64 h.g, .slice mk.a h.b.length mk.c] 45)) := bel1 _ _
          have hx2 : Below wr.heap.size wr ((wr.alloc (.cells #[.int .i64 h.n, .int .i64 h.g, .slice mk.a h.b.length mk.c] 45)).alloc (.cells #[.int .i64 h.n, .int .i64 h.g, .slice x h.b.length c] 45)) := hx1.alloc (by simp) _
          have q4 := cell_later hx1 k4
          have q1 := cell_later hx1 d1
          have q2 := cell_later hx1 d2
          have q3 := cell_later hx1 d3
          have V10 := conv_bytes _ mk.a h.b.length mk.c (lat h.b) (hBy.later hx2)
          have V20 := conv_bytes _ x h.b.length c (lat h.b) (hBy'.later hx2)
          have hSS := beq_str (rfl : bstr (lat h.b) h.b.length = bstr (lat h.b) h.b.length)
          have HBx := hidMk (HBk.out.trans (hx2.mono hszk))
          clear hx1 hx2 hBy hBy' hbk e1 e2 e3
          generalize bstr (lat h.b) h.b.length = S at *
          go_wp2
          go_roundg (gk - 1)
          case measure => omega
          case rel => exact ⟨k + 1, by omega, by go_num, HBx.out⟩
        · have hk' : ¬ (k : Int) < (hs.length : Int) := by omega
          clear hbk
          go_wp2
          go_ret
          exact ⟨rfl, HB1.out.trans (HBk.out.mono (by omega))⟩
end Go.Proofs.YtoioaalkeanhgaaDoor
