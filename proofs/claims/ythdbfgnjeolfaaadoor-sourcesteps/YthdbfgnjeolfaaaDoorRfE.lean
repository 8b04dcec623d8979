import Derived.Test.YthdbfgnjeolfaaaDoorRfD
import Derived.Laws.MakeOwn
namespace Go.Proofs.YthdbfgnjeolfaaaDoor
open Go.RowKit
set_option linter.unusedVariables false
set_option linter.unusedSimpArgs false
set_option maxRecDepth 100000
set_option maxHeartbeats 4000000

/-- Rows in a row of one's own, their values in rows of their own. -/
structure OW (w : World) (B : Nat) (x : Value) (qs : List Q) : Prop where
  rows : OR w B x qs
  vals : ∀ q ∈ qs, OV w B (.slice q.a q.r.vs.length q.c) q.r.vs
theorem OW.later {w w' : World} {B : Nat} {x : Value} {qs : List Q} (h : OW w B x qs) (hb : Below w.heap.size w w') : OW w' B x qs := ⟨h.rows.later hb, fun q hq => (h.vals q hq).later hb⟩
/-- The values' row stays where another grows. -/
theorem OV.beside {w w' : World} {B : Nat} {a : Option Addr} {n c : Nat} {vs : List V} {r : Option Nat} (h : OV w B (.slice a n c) vs) (hg : w.grownBy w' r) (hne : ∀ y, a = some y → some y.block ≠ r) : OV w' B (.slice a n c) vs := by
  refine own_grown h hg (fun k hk => ?_)
  rcases h.2 with ⟨h1, -⟩ | ⟨g2, c3, cur2, h1, -⟩
  · simp only [Value.slice.injEq] at h1
    rw [h1.1] at hk
    simp [Value.ownBlock] at hk
  · simp only [Value.slice.injEq] at h1
    rw [h1.1] at hk
    simp [Value.ownBlock] at hk
    subst hk
    exact hne _ h1.1

def LCPost (w : World) (rs : List Rw) (e : Ending) (w' : World) : Prop := ∃ x qs, e = .returned x ∧ OW w' w.heap.size x qs ∧ qs.map (·.r) = rs ∧ Below w.heap.size w w'
theorem lcopied_any (rs : List Rw) (a : Option Addr) (c : Nat) (w : World) (h : RLies w a rs) (hl : rs.length ≤ 4398046510976) (hv : ∀ r ∈ rs, r.vs.length ≤ 4398046511104) :
    Calls Tryd.prog 4 #[.slice a rs.length c] w (LCPost w rs) := by
  obtain ⟨i0, hi0, hz0, hz1, hz2⟩ := info_parts infoR
  have HR : Hid (RLies w a rs) := h
  have HV : Hid (∀ r ∈ rs, r.vs.length ≤ 4398046511104) := hv
  clear h hv
  have hmk : ∀ W : World, (Instr.makeSlice 22 (.int .i64 0) (.int .i64 ((rs.length : Int) + 70))).run Tryd.prog W = .ok (.slice (some ⟨W.heap.size, 0, none⟩) 0 (rs.length + 70)) (W.alloc (.cells (madeCells #[.int .i64 0, .slice none 0 0] ((rs.length + 70) * 2)) 37)) := fun W => by
    have := run_make (P := Tryd.prog) W 22 37 i0 (.agg #[.int .i64 0, .slice none 0 0]) Tryd.underlying22 hi0 hz0 .i64 .i64 0 ((rs.length : Int) + 70) (by omega) (by omega) (by rw [hz2]; omega) (by omega)
    rw [this, hz1]
    rw [show ((rs.length : Int) + 70).toNat = rs.length + 70 by omega]
    rfl
  have HO0 : Hid (OR (w.alloc (.cells (madeCells #[.int .i64 0, .slice none 0 0] ((rs.length + 70) * 2)) 37)) w.heap.size (.slice (some ⟨w.heap.size, 0, none⟩) 0 (rs.length + 70)) []) :=
    ⟨⟨rfl, .inr ⟨w.heap.size, rs.length + 70, _, rfl, Nat.le_refl _, heap_alloc_new w _, Nat.zero_le _, by unfold maxLen; omega, by simp [madeCells], by simp⟩⟩, (fun q hq => by cases hq), (fun q hq => by cases hq)⟩
  go_enter Tryd.func4, Tryd.ntmps4
  go_wp2
  go_loopg [3, 4] rs.length (fun gk x i wr => ∃ (k : Nat) (qs : List Q), gk + k = rs.length ∧ i = .int .i64 k ∧ OW wr w.heap.size x qs ∧ qs.map (·.r) = rs.take k ∧ Below w.heap.size w wr)
  case atStart => exact ⟨0, [], by omega, rfl, ⟨HO0.out, fun q hq => by cases hq⟩, by simp, bel1 _ _⟩
  case round =>
    clear HO0 hmk
    obtain ⟨k, qs, hgk, rfl, hOW, hqs, hb⟩ := hrel
    have hql : qs.length = k := by have := congrArg List.length hqs; rw [List.length_map, List.length_take] at this; omega
    obtain ⟨ax, cx, rfl, -⟩ := hOW.rows.form
    have HOW := hidMk hOW
    have HQS := hidMk hqs
    have HB := hidMk hb
    have HQL := hidMk hql
    have hsz := hb.size
    clear hOW hqs hb
    by_cases hlt : k < rs.length
    · have hlt' : (k : Int) < (rs.length : Int) := by omega
      obtain ⟨b, off, av, cv, e0, e1, e2, e3⟩ := HR.out k hlt
      subst e0
      have hn := HV.out _ (List.getElem_mem hlt)
      have HVL := hidMk (e3.later HB.out)
      have HTK : Hid (rs.take (k + 1) = rs.take k ++ [rs[k]]) := List.take_succ_eq_append_getElem hlt
      replace e1 := cell_later HB.out e1
      replace e2 := cell_later HB.out e2
      have hqb : qs.length ≤ 4398046510976 := by omega
      clear e3 hql
      generalize rs[k] = r at *
      go_wp2_with fail
      refine (copy_any r.t av r.vs cv wr HVL.out hn).mono ?_
      rintro e w2 ⟨a', c', rfl, hOV, hb2⟩
      have HO2 := hidMk (HOW.out.later hb2)
      have HB2 : Hid (Below w.heap.size w w2) := HB.out.trans (hb2.mono hsz)
      have HOV := hidMk hOV
      have hs2 := hb2.size
      obtain ⟨a2, c2, e2', hVL2, hA2⟩ := hOV.form
      cases e2'
      have HVL2 := hidMk hVL2
      have HA2 := hidMk hA2
      clear hOV hb2 hVL2 hA2 e1 e2
      have HOWN : Hid (((w2.alloc (.cells #[.int .i64 r.t, .slice a' r.vs.length c'] 37)).alloc (.cells #[.int .i64 r.t, .slice a' r.vs.length c'] 37)).ownsRow w.heap.size 37 2 (.slice ax qs.length cx) qs.length (qs.flatMap cellsR)) := (HO2.out.rows.own.alloc _).alloc _
      have HN : Hid (∀ j u, (cellsR ⟨r, a', c'⟩)[j]? = some u → ((w2.alloc (.cells #[.int .i64 r.t, .slice a' r.vs.length c'] 37)).alloc (.cells #[.int .i64 r.t, .slice a' r.vs.length c'] 37)).cell? ((⟨w2.heap.size + 1, 0, none⟩ : Addr).add j) = some u) := by
        have := World.news_of_block (B := w2.heap.size + 1) (cs := #[.int .i64 r.t, .slice a' r.vs.length c']) (t := 37) (fr := (0, 0)) (w := (w2.alloc (.cells #[.int .i64 r.t, .slice a' r.vs.length c'] 37)).alloc (.cells #[.int .i64 r.t, .slice a' r.vs.length c'] 37)) (by have h := heap_alloc_new (w2.alloc (.cells #[.int .i64 r.t, .slice a' r.vs.length c'] 37)) (.cells #[.int .i64 r.t, .slice a' r.vs.length c'] 37); rw [World.size_alloc] at h; exact h)
        exact this
      go_wp2_with (at_builtin; refine wpList_append_own_at _ rfl _ _ 22 rfl w.heap.size 37 i0 (.agg #[.int .i64 0, .slice none 0 0]) 2 32 Tryd.underlying22 hi0 hz0 hz1 hz2 rfl (by decide) _ qs.length (qs.flatMap cellsR) rfl HOWN.out ⟨w2.heap.size + 1, 0, none⟩ 1 1 (cellsR ⟨r, a', c'⟩) rfl rfl HN.out (one_cellsR _) (by unfold maxLen; omega) (by omega) (by simp; have := HB2.out.size; omega) ?_)
      intro v' w5 hown hgrow _ hat
      have hb5 : Below w2.heap.size w2 ((w2.alloc (.cells #[.int .i64 r.t, .slice a' r.vs.length c'] 37)).alloc (.cells #[.int .i64 r.t, .slice a' r.vs.length c'] 37)) := (bel1 _ _).trans ((bel1 _ _).mono (by simp))
      have hOR5 : OR w5 w.heap.size v' (qs ++ [⟨r, a', c'⟩]) := OR.more (q := ⟨r, a', c'⟩) (w0 := wr) HOW.out.rows (HO2.out.rows.later hb5) hown hgrow (by simpa using hat) hsz (HVL2.out.later hb5) (fun y hy => by have h1 := HA2.out y hy; have h2 := hb5.size; omega)
      have hvals : ∀ q ∈ qs ++ [⟨r, a', c'⟩], OV w5 w.heap.size (.slice q.a q.r.vs.length q.c) q.r.vs := by
        intro q hq
        rcases List.mem_append.1 hq with hq | hq
        · exact ((HO2.out.vals q hq).later hb5).beside hgrow (fun y hy => (HO2.out.rows.apart q hq y hy).2.2)
        · rw [List.mem_singleton.1 hq]
          refine ((HOV.out.base (by omega)).later hb5).beside hgrow (fun y hy e => ?_)
          have h1 := (HA2.out y hy).1
          have h2 := (World.ownsRow.lt HOW.out.rows.own y.block e.symm).2
          omega
      have HOW5 : Hid (OW w5 w.heap.size v' (qs ++ [⟨r, a', c'⟩])) := ⟨hOR5, hvals⟩
      have HB5 : Hid (Below w.heap.size w w5) := (HB2.out.trans (hb5.mono HB2.out.size)).grown hgrow (by simp; have := HB2.out.size; omega) (fun gq hg => (World.ownsRow.lt HO2.out.rows.own gq hg).1)
      obtain ⟨av5, cv5, rfl, -⟩ := hOR5.form
      clear hown hgrow hat hb5 hOR5 hvals
      go_wp2
      go_roundg (gk - 1)
      case measure => omega
      case rel => exact ⟨k + 1, qs ++ [⟨r, a', c'⟩], by omega, by go_num, HOW5.out, by rw [List.map_append, HQS.out, HTK.out]; rfl, HB5.out⟩
    · have hlt' : ¬ (k : Int) < (rs.length : Int) := by omega
      obtain rfl : k = rs.length := by omega
      clear hql
      go_wp2
      go_ret
      exact ⟨_, qs, rfl, HOW.out, by have := HQS.out; rw [List.take_length] at this; exact this, HB.out⟩
end Go.Proofs.YthdbfgnjeolfaaaDoor
