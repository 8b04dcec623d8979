import Derived.Test.YtdbboaebigpkoaaGreatDoorAgJ
import Derived.Deep.LoopGhost
namespace Go.Proofs.YtdbboaebigpkoaaGreatDoor
open Go.RowKit
set_option linter.unusedVariables false
set_option linter.unusedSimpArgs false
set_option maxRecDepth 100000

theorem infoT : (Tryz.prog.info? 46).map (fun i => (i.zero, i.size, i.bytes)) = some (some (.agg #[.int .i64 0, .int .i64 0, .int .i64 0, .string ⟨#[]⟩]), 4, 40) := by kernel_rfl
/-- Values with their times in a row of one's own. -/
def OT (w : World) (B : Nat) (x : Value) (l : List Tm) : Prop := w.ownsRow B 46 4 x l.length (l.flatMap cellsT)
theorem OT.form {w : World} {B : Nat} {x : Value} {l : List Tm} (h : OT w B x l) : ∃ a c, x = .slice a l.length c ∧ TLies w a l := by
  rcases h.2 with ⟨h1, h2⟩ | ⟨g, c, cur, h1, h2, h3, -⟩
  · refine ⟨none, 0, by rw [h1, h2], fun i hi => absurd hi (by omega)⟩
  · refine ⟨some ⟨g, 0, none⟩, c, h1, fun i hi => ?_⟩
    rw [h1] at h
    have key : ∀ j, j < 4 → w.cell? ⟨g, i * 4 + j, none⟩ = (cellsT l[i])[j]? := fun j hj => by
      rw [World.ownsRow.cellAt h (i * 4 + j) (by omega), flat_at cellsT 4 (fun _ => rfl) l i j hi hj]
    exact ⟨g, 0, rfl, by rw [Nat.zero_add]; exact key 0 (by decide), by rw [Nat.zero_add]; exact key 1 (by decide), by rw [Nat.zero_add]; exact key 2 (by decide), by rw [Nat.zero_add]; exact key 3 (by decide)⟩
theorem OT.later {w w' : World} {B : Nat} {x : Value} {l : List Tm} (h : OT w B x l) (hb : Below w.heap.size w w') : OT w' B x l := own_later h hb
theorem one_cellsT (o : Tm) : ∀ u ∈ cellsT o, u.oneCell' = true := by intro u hu; simp [cellsT] at hu; rcases hu with rfl | rfl | rfl | rfl <;> rfl
theorem OT.more {w : World} {B : Nat} {x : Value} {l : List Tm} {o : Tm} (h : w.ownsRow B 46 4 x (l.length + 1) (l.flatMap cellsT ++ cellsT o)) : OT w B x (l ++ [o]) := by
  unfold OT
  rw [List.length_append, List.flatMap_append]
  simpa using h

set_option maxHeartbeats 2000000 in
theorem refFold_1 (kind : Int) (l : List Tm) (a : Option Addr) (c : Nat) (w : World) (hl : TLies w a l) (hg : l.length ≤ 3518437208781 ∧ ∀ o ∈ l, Fits o.v) (hk : kind = 1) :
    Calls Tryz.prog 7 #[.int .i64 kind, .slice a l.length c] w fun e w' => e = .returned (vv (foldV kind l)) ∧ Below w.heap.size w w' := by
  obtain ⟨i0, hi0, hz0, hz1, hz2⟩ := info_parts infoT
  have HL : Hid (TLies w a l) := hl
  have HG : Hid (∀ o ∈ l, Fits o.v) := hg.2
  have hm := hg.1
  clear hl hg
  subst hk
  unfold vv
  go_enter Tryz.func7, Tryz.ntmps7
  go_wp2_with fail
  go_loopg [5, 6] l.length (fun gk x i wr => ∃ k : Nat, gk + k = l.length ∧ i = .int .i64 k ∧ OT wr (w.heap.size + 1) x (nn (l.take k)) ∧ Own wr w.heap.size 25 3 [.int .i64 0, .int .i64 0, .string ⟨#[]⟩] ∧ Below w.heap.size w wr)
  case atStart => exact ⟨0, by omega, rfl, World.ownsRow_nil _ _ _ _, Own.new _ _ _ _ rfl, bel1 _ _⟩
  case round =>
    obtain ⟨k, hgk, rfl, hO, hR, hb⟩ := hrel
    obtain ⟨ax, cx, rfl, hT⟩ := hO.form
    have HO := hidMk hO
    have HR := hidMk hR
    have HB := hidMk hb
    have HT := hidMk hT
    have hsz := hb.size
    have hlr := hR.lt
    have hnl : (nn (l.take k)).length ≤ k := Nat.le_trans (List.length_filter_le _ _) (by rw [List.length_take]; omega)
    clear hO hR hb hT
    by_cases hlt : k < l.length
    · clear HT
      obtain ⟨b, off, rfl, e0, e1, e2, e3⟩ := HL.out k hlt
      replace e0 := cell_later HB.out e0
      replace e1 := cell_later HB.out e1
      replace e2 := cell_later HB.out e2
      replace e3 := cell_later HB.out e3
      have hki : (k : Int) < (l.length : Int) := by omega
      have HN : Hid (nn (l.take (k + 1)) = if l[k].v.k = 0 then nn (l.take k) else nn (l.take k) ++ [l[k]]) := by rw [Hid, List.take_succ_eq_append_getElem hlt, nn_snoc]
      generalize l[k] = o at *
      by_cases ho : o.v.k = 0
      · have ho1 : (o.v.k != 0) = false := by simpa using ho
        have HN2 : Hid (nn (l.take (k + 1)) = nn (l.take k)) := by rw [Hid, HN.out, if_pos ho]
        clear HN ho
        go_wp2
        go_roundg (gk - 1)
        case rel => exact ⟨k + 1, by omega, by go_num, by rw [HN2.out]; exact HO.out, HR.out, HB.out⟩
        case measure => omega
      · have ho1 : (o.v.k != 0) = true := by simpa using ho
        have HN2 : Hid (nn (l.take (k + 1)) = nn (l.take k) ++ [o]) := by rw [Hid, HN.out, if_neg ho]
        clear HN ho
        generalize nn (l.take k) = s at *
        go_wp2_with (at_builtin; refine wpList_append_own_at _ rfl _ _ 22 rfl (w.heap.size + 1) 46 i0 (.agg #[.int .i64 0, .int .i64 0, .int .i64 0, .string ⟨#[]⟩]) 4 40 Tryz.underlying22 hi0 hz0 hz1 hz2 rfl (by decide) _ s.length (s.flatMap cellsT) rfl (HO.out.alloc _) ⟨wr.heap.size, 0, none⟩ 1 1 (cellsT o) rfl rfl (World.news_of_block (cs := #[.int .i64 o.t, .int .i64 o.v.k, .int .i64 o.v.n, .string o.v.s]) (t := 46) (fr := (0, 0)) (heap_alloc_new wr _)) (one_cellsT _) (by unfold maxLen; omega) (by omega) (by simp; omega) ?_)
        intro v' w5 hown hgrow _ hat
        have hne : ∀ kk, Value.ownBlock (.slice ax s.length cx) = some kk → w.heap.size + 1 ≤ kk := fun kk hkk => (World.ownsRow.lt HO.out kk hkk).1
        have HO5 : Hid (OT w5 (w.heap.size + 1) v' (s ++ [o])) := OT.more hown
        have HR5 : Hid (Own w5 w.heap.size 25 3 [.int .i64 0, .int .i64 0, .string ⟨#[]⟩]) := Own.grown (Own.later HR.out (bel1 _ _)) hgrow (fun e => by have := hne _ e.symm; omega)
        have HB5 : Hid (Below w.heap.size w w5) := (HB.out.alloc hsz _).grown hgrow (by simp; omega) (fun j ej => by have := hne _ ej; omega)
        clear hown hgrow hat hne HO HR HB e0 e1 e2 e3
        go_wp2
        go_roundg (gk - 1)
        case rel => exact ⟨k + 1, by omega, by go_num, by rw [HN2.out]; exact HO5.out, HR5.out, HB5.out⟩
        case measure => omega
    · obtain rfl : k = l.length := by omega
      rw [List.take_of_length_le (Nat.le_refl _)] at HO HT hnl
      have hR := HR.out
      have q0 : wr.cell? ⟨w.heap.size, 0, none⟩ = some (.int .i64 0) := by rw [hR.cell 0 (by decide)]; rfl
      have q1 : wr.cell? ⟨w.heap.size, 1, none⟩ = some (.int .i64 0) := by rw [hR.cell 1 (by decide)]; rfl
      have q2 : wr.cell? ⟨w.heap.size, 2, none⟩ = some (.string ⟨#[]⟩) := by rw [hR.cell 2 (by decide)]; rfl
      have qf0 : wr.frozen? ⟨w.heap.size, 0, none⟩ = false := hR.soft 0
      have qf1 : wr.frozen? ⟨w.heap.size, 1, none⟩ = false := hR.soft 1
      have qf2 : wr.frozen? ⟨w.heap.size, 2, none⟩ = false := hR.soft 2
      clear hR
      go_wp2_with fail
      exact bodyPost_ret (v := .agg #[.int .i64 1, .int .i64 l.length, .string ⟨#[]⟩]) (by simp [results, Tryz.results7, go_sem, q0, q1, q2, hlr]; try rfl) rfl ⟨rfl, by first | exact resB HB.out _ _ _ | exact HB.out⟩
end Go.Proofs.YtdbboaebigpkoaaGreatDoor
