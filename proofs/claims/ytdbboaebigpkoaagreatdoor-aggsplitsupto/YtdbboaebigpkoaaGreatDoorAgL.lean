import Derived.Test.YtdbboaebigpkoaaGreatDoorAgK
import Derived.Deep.LoopGhost
namespace Go.Proofs.YtdbboaebigpkoaaGreatDoor
open Go.RowKit
set_option linter.unusedVariables false
set_option linter.unusedSimpArgs false
set_option maxRecDepth 100000

theorem sum_nn (l : List Tm) : sumS l = sumS (nn l) := by
  unfold sumS
  generalize v0 = z
  induction l generalizing z with
  | nil => rfl
  | cons o l ih =>
    by_cases h : o.v.k = 0
    · have e : nn (o :: l) = nn l := by simp [nn, h]
      rw [e, List.foldl_cons, show sumF z o = z by simp [sumF, h], ih]
    · have e : nn (o :: l) = o :: nn l := by simp [nn, h]
      rw [e, List.foldl_cons, List.foldl_cons, ih]
theorem sum_take (l : List Tm) (k : Nat) (h : k < l.length) : sumS (l.take (k + 1)) = sumF (sumS (l.take k)) l[k] := by
  rw [List.take_succ_eq_append_getElem h]; unfold sumS; rw [List.foldl_append]; rfl
set_option maxHeartbeats 4000000 in
theorem refFold_2 (kind : Int) (l : List Tm) (a : Option Addr) (c : Nat) (w : World) (hl : TLies w a l) (hg : l.length ≤ 3518437208781 ∧ ∀ o ∈ l, Fits o.v) (hk : kind = 2) :
    Calls Tryz.prog 7 #[.int .i64 kind, .slice a l.length c] w fun e w' => e = .returned (vv (foldV kind l)) ∧ Below w.heap.size w w' := by
  obtain ⟨i0, hi0, hz0, hz1, hz2⟩ := info_parts infoT
  have HL : Hid (TLies w a l) := hl
  have HG : Hid (∀ o ∈ l, Fits o.v) := hg.2
  have hm := hg.1
  clear hl hg
  subst hk
  have E : Hid (foldV 2 l = sumS (nn l)) := by rw [Hid, ← sum_nn]; simp [foldV]
  unfold vv
  go_enter Tryz.func7, Tryz.ntmps7
  go_wp2_with fail
  go_loopg [5, 6] l.length (fun gk x i wr => ∃ k : Nat, gk + k = l.length ∧ i = .int .i64 k ∧ OT wr (w.heap.size + 1) x (nn (l.take k)) ∧ Own wr w.heap.size 25 3 [.int .i64 0, .int .i64 0, .string ⟨#[]⟩] ∧ Below w.heap.size w wr)
  case atStart => exact ⟨0, by omega, rfl, World.ownsRow_nil _ _ _ _, Own.new _ _ _ _ rfl, bel1 _ _⟩
  case round =>
    obtain ⟨k, hgk, rfl, hO, hR, hb⟩ := hrel
    obtain ⟨ax, cx, rfl, hT⟩ := hO.form
    have HO := hidMk hO
    have HR := hidMk hR
    have HB := hidMk hb
    have HT := hidMk hT
    have hsz := hb.size
    have hlr := hR.lt
    have hnl : (nn (l.take k)).length ≤ k := Nat.le_trans (List.length_filter_le _ _) (by rw [List.length_take]; omega)
    clear hO hR hb hT
    by_cases hlt : k < l.length
    · clear HT
      obtain ⟨b, off, rfl, e0, e1, e2, e3⟩ := HL.out k hlt
      replace e0 := cell_later HB.out e0
      replace e1 := cell_later HB.out e1
      replace e2 := cell_later HB.out e2
      replace e3 := cell_later HB.out e3
      have hki : (k : Int) < (l.length : Int) := by omega
      have HN : Hid (nn (l.take (k + 1)) = if l[k].v.k = 0 then nn (l.take k) else nn (l.take k) ++ [l[k]]) := by rw [Hid, List.take_succ_eq_append_getElem hlt, nn_snoc]
      generalize l[k] = o at *
      by_cases ho : o.v.k = 0
      · have ho1 : (o.v.k != 0) = false := by simpa using ho
        have HN2 : Hid (nn (l.take (k + 1)) = nn (l.take k)) := by rw [Hid, HN.out, if_pos ho]
        clear HN ho
        go_wp2
        go_roundg (gk - 1)
        case rel => exact ⟨k + 1, by omega, by go_num, by rw [HN2.out]; exact HO.out, HR.out, HB.out⟩
        case measure => omega
      · have ho1 : (o.v.k != 0) = true := by simpa using ho
        have HN2 : Hid (nn (l.take (k + 1)) = nn (l.take k) ++ [o]) := by rw [Hid, HN.out, if_neg ho]
        clear HN ho
        generalize nn (l.take k) = s at *
        go_wp2_with (at_builtin; refine wpList_append_own_at _ rfl _ _ 22 rfl (w.heap.size + 1) 46 i0 (.agg #[.int .i64 0, .int .i64 0, .int .i64 0, .string ⟨#[]⟩]) 4 40 Tryz.underlying22 hi0 hz0 hz1 hz2 rfl (by decide) _ s.length (s.flatMap cellsT) rfl (HO.out.alloc _) ⟨wr.heap.size, 0, none⟩ 1 1 (cellsT o) rfl rfl (World.news_of_block (cs := #[.int .i64 o.t, .int .i64 o.v.k, .int .i64 o.v.n, .string o.v.s]) (t := 46) (fr := (0, 0)) (heap_alloc_new wr _)) (one_cellsT _) (by unfold maxLen; omega) (by omega) (by simp; omega) ?_)
        intro v' w5 hown hgrow _ hat
        have hne : ∀ kk, Value.ownBlock (.slice ax s.length cx) = some kk → w.heap.size + 1 ≤ kk := fun kk hkk => (World.ownsRow.lt HO.out kk hkk).1
        have HO5 : Hid (OT w5 (w.heap.size + 1) v' (s ++ [o])) := OT.more hown
        have HR5 : Hid (Own w5 w.heap.size 25 3 [.int .i64 0, .int .i64 0, .string ⟨#[]⟩]) := Own.grown (Own.later HR.out (bel1 _ _)) hgrow (fun e => by have := hne _ e.symm; omega)
        have HB5 : Hid (Below w.heap.size w w5) := (HB.out.alloc hsz _).grown hgrow (by simp; omega) (fun j ej => by have := hne _ ej; omega)
        clear hown hgrow hat hne HO HR HB e0 e1 e2 e3
        go_wp2
        go_roundg (gk - 1)
        case rel => exact ⟨k + 1, by omega, by go_num, by rw [HN2.out]; exact HO5.out, HR5.out, HB5.out⟩
        case measure => omega
    · obtain rfl : k = l.length := by omega
      have htk : l.take l.length = l := List.take_of_length_le (Nat.le_refl _)
      rw [htk] at HO HT hnl
      try rw [htk]
      clear htk
      have hR := HR.out
      have q0 : wr.cell? ⟨w.heap.size, 0, none⟩ = some (.int .i64 0) := by rw [hR.cell 0 (by decide)]; rfl
      have q1 : wr.cell? ⟨w.heap.size, 1, none⟩ = some (.int .i64 0) := by rw [hR.cell 1 (by decide)]; rfl
      have q2 : wr.cell? ⟨w.heap.size, 2, none⟩ = some (.string ⟨#[]⟩) := by rw [hR.cell 2 (by decide)]; rfl
      have qf0 : wr.frozen? ⟨w.heap.size, 0, none⟩ = false := hR.soft 0
      have qf1 : wr.frozen? ⟨w.heap.size, 1, none⟩ = false := hR.soft 1
      have qf2 : wr.frozen? ⟨w.heap.size, 2, none⟩ = false := hR.soft 2
      clear hR
      generalize nn l = s at *
      clear HL HG
      have hsl : s.length ≤ 3518437208781 := by omega
      go_wp2_with fail
      go_loopg [7, 8, 9] s.length (fun gk x n i wk => ∃ (k m : Nat), gk + k = s.length ∧ i = .int .i64 k ∧ n = .int .i64 m ∧ m ≤ k ∧ x = .int .i64 (sumS (s.take k)).n ∧ ((m = 0 ∧ sumS (s.take k) = v0) ∨ (m ≠ 0 ∧ sumS (s.take k) = ⟨1, (sumS (s.take k)).n, ⟨#[]⟩⟩)) ∧ wk = wr)
      case atStart => exact ⟨0, 0, by omega, rfl, rfl, by omega, rfl, .inl ⟨rfl, rfl⟩, rfl⟩
      case round =>
        obtain ⟨k, m, hgk2, rfl, rfl, hmk, rfl, hcase, rfl⟩ := hrel
        have HC := hidMk hcase
        clear hcase
        by_cases hlt2 : k < s.length
        · obtain ⟨b, off, rfl, e0, e1, e2, e3⟩ := HT.out k hlt2
          have hki : (k : Int) < (s.length : Int) := by omega
          have HS := hidMk (sum_take s k hlt2)
          generalize s[k] = o at *
          by_cases ho : o.v.k = 1
          · have ho1 : (o.v.k == 1) = true := by simpa using ho
            have HS2 : Hid (sumS (s.take (k + 1)) = ⟨1, wrap64 ((sumS (s.take k)).n + o.v.n), ⟨#[]⟩⟩) := by rw [Hid, HS.out, sumF, if_pos ho]
            clear HS HC ho
            generalize sumS (s.take k) = y at *
            go_wp2_with fail
            go_roundg (gk - 1)
            case rel => exact ⟨k + 1, m + 1, by omega, by go_num, by go_num, by omega, by rw [HS2.out], .inr ⟨by omega, by rw [HS2.out]⟩, rfl⟩
            case measure => omega
          · have ho1 : (o.v.k == 1) = false := by simpa using ho
            have HS2 : Hid (sumS (s.take (k + 1)) = sumS (s.take k)) := by rw [Hid, HS.out, sumF, if_neg ho]
            clear HS ho
            go_wp2_with fail
            go_roundg (gk - 1)
            case rel => exact ⟨k + 1, m, by omega, by go_num, rfl, by omega, by rw [HS2.out], by rw [HS2.out]; exact HC.out, rfl⟩
            case measure => omega
        · obtain rfl : k = s.length := by omega
          have htk : s.take s.length = s := List.take_of_length_le (Nat.le_refl _)
          rw [htk] at HC
          try rw [htk]
          clear htk
          rcases HC.out with ⟨rfl, h0⟩ | ⟨hm0, h0⟩
          · have H0 := hidMk h0
            clear HC h0
            go_wp2_with fail
            exact bodyPost_ret (v := .agg #[.int .i64 0, .int .i64 0, .string ⟨#[]⟩]) (by simp [results, Tryz.results7, go_sem, q0, q1, q2, hlr]; try rfl) rfl ⟨by rw [E.out, H0.out]; rfl, by first | exact resB HB.out _ _ _ | exact HB.out⟩
          · have H0 := hidMk h0
            clear h0
            have hm1 : ((m : Int) == 0) = false := by simpa using hm0
            clear HC
            generalize (sumS s).n = y at *
            go_wp2_with fail
            exact bodyPost_ret (v := .agg #[.int .i64 1, .int .i64 y, .string ⟨#[]⟩]) (by simp [results, Tryz.results7, go_sem, q0, q1, q2, hlr]; try rfl) rfl ⟨by rw [E.out, H0.out], by first | exact resB HB.out _ _ _ | exact HB.out⟩
end Go.Proofs.YtdbboaebigpkoaaGreatDoor
