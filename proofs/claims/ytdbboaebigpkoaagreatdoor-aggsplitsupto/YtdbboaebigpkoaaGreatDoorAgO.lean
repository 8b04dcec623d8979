import Derived.Test.YtdbboaebigpkoaaGreatDoorAgK
import Derived.Deep.LoopGhost
namespace Go.Proofs.YtdbboaebigpkoaaGreatDoor
open Go.RowKit
set_option linter.unusedVariables false
set_option linter.unusedSimpArgs false
set_option maxRecDepth 100000

theorem put4b {w : World} {g T : Nat} {x : Tm} (h : Own w g T 4 (cellsT x)) (o : Tm) :
    Own ((((w.setCell ⟨g, 0, none⟩ (.int .i64 o.t)).setCell ⟨g, 1, none⟩ (.int .i64 o.v.k)).setCell ⟨g, 2, none⟩ (.int .i64 o.v.n)).setCell ⟨g, 3, none⟩ (.string o.v.s)) g T 4 (cellsT o)
    ∧ w.grownBy ((((w.setCell ⟨g, 0, none⟩ (.int .i64 o.t)).setCell ⟨g, 1, none⟩ (.int .i64 o.v.k)).setCell ⟨g, 2, none⟩ (.int .i64 o.v.n)).setCell ⟨g, 3, none⟩ (.string o.v.s)) (some g) := by
  have p0 := h.put 0 (.int .i64 o.t)
  have p1 := p0.1.put 1 (.int .i64 o.v.k)
  have p2 := p1.1.put 2 (.int .i64 o.v.n)
  have p3 := p2.1.put 3 (.string o.v.s)
  exact ⟨p3.1, grown_trans (grown_trans (grown_trans p0.2 p1.2) p2.2) p3.2⟩
theorem over_take (kind : Int) (s : List Tm) (k : Nat) (h : k < s.length) (h1 : 1 ≤ k) : over kind (s.take (k + 1)) = overF kind (over kind (s.take k)) s[k] := by
  rw [List.take_succ_eq_append_getElem h]
  cases ht : s.take k with
  | nil =>
    have := congrArg List.length ht
    rw [List.length_take, List.length_nil] at this
    omega
  | cons x r => simp [over, List.foldl_append]
set_option maxHeartbeats 4000000 in
theorem refFold_p (kind : Int) (l : List Tm) (a : Option Addr) (c : Nat) (w : World) (hl : TLies w a l) (hg : l.length ≤ 3518437208781 ∧ ∀ o ∈ l, Fits o.v) (hk : kind = 3 ∨ kind = 4 ∨ kind = 5 ∨ kind = 6) :
    Calls Tryz.prog 7 #[.int .i64 kind, .slice a l.length c] w fun e w' => e = .returned (vv (foldV kind l)) ∧ Below w.heap.size w w' := by
  obtain ⟨i0, hi0, hz0, hz1, hz2⟩ := info_parts infoT
  have HL : Hid (TLies w a l) := hl
  have HG : Hid (∀ o ∈ l, Fits o.v) := hg.2
  have hm := hg.1
  clear hl hg
  have k1 : (kind == 1) = false := by simpa using (show kind ≠ 1 by omega)
  have k2 : (kind == 2) = false := by simpa using (show kind ≠ 2 by omega)
  have k7 : (kind == 7) = false := by simpa using (show kind ≠ 7 by omega)
  have E : Hid (foldV kind l = (over kind (nn l)).v) := by rw [Hid, foldV, if_neg (by omega), if_neg (by omega), if_neg (by omega), pick_over]
  have HK := hidMk hk
  clear hk
  unfold vv
  go_enter Tryz.func7, Tryz.ntmps7
  go_wp2_with fail
  go_loopg [5, 6] l.length (fun gk x i wr => ∃ k : Nat, gk + k = l.length ∧ i = .int .i64 k ∧ OT wr (w.heap.size + 1) x (nn (l.take k)) ∧ Own wr w.heap.size 25 3 [.int .i64 0, .int .i64 0, .string ⟨#[]⟩] ∧ Below w.heap.size w wr)
  case atStart => exact ⟨0, by omega, rfl, World.ownsRow_nil _ _ _ _, Own.new _ _ _ _ rfl, bel1 _ _⟩
  case round =>
    obtain ⟨k, hgk, rfl, hO, hR, hb⟩ := hrel
    obtain ⟨ax, cx, rfl, hT⟩ := hO.form
    have HO := hidMk hO
    have HR := hidMk hR
    have HB := hidMk hb
    have HT := hidMk hT
    have hsz := hb.size
    have hlr := hR.lt
    have hnl : (nn (l.take k)).length ≤ k := Nat.le_trans (List.length_filter_le _ _) (by rw [List.length_take]; omega)
    clear hO hR hb hT
    by_cases hlt : k < l.length
    · clear HT
      obtain ⟨b, off, rfl, e0, e1, e2, e3⟩ := HL.out k hlt
      replace e0 := cell_later HB.out e0
      replace e1 := cell_later HB.out e1
      replace e2 := cell_later HB.out e2
      replace e3 := cell_later HB.out e3
      have hki : (k : Int) < (l.length : Int) := by omega
      have HN : Hid (nn (l.take (k + 1)) = if l[k].v.k = 0 then nn (l.take k) else nn (l.take k) ++ [l[k]]) := by rw [Hid, List.take_succ_eq_append_getElem hlt, nn_snoc]
      generalize l[k] = o at *
      by_cases ho : o.v.k = 0
      · have ho1 : (o.v.k != 0) = false := by simpa using ho
        have HN2 : Hid (nn (l.take (k + 1)) = nn (l.take k)) := by rw [Hid, HN.out, if_pos ho]
        clear HN ho
        go_wp2
        go_roundg (gk - 1)
        case rel => exact ⟨k + 1, by omega, by go_num, by rw [HN2.out]; exact HO.out, HR.out, HB.out⟩
        case measure => omega
      · have ho1 : (o.v.k != 0) = true := by simpa using ho
        have HN2 : Hid (nn (l.take (k + 1)) = nn (l.take k) ++ [o]) := by rw [Hid, HN.out, if_neg ho]
        clear HN ho
        generalize nn (l.take k) = s at *
        go_wp2_with (at_builtin; refine wpList_append_own_at _ rfl _ _ 22 rfl (w.heap.size + 1) 46 i0 (.agg #[.int .i64 0, .int .i64 0, .int .i64 0, .string ⟨#[]⟩]) 4 40 Tryz.underlying22 hi0 hz0 hz1 hz2 rfl (by decide) _ s.length (s.flatMap cellsT) rfl (HO.out.alloc _) ⟨wr.heap.size, 0, none⟩ 1 1 (cellsT o) rfl rfl (World.news_of_block (cs := #[.int .i64 o.t, .int .i64 o.v.k, .int .i64 o.v.n, .string o.v.s]) (t := 46) (fr := (0, 0)) (heap_alloc_new wr _)) (one_cellsT _) (by unfold maxLen; omega) (by omega) (by simp; omega) ?_)
        intro v' w5 hown hgrow _ hat
        have hne : ∀ kk, Value.ownBlock (.slice ax s.length cx) = some kk → w.heap.size + 1 ≤ kk := fun kk hkk => (World.ownsRow.lt HO.out kk hkk).1
        have HO5 : Hid (OT w5 (w.heap.size + 1) v' (s ++ [o])) := OT.more hown
        have HR5 : Hid (Own w5 w.heap.size 25 3 [.int .i64 0, .int .i64 0, .string ⟨#[]⟩]) := Own.grown (Own.later HR.out (bel1 _ _)) hgrow (fun e => by have := hne _ e.symm; omega)
        have HB5 : Hid (Below w.heap.size w w5) := (HB.out.alloc hsz _).grown hgrow (by simp; omega) (fun j ej => by have := hne _ ej; omega)
        clear hown hgrow hat hne HO HR HB e0 e1 e2 e3
        go_wp2
        go_roundg (gk - 1)
        case rel => exact ⟨k + 1, by omega, by go_num, by rw [HN2.out]; exact HO5.out, HR5.out, HB5.out⟩
        case measure => omega
    · obtain rfl : k = l.length := by omega
      have htk : l.take l.length = l := List.take_of_length_le (Nat.le_refl _)
      rw [htk] at HO HT hnl
      try rw [htk]
      clear htk
      have hR := HR.out
      have q0 : wr.cell? ⟨w.heap.size, 0, none⟩ = some (.int .i64 0) := by rw [hR.cell 0 (by decide)]; rfl
      have q1 : wr.cell? ⟨w.heap.size, 1, none⟩ = some (.int .i64 0) := by rw [hR.cell 1 (by decide)]; rfl
      have q2 : wr.cell? ⟨w.heap.size, 2, none⟩ = some (.string ⟨#[]⟩) := by rw [hR.cell 2 (by decide)]; rfl
      have qf0 : wr.frozen? ⟨w.heap.size, 0, none⟩ = false := hR.soft 0
      have qf1 : wr.frozen? ⟨w.heap.size, 1, none⟩ = false := hR.soft 1
      have qf2 : wr.frozen? ⟨w.heap.size, 2, none⟩ = false := hR.soft 2
      clear hR
      generalize nn l = s at *
      clear HL HG
      have hsl : s.length ≤ 3518437208781 := by omega
      by_cases hs0 : s.length = 0
      · obtain rfl := List.eq_nil_of_length_eq_zero hs0
        clear HO HT
        go_wp2_with fail
        exact bodyPost_ret (v := .agg #[.int .i64 0, .int .i64 0, .string ⟨#[]⟩]) (by simp [results, Tryz.results7, go_sem, q0, q1, q2, hlr]; try rfl) rfl ⟨by rw [E.out]; rfl, by first | exact resB HB.out _ _ _ | exact HB.out⟩
      · have hs1 : ((s.length : Int) == 0) = false := by simpa using hs0
        have hsi : (0 : Int) < (s.length : Int) := by omega
        obtain ⟨b, off, rfl, e0, e1, e2, e3⟩ := HT.out 0 (by omega)
        rw [Nat.zero_mul, Nat.add_zero] at e0 e1 e2 e3
        generalize hs00 : s[0] = z at *
        have HZ : Hid (over kind (s.take 1) = z) := by
          rw [Hid, ← hs00]
          cases s with
          | nil => exact absurd rfl hs0
          | cons y r => rfl
        clear hs00
        have HB0 := hidMk HB.out
        go_wp2_with fail
        obtain ⟨W0, hW0⟩ : ∃ W0, W0 = wr := ⟨_, rfl⟩
        subst hW0
        generalize hX : W0.heap.size = X at *
        go_loopw [15] (fun i wk => ∃ k : Nat, 1 ≤ k ∧ k ≤ s.length ∧ i = .int .i64 k ∧ Own wk X 46 4 (cellsT (over kind (s.take k))) ∧ Below X W0 wk) (fun i _ => s.length - (intOf i).toNat)
        case atStart => exact ⟨1, Nat.le_refl _, by omega, rfl, by rw [HZ.out, ← hX]; exact Own.new _ _ _ _ rfl, by rw [← hX]; exact bel1 _ _⟩
        case round =>
          clear e0 e1 e2 e3 q0 q1 q2 qf0 qf1 qf2
          obtain ⟨k, hk1, hk2, rfl, hOx, hbx⟩ := hrel
          have HX := hidMk hOx
          have HBx := hidMk hbx
          have hXl := hOx.lt
          have hbx' : Below W0.heap.size W0 wr := by rw [hX]; exact hbx
          obtain ⟨y, hy⟩ : ∃ y, y = over kind (s.take k) := ⟨_, rfl⟩
          have HY := hidMk hy
          rw [← hy] at hOx
          rw [← hy] at HX
          clear hy
          by_cases hlt2 : k < s.length
          · obtain ⟨b', off', eb, e0, e1, e2, e3⟩ := HT.out k hlt2
            cases eb
            replace e0 := cell_later hbx' e0
            replace e1 := cell_later hbx' e1
            replace e2 := cell_later hbx' e2
            replace e3 := cell_later hbx' e3
            obtain ⟨x0, x1, x2, x3⟩ := cell4 (n := 0) (r := []) (by rw [List.append_nil]; exact hOx)
            have hki : (k : Int) < (s.length : Int) := by omega
            have HS := hidMk (over_take kind s k hlt2 hk1)
            rw [← HY.out] at HS
            generalize s[k] = o at *
            have HBET : Hid (∀ W, Calls Tryz.prog 12 #[.int .i64 kind, .agg #[.int .i64 y.t, .int .i64 y.v.k, .int .i64 y.v.n, .string y.v.s], .agg #[.int .i64 o.t, .int .i64 o.v.k, .int .i64 o.v.n, .string o.v.s]] W fun e w' => e = .returned (.bool (bet kind y o)) ∧ Below W.heap.size W w') := fun W => better_any kind y o W HK.out
            clear hOx hbx hbx' HT
            go_wp2_with fail
            go_region_held3 (fun w' => w'.cell? ⟨X, 0, none⟩ = some (.int .i64 y.t) ∧ w'.cell? ⟨X, 1, none⟩ = some (.int .i64 y.v.k) ∧ w'.cell? ⟨X, 2, none⟩ = some (.int .i64 y.v.n) ∧ w'.cell? ⟨X, 3, none⟩ = some (.string y.v.s)
                ∧ w'.cell? ⟨b, off + k * 4, none⟩ = some (.int .i64 o.t) ∧ w'.cell? ⟨b, off + k * 4 + 1, none⟩ = some (.int .i64 o.v.k) ∧ w'.cell? ⟨b, off + k * 4 + 2, none⟩ = some (.int .i64 o.v.n) ∧ w'.cell? ⟨b, off + k * 4 + 3, none⟩ = some (.string o.v.s))
              (first | go_keep | (go_split_ands; exact ⟨cell_later ‹_› ‹_›, cell_later ‹_› ‹_›, cell_later ‹_› ‹_›, cell_later ‹_› ‹_›, cell_later ‹_› ‹_›, cell_later ‹_› ‹_›, cell_later ‹_› ‹_›, cell_later ‹_› ‹_›⟩))
              (first | (go_at_call 12; refine (HBET.out _).mono ?_; rintro e w2 ⟨rfl, hbb⟩))
            have hb2 : Below wr.heap.size wr w2 := (Below.refl _ wr).drew.trans hbb
            clear hbb
            have hO2 := HX.out.later hb2
            have HX2 := hidMk hO2
            have HB2 : Hid (Below X W0 w2) := HBx.out.trans (hb2.mono (by omega))
            replace e0 := cell_later hb2 e0
            replace e1 := cell_later hb2 e1
            replace e2 := cell_later hb2 e2
            replace e3 := cell_later hb2 e3
            have s0 := hO2.soft 0
            have s1 := hO2.soft 1
            have s2 := hO2.soft 2
            have s3 := hO2.soft 3
            obtain ⟨x0, x1, x2, x3⟩ := cell4 (n := 0) (r := []) (by rw [List.append_nil]; exact hO2)
            have hXl2 := hO2.lt
            clear hO2 hb2 HX HBx
            cases hbt : bet kind y o with
            | true =>
              have HS2 : Hid (over kind (s.take (k + 1)) = o) := by rw [Hid, HS.out, overF, if_pos hbt]
              clear HS HBET
              go_wp2_with fail
              go_roundw
              case rel => exact ⟨k + 1, by omega, by omega, by go_num, by rw [HS2.out]; exact (put4b HX2.out o).1, below_set (below_set (below_set (below_set HB2.out _ (Nat.le_refl _) _) _ (Nat.le_refl _) _) _ (Nat.le_refl _) _) _ (Nat.le_refl _) _⟩
              case measure => simp [intOf]; omega
            | false =>
              have HS2 : Hid (over kind (s.take (k + 1)) = y) := by rw [Hid, HS.out, overF, if_neg (by rw [hbt]; simp)]
              clear HS HBET
              go_wp2_with fail
              go_roundw
              case rel => exact ⟨k + 1, by omega, by omega, by go_num, by rw [HS2.out]; exact HX2.out, HB2.out⟩
              case measure => simp [intOf]; omega
          · obtain rfl : k = s.length := by omega
            have HE : Hid (foldV kind l = y.v) := by rw [Hid, E.out, HY.out, List.take_of_length_le (Nat.le_refl _)]
            obtain ⟨x0, x1, x2, x3⟩ := cell4 (n := 0) (r := []) (by rw [List.append_nil]; exact hOx)
            have hR := HR.out.later hbx'
            have q0 : wr.cell? ⟨w.heap.size, 0, none⟩ = some (.int .i64 0) := by rw [hR.cell 0 (by decide)]; rfl
            have q1 : wr.cell? ⟨w.heap.size, 1, none⟩ = some (.int .i64 0) := by rw [hR.cell 1 (by decide)]; rfl
            have q2 : wr.cell? ⟨w.heap.size, 2, none⟩ = some (.string ⟨#[]⟩) := by rw [hR.cell 2 (by decide)]; rfl
            have qf0 : wr.frozen? ⟨w.heap.size, 0, none⟩ = false := hR.soft 0
            have qf1 : wr.frozen? ⟨w.heap.size, 1, none⟩ = false := hR.soft 1
            have qf2 : wr.frozen? ⟨w.heap.size, 2, none⟩ = false := hR.soft 2
            have hlw := hR.lt
            have HBw : Hid (Below w.heap.size w wr) := HB0.out.trans (hbx'.mono (by omega))
            clear hR hOx hbx hbx' HX HBx
            go_wp2_with fail
            exact bodyPost_ret (v := .agg #[.int .i64 y.v.k, .int .i64 y.v.n, .string y.v.s]) (by simp [results, Tryz.results7, go_sem, q0, q1, q2, hlw]; try rfl) rfl ⟨by rw [HE.out], by first | exact resB HBw.out _ _ _ | exact HBw.out⟩
end Go.Proofs.YtdbboaebigpkoaaGreatDoor
