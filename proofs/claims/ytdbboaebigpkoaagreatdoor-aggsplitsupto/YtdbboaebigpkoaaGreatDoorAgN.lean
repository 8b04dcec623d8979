import Derived.Test.YtdbboaebigpkoaaGreatDoorAgK
import Derived.Deep.LoopGhost
namespace Go.Proofs.YtdbboaebigpkoaaGreatDoor
open Go.RowKit
set_option linter.unusedVariables false
set_option linter.unusedSimpArgs false
set_option maxRecDepth 100000

/-- Is a value among the first ones? -/
def among (s : List Tm) (v : V) : Bool := s.any fun x => eqB x.v.k x.v.n x.v.s v.k v.n v.s
theorem among_iff (s : List Tm) (v : V) : among s v = true ↔ v ∈ s.map (·.v) := by
  unfold among
  rw [List.any_eq_true, List.mem_map]
  exact ⟨fun ⟨x, h1, h2⟩ => ⟨x, h1, (eqV_iff x.v v).1 h2⟩, fun ⟨x, h1, h2⟩ => ⟨x, h1, (eqV_iff x.v v).2 h2⟩⟩
def dsn (s : List Tm) : Nat := (dst (s.map (·.v))).length
theorem dsn_take (s : List Tm) (k : Nat) (h : k < s.length) : dsn (s.take (k + 1)) = if among (s.take k) s[k].v = true then dsn (s.take k) else dsn (s.take k) + 1 := by
  unfold dsn
  rw [List.take_succ_eq_append_getElem h, List.map_append, List.map_cons, List.map_nil, dst_snoc, dstF]
  by_cases hm : s[k].v ∈ (s.take k).map (·.v)
  · rw [if_pos ((any_eqV _ _).2 ((dst_mem _ _).2 hm)), if_pos ((among_iff _ _).2 hm)]
  · rw [if_neg (fun e => hm ((dst_mem _ _).1 ((any_eqV _ _).1 e))), if_neg (fun e => hm ((among_iff _ _).1 e))]
    simp
theorem dsn_le (s : List Tm) : dsn s ≤ s.length := by
  have := dst_len (s.map (·.v))
  simpa [dsn] using this
theorem among_take (s : List Tm) (j : Nat) (h : j < s.length) (v : V) : among (s.take (j + 1)) v = (among (s.take j) v || eqB s[j].v.k s[j].v.n s[j].v.s v.k v.n v.s) := by
  unfold among
  rw [List.take_succ_eq_append_getElem h, List.any_append]; simp
attribute [local go_sem ↓] neqVal eqlVal
attribute [local go_sem] guardVal
set_option maxHeartbeats 8000000 in
theorem refFold_7 (kind : Int) (l : List Tm) (a : Option Addr) (c : Nat) (w : World) (hl : TLies w a l) (hg : l.length ≤ 3518437208781 ∧ ∀ o ∈ l, Fits o.v) (hk : kind = 7) :
    Calls Tryz.prog 7 #[.int .i64 kind, .slice a l.length c] w fun e w' => e = .returned (vv (foldV kind l)) ∧ Below w.heap.size w w' := by
  obtain ⟨i0, hi0, hz0, hz1, hz2⟩ := info_parts infoT
  have HL : Hid (TLies w a l) := hl
  have HG : Hid (∀ o ∈ l, Fits o.v) := hg.2
  have hm := hg.1
  clear hl hg
  subst hk
  have E : Hid (foldV 7 l = ⟨1, dsn (nn l), ⟨#[]⟩⟩) := by rw [Hid]; simp [foldV, dsn]
  unfold vv
  go_enter Tryz.func7, Tryz.ntmps7
  go_wp2_with fail
  go_loopg [5, 6] l.length (fun gk x i wr => ∃ k : Nat, gk + k = l.length ∧ i = .int .i64 k ∧ OT wr (w.heap.size + 1) x (nn (l.take k)) ∧ Own wr w.heap.size 25 3 [.int .i64 0, .int .i64 0, .string ⟨#[]⟩] ∧ Below w.heap.size w wr)
  case atStart => exact ⟨0, by omega, rfl, World.ownsRow_nil _ _ _ _, Own.new _ _ _ _ rfl, bel1 _ _⟩
  case round =>
    obtain ⟨k, hgk, rfl, hO, hR, hb⟩ := hrel
    obtain ⟨ax, cx, rfl, hT⟩ := hO.form
    have HO := hidMk hO
    have HR := hidMk hR
    have HB := hidMk hb
    have HT := hidMk hT
    have hsz := hb.size
    have hlr := hR.lt
    have hnl : (nn (l.take k)).length ≤ k := Nat.le_trans (List.length_filter_le _ _) (by rw [List.length_take]; omega)
    clear hO hR hb hT
    by_cases hlt : k < l.length
    · clear HT
      obtain ⟨b, off, rfl, e0, e1, e2, e3⟩ := HL.out k hlt
      replace e0 := cell_later HB.out e0
      replace e1 := cell_later HB.out e1
      replace e2 := cell_later HB.out e2
      replace e3 := cell_later HB.out e3
      have hki : (k : Int) < (l.length : Int) := by omega
      have HN : Hid (nn (l.take (k + 1)) = if l[k].v.k = 0 then nn (l.take k) else nn (l.take k) ++ [l[k]]) := by rw [Hid, List.take_succ_eq_append_getElem hlt, nn_snoc]
      generalize l[k] = o at *
      by_cases ho : o.v.k = 0
      · have ho1 : (o.v.k != 0) = false := by simpa using ho
        have HN2 : Hid (nn (l.take (k + 1)) = nn (l.take k)) := by rw [Hid, HN.out, if_pos ho]
        clear HN ho
        go_wp2
        go_roundg (gk - 1)
        case rel => exact ⟨k + 1, by omega, by go_num, by rw [HN2.out]; exact HO.out, HR.out, HB.out⟩
        case measure => omega
      · have ho1 : (o.v.k != 0) = true := by simpa using ho
        have HN2 : Hid (nn (l.take (k + 1)) = nn (l.take k) ++ [o]) := by rw [Hid, HN.out, if_neg ho]
        clear HN ho
        generalize nn (l.take k) = s at *
        go_wp2_with (at_builtin; refine wpList_append_own_at _ rfl _ _ 22 rfl (w.heap.size + 1) 46 i0 (.agg #[.int .i64 0, .int .i64 0, .int .i64 0, .string ⟨#[]⟩]) 4 40 Tryz.underlying22 hi0 hz0 hz1 hz2 rfl (by decide) _ s.length (s.flatMap cellsT) rfl (HO.out.alloc _) ⟨wr.heap.size, 0, none⟩ 1 1 (cellsT o) rfl rfl (World.news_of_block (cs := #[.int .i64 o.t, .int .i64 o.v.k, .int .i64 o.v.n, .string o.v.s]) (t := 46) (fr := (0, 0)) (heap_alloc_new wr _)) (one_cellsT _) (by unfold maxLen; omega) (by omega) (by simp; omega) ?_)
        intro v' w5 hown hgrow _ hat
        have hne : ∀ kk, Value.ownBlock (.slice ax s.length cx) = some kk → w.heap.size + 1 ≤ kk := fun kk hkk => (World.ownsRow.lt HO.out kk hkk).1
        have HO5 : Hid (OT w5 (w.heap.size + 1) v' (s ++ [o])) := OT.more hown
        have HR5 : Hid (Own w5 w.heap.size 25 3 [.int .i64 0, .int .i64 0, .string ⟨#[]⟩]) := Own.grown (Own.later HR.out (bel1 _ _)) hgrow (fun e => by have := hne _ e.symm; omega)
        have HB5 : Hid (Below w.heap.size w w5) := (HB.out.alloc hsz _).grown hgrow (by simp; omega) (fun j ej => by have := hne _ ej; omega)
        clear hown hgrow hat hne HO HR HB e0 e1 e2 e3
        go_wp2
        go_roundg (gk - 1)
        case rel => exact ⟨k + 1, by omega, by go_num, by rw [HN2.out]; exact HO5.out, HR5.out, HB5.out⟩
        case measure => omega
    · obtain rfl : k = l.length := by omega
      have htk : l.take l.length = l := List.take_of_length_le (Nat.le_refl _)
      rw [htk] at HO HT hnl
      try rw [htk]
      clear htk
      have hR := HR.out
      have q0 : wr.cell? ⟨w.heap.size, 0, none⟩ = some (.int .i64 0) := by rw [hR.cell 0 (by decide)]; rfl
      have q1 : wr.cell? ⟨w.heap.size, 1, none⟩ = some (.int .i64 0) := by rw [hR.cell 1 (by decide)]; rfl
      have q2 : wr.cell? ⟨w.heap.size, 2, none⟩ = some (.string ⟨#[]⟩) := by rw [hR.cell 2 (by decide)]; rfl
      have qf0 : wr.frozen? ⟨w.heap.size, 0, none⟩ = false := hR.soft 0
      have qf1 : wr.frozen? ⟨w.heap.size, 1, none⟩ = false := hR.soft 1
      have qf2 : wr.frozen? ⟨w.heap.size, 2, none⟩ = false := hR.soft 2
      clear hR
      generalize nn l = s at *
      clear HL HG q0 q1 q2 qf0 qf1 qf2
      have hsl : s.length ≤ 3518437208781 := by omega
      go_wp2_with fail
      obtain ⟨W0, hW0⟩ : ∃ W0, W0 = wr := ⟨_, rfl⟩
      subst hW0
      go_loopg [10, 11] s.length (fun gk n i wk => ∃ k : Nat, gk + k = s.length ∧ i = .int .i64 k ∧ n = .int .i64 (dsn (s.take k)) ∧ Below W0.heap.size W0 wk)
      case atStart => exact ⟨0, by omega, rfl, rfl, Below.refl _ _⟩
      case round =>
        obtain ⟨k, hgk2, rfl, rfl, hbk⟩ := hrel
        have HBk := hidMk hbk
        clear hbk
        by_cases hlt2 : k < s.length
        · obtain ⟨b, off, rfl, -⟩ := HT.out k hlt2
          have hki : (k : Int) < (s.length : Int) := by omega
          have HS := hidMk (dsn_take s k hlt2)
          have hdl : dsn (s.take k) ≤ k := Nat.le_trans (dsn_le _) (by rw [List.length_take]; omega)
          generalize dsn (s.take k) = dk at *
          go_wp2_with fail
          obtain ⟨gko, hgko⟩ : ∃ g, g = gk := ⟨_, rfl⟩
          subst hgko
          go_loopg [12, 13] k (fun gj nw j wj => ∃ (q : Nat), gj + q = k ∧ j = .int .i64 q ∧ nw = .bool (!among (s.take q) s[k].v) ∧ Below W0.heap.size W0 wj)
          case atStart => exact ⟨0, by omega, rfl, rfl, HBk.out⟩
          case round =>
            obtain ⟨q, hgq, rfl, rfl, hbj⟩ := hrel
            have HBj := hidMk hbj
            have hsz2 := hbj.size
            by_cases hlt3 : q < k
            · have hqs : q < s.length := by omega
              have hqi : (q : Int) < (k : Int) := by omega
              have hqi2 : (q : Int) < (s.length : Int) := by omega
              obtain ⟨b', off', eb, e0, e1, e2, e3⟩ := HT.out q hqs
              cases eb
              obtain ⟨b', off', eb, f0, f1, f2, f3⟩ := HT.out k hlt2
              cases eb
              replace e1 := cell_later hbj e1
              replace e2 := cell_later hbj e2
              replace e3 := cell_later hbj e3
              replace f1 := cell_later hbj f1
              replace f2 := cell_later hbj f2
              replace f3 := cell_later hbj f3
              have HA := hidMk (among_take s q hqs s[k].v)
              clear e0 f0 hbj
              generalize s[k] = o at *
              generalize s[q] = p at *
              generalize among (s.take q) o.v = am at *
              cases am with
              | true =>
                simp only [Bool.not_true]
                have HA2 : Hid (among (s.take (q + 1)) o.v = true) := by rw [Hid, HA.out]; rfl
                clear HA
                go_wp2_with fail
                go_quiet (fail)
                go_wp2_with fail
                go_roundg (gk - 1)
                case rel => exact ⟨q + 1, by omega, by go_num, (by rw [HA2.out]; try rfl), below_drewN HBj.out _⟩
                case measure => omega
              | false =>
                simp only [Bool.not_false]
                have HA2 : Hid (among (s.take (q + 1)) o.v = eqB p.v.k p.v.n p.v.s o.v.k o.v.n o.v.s) := by rw [Hid, HA.out]; rfl
                clear HA
                go_wp2_with fail
                go_quiet (fail)
                go_wp2_with fail
                go_roundg (gk - 1)
                case rel => exact ⟨q + 1, by omega, by go_num, (by rw [HA2.out]; try rfl), below_drewN HBj.out _⟩
                case measure => omega
            · obtain rfl : q = k := by omega
              generalize s[q] = o at *
              generalize among (s.take q) o.v = am at *
              clear hbj
              cases am with
              | true =>
                simp only [Bool.not_true]
                have HS2 : Hid (dsn (s.take (q + 1)) = dk) := by rw [Hid, HS.out]; rfl
                clear HS
                go_wp2_with fail
                go_roundg (gko - 1)
                case rel => exact ⟨q + 1, by omega, by go_num, by rw [HS2.out], HBj.out⟩
                case measure => omega
              | false =>
                simp only [Bool.not_false]
                have HS2 : Hid (dsn (s.take (q + 1)) = dk + 1) := by rw [Hid, HS.out]; rfl
                clear HS
                go_wp2_with fail
                go_roundg (gko - 1)
                case rel => exact ⟨q + 1, by omega, by go_num, by rw [HS2.out]; go_num, HBj.out⟩
                case measure => omega
        · obtain rfl : k = s.length := by omega
          have htk : s.take s.length = s := List.take_of_length_le (Nat.le_refl _)
          try rw [htk]
          clear htk
          have hd := dsn_le s
          generalize dsn s = d at *
          have hR := HR.out.later HBk.out
          have q0 : wr.cell? ⟨w.heap.size, 0, none⟩ = some (.int .i64 0) := by rw [hR.cell 0 (by decide)]; rfl
          have q1 : wr.cell? ⟨w.heap.size, 1, none⟩ = some (.int .i64 0) := by rw [hR.cell 1 (by decide)]; rfl
          have q2 : wr.cell? ⟨w.heap.size, 2, none⟩ = some (.string ⟨#[]⟩) := by rw [hR.cell 2 (by decide)]; rfl
          have qf0 : wr.frozen? ⟨w.heap.size, 0, none⟩ = false := hR.soft 0
          have qf1 : wr.frozen? ⟨w.heap.size, 1, none⟩ = false := hR.soft 1
          have qf2 : wr.frozen? ⟨w.heap.size, 2, none⟩ = false := hR.soft 2
          have hlw := hR.lt
          have HBw : Hid (Below w.heap.size w wr) := HB.out.trans (HBk.out.mono hsz)
          have hwd : IntKind.i64.wrap (d : Int) = (d : Int) := wi64 (by omega) (by omega)
          clear hR
          go_wp2_with fail
          exact bodyPost_ret (v := .agg #[.int .i64 1, .int .i64 d, .string ⟨#[]⟩]) (by simp [results, Tryz.results7, go_sem, q0, q1, q2, hlw]; try rfl) rfl ⟨by rw [E.out], by first | exact resB HBw.out _ _ _ | exact HBw.out⟩
end Go.Proofs.YtdbboaebigpkoaaGreatDoor
