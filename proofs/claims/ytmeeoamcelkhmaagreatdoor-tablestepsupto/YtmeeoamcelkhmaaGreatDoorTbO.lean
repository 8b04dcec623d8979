import Derived.Test.YtmeeoamcelkhmaaGreatDoorTbN
namespace Go.Proofs.YtmeeoamcelkhmaaGreatDoor
open Go.RowKit Go.Maps
set_option linter.unusedVariables false
set_option linter.unusedSimpArgs false
set_option maxRecDepth 100000

theorem own_rlies {w : World} {B : Nat} {v : Value} {qs : List Q} (ho : w.ownsRow B 34 2 v qs.length (qs.flatMap cellsR)) (hl : ∀ q ∈ qs, VLies w q.a q.r.vs) : ∃ a c, v = .slice a qs.length c ∧ RLies w a (qs.map (·.r)) := by
  rcases ho.2 with ⟨h1, h2⟩ | ⟨g, c, cur, h1, h2, h3, -⟩
  · refine ⟨none, 0, by rw [h1, h2], fun i hi => absurd hi (by simp; omega)⟩
  · refine ⟨some ⟨g, 0, none⟩, c, h1, fun i hi => ?_⟩
    have hi' : i < qs.length := by simpa using hi
    rw [h1] at ho
    have key : ∀ j, j < 2 → w.cell? ⟨g, i * 2 + j, none⟩ = (cellsR qs[i])[j]? := fun j hj => by
      rw [World.ownsRow.cellAt ho (i * 2 + j) (by omega), flat_at cellsR 2 (fun _ => rfl) qs i j hi' hj]
    refine ⟨g, 0, qs[i].a, qs[i].c, rfl, ?_, ?_, ?_⟩
    · rw [Nat.zero_add]; (simp only [List.getElem_map]; exact key 0 (by decide))
    · rw [Nat.zero_add]; (simp only [List.getElem_map]; exact key 1 (by decide))
    · simpa using hl qs[i] (List.getElem_mem hi')
/-- A row as it lies in memory. -/
def qAt (w : World) (a : Option Addr) (i : Nat) (r : Rw) : Q :=
  match a with
  | some b => match w.cell? ⟨b.block, b.off + i * 2 + 1, none⟩ with
    | some (.slice av _ cv) => ⟨r, av, cv⟩
    | _ => ⟨r, none, 0⟩
  | none => ⟨r, none, 0⟩
theorem qAt_r (w : World) (a : Option Addr) (i : Nat) (r : Rw) : (qAt w a i r).r = r := by
  unfold qAt
  split
  · split <;> rfl
  · rfl
def qsAt (w : World) (a : Option Addr) (rs : List Rw) : List Q := rs.mapIdx fun i r => qAt w a i r
theorem qsAt_len (w : World) (a : Option Addr) (rs : List Rw) : (qsAt w a rs).length = rs.length := by simp [qsAt]
theorem qsAt_r (w : World) (a : Option Addr) (rs : List Rw) : (qsAt w a rs).map (·.r) = rs := by
  refine List.ext_getElem (by simp [qsAt]) fun i h1 h2 => ?_
  simp [qsAt, qAt_r]
theorem qsAt_lies {w : World} {a : Option Addr} {rs : List Rw} (h : RLies w a rs) : ∀ q ∈ qsAt w a rs, VLies w q.a q.r.vs := fun q hq => by
  obtain ⟨i, hi, rfl⟩ := List.getElem_of_mem hq
  have hi' : i < rs.length := by rw [qsAt_len] at hi; exact hi
  obtain ⟨b, off, av, cv, rfl, h1, h2, h3⟩ := h i hi'
  have e : (qsAt w (some ⟨b, off, none⟩) rs)[i] = ⟨rs[i], av, cv⟩ := by
    simp only [qsAt, List.getElem_mapIdx, qAt, h2]
  rw [e]; exact h3
theorem qsAt_cells {w : World} {b : Addr} {rs : List Rw} (h : RLies w (some b) rs) : ∀ j u, ((qsAt w (some b) rs).flatMap cellsR)[j]? = some u → w.cell? (b.add j) = some u := fun j u hu => by
  have hj := (List.getElem?_eq_some_iff.1 hu).1
  rw [len_cellsR, qsAt_len] at hj
  have hi' : j / 2 < rs.length := by omega
  obtain ⟨b', off, av, cv, eb, h1, h2, h3⟩ := h (j / 2) hi'
  obtain rfl := Option.some.inj eb
  have e : (qsAt w (some ⟨b', off, none⟩) rs)[j / 2]'(by rw [qsAt_len]; exact hi') = ⟨rs[j / 2], av, cv⟩ := by
    simp only [qsAt, List.getElem_mapIdx, qAt, h2]
  have hd : j = j / 2 * 2 + j % 2 := by omega
  rw [WideShapes.add_plain]
  rw [hd, flat_at cellsR 2 (fun _ => rfl) _ (j / 2) (j % 2) (by rw [qsAt_len]; exact hi') (Nat.mod_lt _ (by decide)), e] at hu
  rcases Nat.mod_two_eq_zero_or_one j with q | q
  · rw [q] at hu
    rw [show off + j = off + j / 2 * 2 by omega, h1]
    simpa [cellsR] using hu
  · rw [q] at hu
    rw [show off + j = off + j / 2 * 2 + 1 by omega, h2]
    simpa [cellsR] using hu
theorem wpList_append_rows {w : World} {ops : Array Oper} {rest : List Oper} {o : Oper} {a : Act} {Q' : Exit → Act → World → Prop} (hgd : o.guard = none) (s x : Operand)
    (ho : o.op = .call { callee := .builtin .append, args := #[s, x], argTypes := #[28, 28] })
    (B : Nat) (v : Value) (qs : List Q) (hs : a.eval s = v) (hown : w.ownsRow B 34 2 v qs.length (qs.flatMap cellsR)) (ra : Option Addr) (n rc : Nat) (fq : List Q) (hx : a.eval x = .slice ra n rc) (hn : fq.length = n) (hnil : ra = none → n = 0 ∧ rc = 0) (hnews : ∀ b, ra = some b → ∀ j u, (fq.flatMap cellsR)[j]? = some u → w.cell? (b.add j) = some u) (hl : qs.length + fq.length ≤ 4398046511104) (hB : B ≤ w.heap.size)
    (h : ∀ v' w', w'.ownsRow B 34 2 v' (qs ++ fq).length ((qs ++ fq).flatMap cellsR) → w.grownBy w' v.ownBlock → wpList Tryz.prog ops Q' rest (a.put o.dst v') w') : wpList Tryz.prog ops Q' (o :: rest) a w := by
  obtain ⟨i0, hi0, hz0, hz1, hz2⟩ := info_parts info30
  subst hn
  cases ra with
  | none =>
    obtain ⟨h1, h2⟩ := hnil rfl
    have hfq := List.eq_nil_of_length_eq_zero h1
    subst hfq
    subst h2
    refine wpList_append_own_none hgd s x 28 ho B 34 i0 2 Tryz.underlying28 hi0 v qs.length _ hs hown hx ?_
    refine h v w ?_ (World.grownBy.refl _ _)
    rw [List.append_nil]; exact hown
  | some b =>
    refine wpList_append_own_at _ hgd s x 28 ho B 34 i0 _ 2 32 Tryz.underlying28 hi0 hz0 hz1 hz2 rfl (by decide) v qs.length _ hs hown b fq.length rc (fq.flatMap cellsR) hx (len_cellsR _) (hnews b rfl) (oneCells _) (by unfold maxLen; omega) (by omega) hB ?_
    intro v' w' h1 h2 _ _
    refine h v' w' ?_ h2
    rw [List.length_append, List.flatMap_append]; exact h1
/-- The rows of a sink that are seen. -/
def seenR (cs : List Hp) (nm : ByteArray) : List Rw := cs.flatMap fun h => if h.x.sn = nm then h.rs else []
theorem seenR_take (cs : List Hp) (nm : ByteArray) (j : Nat) (hj : j < cs.length) : seenR (cs.take (j + 1)) nm = seenR (cs.take j) nm ++ if cs[j].x.sn = nm then cs[j].rs else [] := by
  unfold seenR
  rw [List.take_succ_eq_append_getElem hj, List.flatMap_append]
  simp
theorem seenR_le (cs : List Hp) (nm : ByteArray) (j : Nat) : (seenR (cs.take j) nm).length ≤ (seenR cs nm).length := by
  conv => rhs; rw [← List.take_append_drop j cs]
  unfold seenR
  rw [List.flatMap_append, List.length_append]
  omega

set_option maxHeartbeats 2000000 in
theorem seen_any (w : World) (B : Nat) (v : Value) (cs : List Hp) (nm : ByteArray) (h : LH w B v cs) (hn : cs.length ≤ 1099511627776) (hr : ∀ h ∈ cs, RLies w h.ra h.rs ∧ (h.ra = none → h.rs.length = 0 ∧ h.rc = 0) ∧ ∀ r ∈ h.rs, r.vs.length ≤ 4398046511104) (hl : (seenR cs nm).length ≤ 4398046511104) :
    Calls Tryz.prog 13 #[v, .string nm] w (RSPost w (seenR cs nm)) := by
  obtain ⟨a, c, rfl, hcase⟩ := h.form
  have HL := hidMk h
  have HR := hidMk hr
  clear h hr
  go_enter Tryz.func13, Tryz.ntmps13
  go_wp2_with fail
  go_loopg [5, 6] cs.length (fun gk rv i wr => ∃ (j : Nat) (qs : List Q), gk + j = cs.length ∧ i = .int .i64 j ∧ Below w.heap.size w wr ∧ wr.ownsRow w.heap.size 34 2 rv qs.length (qs.flatMap cellsR) ∧ (∀ q ∈ qs, VLies w q.a q.r.vs) ∧ qs.map (·.r) = seenR (cs.take j) nm)
  case atStart => exact ⟨0, [], by omega, rfl, Below.refl _ _, World.ownsRow_nil _ _ _ _, (fun q hq => by cases hq), by simp [seenR]⟩
  case round =>
    obtain ⟨j, qs, hgk, rfl, hbl, hown, hlie, hmap⟩ := hrel
    have HBL := hidMk hbl
    have HOWN := hidMk hown
    have HLIE := hidMk hlie
    have HMAP := hidMk hmap
    obtain ⟨ra0, rc0, rfl⟩ := row_form hown
    by_cases hj : j < cs.length
    · have hj' : (j : Int) < (cs.length : Int) := by omega
      obtain ⟨g, rfl, -⟩ : ∃ g, a = some ⟨g, 0, none⟩ ∧ True := by
        rcases hcase with ⟨h1, -⟩ | ⟨g, h1, -⟩
        · rw [h1] at hj; simp at hj
        · exact ⟨g, h1, trivial⟩
      obtain ⟨-, c1, -, c3⟩ := HL.out.cells j hj
      have c1 := cell_later hbl c1
      have c3 := cell_later hbl c3
      obtain ⟨r1, r2, r3⟩ := HR.out cs[j] (List.getElem_mem hj)
      have hstep := seenR_take cs nm j hj
      have hle := seenR_le cs nm (j + 1)
      by_cases hs : cs[j].x.sn = nm
      · have hb := beq_str hs
        rw [if_pos hs] at hstep
        have hlen : qs.length + (qsAt w cs[j].ra cs[j].rs).length ≤ 4398046511104 := by
          rw [qsAt_len]
          have h1 := congrArg List.length hmap
          have h2 := congrArg List.length hstep
          rw [List.length_map] at h1
          rw [List.length_append] at h2
          omega
        have HNEWS : Hid (∀ b, cs[j].ra = some b → ∀ k u, ((qsAt w cs[j].ra cs[j].rs).flatMap cellsR)[k]? = some u → wr.cell? (b.add k) = some u) := fun b hb => by
          rw [hb] at r1 ⊢
          exact fun k u hu => cell_later HBL.out (qsAt_cells r1 k u hu)
        have hsz := hbl.size
        have HST := hidMk hstep
        have HQL := hidMk (qsAt_len w cs[j].ra cs[j].rs)
        have HR2 := hidMk r2
        have HR1 : Hid (∀ q ∈ qsAt w cs[j].ra cs[j].rs, VLies w q.a q.r.vs) := qsAt_lies r1
        clear hcase hbl hown hlie hmap hstep r1 r2 r3 hle hs
        go_wp2_with (first
          | (at_builtin; refine wpList_append_rows (by rfl) _ _ (by rfl) w.heap.size _ qs (by rfl) HOWN.out _ _ _ (qsAt w cs[j].ra cs[j].rs) (by rfl) HQL.out HR2.out HNEWS.out hlen hsz ?_))
        intro v' w2 h1 h2
        have HB2 : Hid (Below w.heap.size w w2) := HBL.out.grown h2 hsz (fun k ek => (World.ownsRow.lt HOWN.out k ek).1)
        have HO2 : Hid (w2.ownsRow w.heap.size 34 2 v' (qs ++ qsAt w cs[j].ra cs[j].rs).length ((qs ++ qsAt w cs[j].ra cs[j].rs).flatMap cellsR)) := by
          first | exact h1 | (unfold Hid; rw [List.length_append, List.flatMap_append]; exact h1)
        have HM2 : Hid ((qs ++ qsAt w cs[j].ra cs[j].rs).map (·.r) = seenR (cs.take (j + 1)) nm) := by
          unfold Hid; rw [List.map_append, qsAt_r, HMAP.out, HST.out]
        clear h2
        obtain ⟨ra2, rc2, rfl⟩ := row_form h1
        clear h1
        go_wp2_with fail
        go_roundg (gk - 1)
        case measure => omega
        case rel => exact ⟨j + 1, qs ++ qsAt w cs[j].ra cs[j].rs, by omega, by go_num, HB2.out, HO2.out, fun q hq => (List.mem_append.1 hq).elim (HLIE.out q) (HR1.out q), HM2.out⟩
      · have hb := bne_str hs
        rw [if_neg hs, List.append_nil] at hstep
        have HST := hidMk hstep
        clear hcase hbl hown hlie hmap hstep r1 r2 r3 hle hs
        generalize cs[j].x.sn = sj at *
        go_wp2_with fail
        go_roundg (gk - 1)
        case measure => omega
        case rel => exact ⟨j + 1, qs, by omega, by go_num, HBL.out, HOWN.out, HLIE.out, by rw [HMAP.out, HST.out]⟩
    · have hj' : ¬ (j : Int) < (cs.length : Int) := by omega
      have hall : seenR (cs.take j) nm = seenR cs nm := by rw [List.take_of_length_le (by omega)]
      obtain ⟨a', c', ev, hrl⟩ := own_rlies hown (fun q hq => (hlie q hq).later hbl)
      injection ev with e1 _ e2
      subst e1; subst e2
      have hm2 := hmap
      rw [hall] at hm2
      have hlen2 := congrArg List.length hm2
      rw [List.length_map] at hlen2
      rw [hm2] at hrl
      have HS := hidMk (refSorted_any (seenR cs nm) ra0 rc0 wr hrl hl (fun r hr => by
        unfold seenR at hr
        obtain ⟨p, hp, hr⟩ := List.mem_flatMap.1 hr
        split at hr
        · exact (HR.out p hp).2.2 r hr
        · cases hr))
      rw [← hlen2] at HS
      clear hbl hown hlie hmap hm2 hlen2 hrl hall hcase
      go_wp2_with fail
      refine HS.out.mono ?_
      rintro e w2 ⟨a3, c3, ps, rfl, p1, p2, p3, p4⟩
      have HF : Hid (RSPost w (seenR cs nm) (.returned (.slice a3 ps.length c3)) w2) := ⟨a3, c3, ps, rfl, p1, p2, p3, HBL.out.trans (p4.mono HBL.out.size)⟩
      clear p1 p2 p3 p4
      go_wp2_with fail
      go_ret
      exact HF.out
end Go.Proofs.YtmeeoamcelkhmaaGreatDoor
