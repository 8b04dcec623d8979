import Derived.Test.YtobhccmnlmlapaaGreatDoorQStR
import Derived.Test.YtobhccmnlmlapaaGreatDoorQPvB
import Derived.Test.YtobhccmnlmlapaaGreatDoorGu
import Derived.Laws.AppendOwnNone
import Derived.Maps.AppendAt
import Derived.Deep.Upon
namespace Go.Proofs.YtobhccmnlmlapaaGreatDoor
open Go.RowKit Go.Maps
set_option linter.unusedVariables false
set_option linter.unusedSimpArgs false
set_option maxRecDepth 100000

theorem spc_any (v : Value) (l : List UInt8) (x : Int) (B : Nat) (w : World) (hown : Wr.OL w B v l) (hB : B ≤ w.heap.size) (h1 : -9223372036854775808 ≤ x) (h2 : x ≤ 9223372036854775807) (hn : l.length ≤ 1099511627776) :
    Calls Tryz.prog 61 #[v, .int .i64 x] w fun e w' => ∃ v', e = .returned v' ∧ Wr.OL w' B v' (l ++ Wr.encInt x) ∧ Below B w w' ∧ Wr.KeepO w w' := by
  have HC := hidMk (Wr.putInt_k v l x B w hown hB h1 h2 hn)
  have HO := hidMk hown
  clear hown
  go_enter Tryz.func61, Tryz.ntmps61
  go_wp2_with fail
  refine HC.out.mono ?_
  rintro e w1 ⟨v', rfl, ho, hb1, hk1⟩
  have H1 := hidMk ho
  have H2 := hidMk hb1
  have H3 := hidMk hk1
  clear ho hb1 hk1
  go_wp2_with fail
  go_ret
  exact ⟨v', rfl, H1.out, H2.out, H3.out⟩
/-- append(s, l...) of bytes. -/
theorem app_B {w : World} {ops : Array Oper} {rest : List Oper} {o : Oper} {ac : Act} {Q : Exit → Act → World → Prop} (hgd : o.guard = none) (sx x : Operand) (ho : o.op = .call { callee := .builtin .append, args := #[sx, x], argTypes := #[39, 39] })
    (B : Nat) (v : Value) (s l : List UInt8) (a : Option Addr) (n c : Nat) (hn : n = l.length) (hs : ac.eval sx = v) (hown : Wr.OL w B v s) (hx : ac.eval x = .slice a n c) (hl : Wr.Bytes w a l.length (Wr.lat l)) (hm : s.length + l.length ≤ 140737488355328) (hB : B ≤ w.heap.size)
    (h : ∀ v' w', Wr.OL w' B v' (s ++ l) → w.grownBy w' v.ownBlock → wpList Tryz.prog ops Q rest (ac.put o.dst v') w') : wpList Tryz.prog ops Q (o :: rest) ac w := by
  obtain ⟨i0, hi0, hz0, hz1, hz2⟩ := info_parts Wr.info5
  subst hn
  cases a with
  | some ad =>
    refine wpList_append_own_at _ hgd sx x 39 ho B 5 i0 (.int .u8 0) 1 1 Tryz.underlying39 hi0 hz0 hz1 hz2 rfl (by decide) v s.length (s.map Wr.u8v) hs hown ad l.length c (l.map Wr.u8v) hx (by simp) (fun j u hu => ?_) (fun u hu => ?_) (by unfold maxLen; omega) (by omega) hB ?_
    · have hj : j < l.length := by have := (List.getElem?_eq_some_iff.1 hu).1; simpa using this
      obtain ⟨b, off, e, hc⟩ := hl j hj
      cases e
      rw [WideShapes.add_plain, hc]
      rw [List.getElem?_map, List.getElem?_eq_getElem hj] at hu
      simp [Wr.lat, hj] at hu ⊢
      exact hu
    · obtain ⟨y, -, rfl⟩ := List.mem_map.1 hu
      rfl
    · intro v' w' h1 h2 _ _
      refine h v' w' ?_ h2
      unfold Wr.OL
      rw [List.length_append, List.map_append]
      exact h1
  | none =>
    have hl0 : l = [] := by
      cases l with
      | nil => rfl
      | cons y l => obtain ⟨b, off, e, _⟩ := hl 0 (by simp); cases e
    subst hl0
    obtain ⟨ao, cs, rfl⟩ := row_form hown
    have hle : s.length ≤ cs := by
      rcases hown.2 with ⟨h1, h2⟩ | ⟨g, cap, cur, h1, h2, h3, h4, -⟩
      · simp at h1; omega
      · simp at h1; omega
    refine wpList_plain hgd fun K hK => ?_
    have hr := run_append_nothing (P := Tryz.prog) w 39 39 o.type 5 i0 Tryz.underlying39 hi0 ao s.length cs hle (.slice none 0 c) (Src.ofNil w Tryz.underlying39 c)
    have hx' : ac.eval x = .slice none 0 c := hx
    unfold Oper.wp execOp
    simp only [ho, resolve, invoke, builtin, Sem.run_bind, Sem.run_pure, Result.andThen_ok, List.map_toArray, List.map_cons, List.map_nil, hs, hx', hr]
    refine hK _ _ (h _ w (by rw [List.append_nil]; exact hown) ⟨rfl, rfl, rfl, Nat.le_refl _, fun _ _ _ => rfl⟩)
theorem run_app_B (w : World) (ty : TypeId) (B : Nat) (v : Value) (s l : List UInt8) (a : Option Addr) (c : Nat) (hown : Wr.OL w B v s) (hl : Wr.Bytes w a l.length (Wr.lat l)) (hm : s.length + l.length ≤ 140737488355328) (hB : B ≤ w.heap.size) :
    ∃ v' w', (Builtin.append_ #[39, 39] ty #[v, .slice a l.length c]).run Tryz.prog w = .ok v' w' ∧ Wr.OL w' B v' (s ++ l) ∧ w.grownBy w' v.ownBlock := by
  obtain ⟨i0, hi0, hz0, hz1, hz2⟩ := info_parts Wr.info5
  cases a with
  | some ad =>
    obtain ⟨v', w', hr, h1, h2, -⟩ := run_append_own_at (P := Tryz.prog) w B 39 ty 5 i0 (.int .u8 0) 1 1 Tryz.underlying39 hi0 hz0 hz1 hz2 rfl (by decide) v s.length (s.map Wr.u8v) hown ad l.length c (l.map Wr.u8v) (by simp) (fun j u hu => by
      have hj : j < l.length := by have := (List.getElem?_eq_some_iff.1 hu).1; simpa using this
      obtain ⟨b, off, e, hc⟩ := hl j hj
      cases e
      rw [WideShapes.add_plain, hc]
      rw [List.getElem?_map, List.getElem?_eq_getElem hj] at hu
      simp [Wr.lat, hj] at hu ⊢
      exact hu) (fun u hu => by
      obtain ⟨y, -, rfl⟩ := List.mem_map.1 hu
      rfl) (by unfold maxLen; omega) (by omega) hB
    refine ⟨v', w', hr, ?_, h2⟩
    unfold Wr.OL
    rw [List.length_append, List.map_append]
    exact h1
  | none =>
    have hl0 : l = [] := by
      cases l with
      | nil => rfl
      | cons y l => obtain ⟨b, off, e, _⟩ := hl 0 (by simp); cases e
    subst hl0
    obtain ⟨ao, cs, rfl⟩ := row_form hown
    have hle : s.length ≤ cs := by
      rcases hown.2 with ⟨h1, h2⟩ | ⟨g, cap, cur, h1, h2, h3, h4, -⟩
      · simp at h1; omega
      · simp at h1; omega
    exact ⟨_, w, run_append_nothing (P := Tryz.prog) w 39 39 ty 5 i0 Tryz.underlying39 hi0 ao s.length cs hle (.slice none 0 c) (Src.ofNil w Tryz.underlying39 c), by rw [List.append_nil]; exact hown, ⟨rfl, rfl, rfl, Nat.le_refl _, fun _ _ _ => rfl⟩⟩
/-- At a step of a region. -/
theorem step_app_B {w : World} {ops : Array Oper} {o : Oper} {ac : Act} {K : Act → World → Prop} {Q : Exit → Act → World → Prop} {E : Prop} (hgd : o.guard = none) (sx x : Operand) (ho : o.op = .call { callee := .builtin .append, args := #[sx, x], argTypes := #[39, 39] })
    (B : Nat) (v : Value) (s l : List UInt8) (a : Option Addr) (n c : Nat) (hn : n = l.length) (hs : ac.eval sx = v) (hown : Wr.OL w B v s) (hx : ac.eval x = .slice a n c) (hl : Wr.Bytes w a l.length (Wr.lat l)) (hm : s.length + l.length ≤ 140737488355328) (hB : B ≤ w.heap.size)
    (h : ∀ v' w', Wr.OL w' B v' (s ++ l) → w.grownBy w' v.ownBlock → K (ac.put o.dst v') w') : if Region.wanted o (yielded ops ac.tmps) = true then Oper.wp Tryz.prog o ac w K Q else E := by
  subst hn
  have hw : Region.wanted o (yielded ops ac.tmps) = true := by simp [Region.wanted, hgd]
  rw [if_pos hw]
  obtain ⟨v', w', hr, h2, h3⟩ := run_app_B w o.type B v s l a c hown hl hm hB
  unfold Oper.wp execOp
  simp only [ho, resolve, invoke, builtin, Sem.run_bind, Sem.run_pure, Result.andThen_ok, List.map_toArray, List.map_cons, List.map_nil, hs, hx, hr]
  exact h v' w' h2 h3
/-- A cell, and where its key and data lie. -/
def CLies (w : World) (x : Cx) : Prop := VLies w x.ka x.c.key ∧ GoodK x.c.key ∧ x.c.key.length ≤ 8 ∧ ∃ a c, x.dv = .slice a x.c.d.length c ∧ Wr.Bytes w a x.c.d.length (Wr.lat x.c.d)
theorem CLies.later {w w' : World} {x : Cx} (h : CLies w x) (hb : Below w.heap.size w w') : CLies w' x := by
  obtain ⟨h1, h2, h3, a, c, h4, h5⟩ := h
  exact ⟨h1.later hb, h2, h3, a, c, h4, h5.later hb⟩
def InI (n : Int) : Prop := -9223372036854775808 ≤ n ∧ n ≤ 9223372036854775807
set_option maxHeartbeats 2000000 in
theorem putCell_any (w0 w : World) (x : Cx) (v : Value) (l : List UInt8) (hx : CLies w0 x) (hb0 : Below w0.heap.size w0 w) (hown : Wr.OL w w0.heap.size v l) (hf : InI x.c.w.f) (ht : InI x.c.w.t) (hlen : l.length + (encCe x.c).length ≤ 549755813888) :
    Calls Tryz.prog 62 #[v, vC x] w fun e w' => ∃ v', e = .returned v' ∧ Wr.OL w' w0.heap.size v' (l ++ encCe x.c) ∧ Below w0.heap.size w w' := by
  obtain ⟨⟨xk, xw, xd⟩, xa, xc, xv⟩ := x
  obtain ⟨h1, h2, h3, da, dc, h4, h5⟩ := hx
  simp only at h1 h2 h3 h4 h5 hf ht hlen
  subst h4
  have hs0 := hb0.size
  have HE : Hid (encCe ⟨xk, xw, xd⟩ = Wr.encInt (xk.length : Int) ++ encKey xk ++ Wr.encInt xw.f ++ Wr.encInt xw.t ++ Wr.encInt (xd.length : Int) ++ xd) := rfl
  have hE : (encCe ⟨xk, xw, xd⟩).length = (Wr.encInt (xk.length : Int)).length + (encKey xk).length + (Wr.encInt xw.f).length + (Wr.encInt xw.t).length + (Wr.encInt (xd.length : Int)).length + xd.length := by rw [HE.out]; simp only [List.length_append]
  have HV := hidMk h1
  have HG := hidMk h2
  have HD := hidMk h5
  have HO := hidMk hown
  have HB0 := hidMk hb0
  have bA : Below w0.heap.size w (w.alloc (.cells #[.slice xa xk.length xc, .int .i64 xw.f, .int .i64 xw.t, .slice da xd.length dc] 55)) := (Below.refl _ _).alloc hs0 _
  have HBA := hidMk bA
  clear h1 h2 h5 hown hb0 bA
  unfold vC
  simp only
  have HOC : Hid (Own (w.alloc (.cells #[.slice xa xk.length xc, .int .i64 xw.f, .int .i64 xw.t, .slice da xd.length dc] 55)) w.heap.size 55 4 [.slice xa xk.length xc, .int .i64 xw.f, .int .i64 xw.t, .slice da xd.length dc]) := Own.new w 55 4 #[.slice xa xk.length xc, .int .i64 xw.f, .int .i64 xw.t, .slice da xd.length dc] rfl
  have hB0 : w0.heap.size ≤ w.heap.size := hs0
  have C1 : Hid (∀ W, Below w0.heap.size w W → Wr.OL W w0.heap.size v l → Calls Tryz.prog 61 #[v, .int .i64 (xk.length : Int)] W fun e w' => ∃ v', e = .returned v' ∧ Wr.OL w' w0.heap.size v' (l ++ Wr.encInt (xk.length : Int)) ∧ Below w0.heap.size W w' ∧ Wr.KeepO W w') := fun W hb ho => spc_any v l (xk.length : Int) w0.heap.size W ho (Nat.le_trans hB0 hb.size) (by omega) (by omega) (by omega)
  have C2 : Hid (∀ W v1, Below w0.heap.size w W → Wr.OL W w0.heap.size v1 (l ++ Wr.encInt (xk.length : Int)) → Calls Tryz.prog 81 #[v1, .slice xa xk.length xc] W fun e w' => ∃ v', e = .returned v' ∧ Wr.OL w' w0.heap.size v' (l ++ Wr.encInt (xk.length : Int) ++ encKey xk) ∧ Below w0.heap.size W w' ∧ Wr.KeepO W w') := fun W v1 hb ho => tput_k w0 W xa xc xk v1 _ HV.out HG.out (by omega) (HB0.out.trans hb) ho (by rw [List.length_append]; omega)
  have hd0 : Below w0.heap.size w (w.alloc (.cells #[.slice xa xk.length xc, .int .i64 xw.f, .int .i64 xw.t, .slice da xd.length dc] 55)).drew := below_drewN HBA.out 1
  have HD0 := hidMk hd0
  have hO0 := HOC.out
  have c0 : (w.alloc (.cells #[.slice xa xk.length xc, .int .i64 xw.f, .int .i64 xw.t, .slice da xd.length dc] 55)).drew.cell? ⟨w.heap.size, 0, none⟩ = some (.slice xa xk.length xc) := hO0.cell 0 (by decide)
  have HOL0 : Hid (Wr.OL (w.alloc (.cells #[.slice xa xk.length xc, .int .i64 xw.f, .int .i64 xw.t, .slice da xd.length dc] 55)).drew w0.heap.size v l) := own_later HO.out (below_drewN (bel1 w _) 1)
  have HOC' : Hid (Own (w.alloc (.cells #[.slice xa xk.length xc, .int .i64 xw.f, .int .i64 xw.t, .slice da xd.length dc] 55)).drew w.heap.size 55 4 [.slice xa xk.length xc, .int .i64 xw.f, .int .i64 xw.t, .slice da xd.length dc]) := hO0
  have hne58 : (55 : Nat) ≠ 5 := by decide
  clear hd0 hO0
  go_enter Tryz.func62, Tryz.ntmps62
  go_wp2_with fail
  go_region_held3 (fun W => W.cell? ⟨w.heap.size, 0, none⟩ = some (.slice xa xk.length xc))
    (first | exact c0 | exact c1 | exact c2 | go_keep)
    (first
      | (go_at_call 61; refine (C1.out _ HD0.out HOL0.out).mono ?_; rintro e w1 ⟨v1, rfl, o1, b1, k1⟩; have hO1 := k1 _ _ _ _ hne58 HOC'.out; have c1 := hO1.cell 0 (by decide); have HK1 := hidMk hO1; have B1 := hidMk (HD0.out.trans b1); have O1 := hidMk o1; clear o1 b1 k1 hO1)
      | (go_at_call 81; refine (C2.out _ v1 B1.out O1.out).mono ?_; rintro e w2 ⟨v2, rfl, o2, b2, k2⟩; have hO2 := k2 _ _ _ _ hne58 HK1.out; have c2 := hO2.cell 0 (by decide); have HK2 := hidMk hO2; have B2 := hidMk (B1.out.trans b2); have O2 := hidMk o2; clear o2 b2 k2 hO2))
  all_goals
    have d1 := HK2.out.cell 1 (by decide)
    have d2 := HK2.out.cell 2 (by decide)
    have d3 := HK2.out.cell 3 (by decide)
    simp only [List.getElem?_cons_succ, List.getElem?_cons_zero] at d1 d2 d3
    go_wp2_with fail
    have L2 : (l ++ Wr.encInt (xk.length : Int) ++ encKey xk).length ≤ 549755813888 := by simp only [List.length_append]; omega
    refine (Wr.putInt_k v2 _ xw.f w0.heap.size w2 O2.out (Nat.le_trans hB0 B2.out.size) hf.1 hf.2 (by omega)).mono ?_
    rintro e w3 ⟨v3, rfl, o3, b3, k3⟩
    have HK3 := hidMk (k3 _ _ _ _ hne58 HK2.out)
    have B3 := hidMk (B2.out.trans b3)
    have O3 := hidMk o3
    clear o3 b3 k3 d1 d2 d3 L2
    have d2 := HK3.out.cell 2 (by decide)
    have d3 := HK3.out.cell 3 (by decide)
    simp only [List.getElem?_cons_succ, List.getElem?_cons_zero] at d2 d3
    go_wp2_with fail
    have L3 : (l ++ Wr.encInt (xk.length : Int) ++ encKey xk ++ Wr.encInt xw.f).length ≤ 549755813888 := by simp only [List.length_append]; omega
    refine (Wr.putInt_k v3 _ xw.t w0.heap.size w3 O3.out (Nat.le_trans hB0 B3.out.size) ht.1 ht.2 (by omega)).mono ?_
    rintro e w4 ⟨v4, rfl, o4, b4, k4⟩
    have HK4 := hidMk (k4 _ _ _ _ hne58 HK3.out)
    have B4 := hidMk (B3.out.trans b4)
    have O4 := hidMk o4
    clear o4 b4 k4 d2 d3 L3
    have L4 : (l ++ Wr.encInt (xk.length : Int) ++ encKey xk ++ Wr.encInt xw.f ++ Wr.encInt xw.t).length ≤ 549755813888 := by simp only [List.length_append]; omega
    have C5 := hidMk (spc_any v4 _ (xd.length : Int) w0.heap.size w4.drew (show Wr.OL w4.drew w0.heap.size v4 _ from O4.out) (Nat.le_trans hB0 B4.out.size) (by omega) (by omega) (by omega))
    have HK4' : Hid (Own w4.drew w.heap.size 55 4 [.slice xa xk.length xc, .int .i64 xw.f, .int .i64 xw.t, .slice da xd.length dc]) := HK4.out
    have e4 : w4.drew.cell? ⟨w.heap.size, 3, none⟩ = some (.slice da xd.length dc) := HK4'.out.cell 3 (by decide)
    have B4d := hidMk (below_drewN B4.out 1)
    have L5 : (l ++ Wr.encInt (xk.length : Int) ++ encKey xk ++ Wr.encInt xw.f ++ Wr.encInt xw.t ++ Wr.encInt (xd.length : Int)).length + xd.length ≤ 549755813888 := by simp only [List.length_append]; omega
    go_wp2_with fail
    go_region_held3 (fun W => W.cell? ⟨w.heap.size, 3, none⟩ = some (.slice da xd.length dc))
      (first | exact e4 | exact e5 | exact e6 | go_keep)
      (first
        | (go_at_call 61; refine C5.out.mono ?_; rintro e w5 ⟨v5, rfl, o5, b5, k5⟩; have hO5 := k5 _ _ _ _ hne58 HK4'.out; have e5 := hO5.cell 3 (by decide); have HK5 := hidMk hO5; have B5 := hidMk (B4d.out.trans b5); have O5 := hidMk o5; clear o5 b5 k5 hO5)
        | (refine step_app_B (by rfl) _ _ (by rfl) w0.heap.size v5 _ xd da xd.length dc rfl (by rfl) O5.out (by rfl) (HD.out.later (HB0.out.trans B5.out)) (by omega) (Nat.le_trans hB0 B5.out.size) ?_; intro v6 w6 o6 g6; have e6 := (Wr.KeepO.grown g6 O5.out _ _ _ _ hne58 HK5.out).cell 3 (by decide)))
    all_goals
      have HF : Hid (Wr.OL w6 w0.heap.size v6 (l ++ encCe ⟨xk, xw, xd⟩) ∧ Below w0.heap.size w w6) := by
        refine ⟨?_, B5.out.grown g6 (Nat.le_trans hB0 B5.out.size) (fun j hj => (World.ownsRow.lt O5.out j hj).1)⟩
        rw [HE.out]
        simpa only [List.append_assoc] using o6
      clear o6 g6 e6
      go_wp2_with fail
      go_ret
      exact ⟨v6, rfl, HF.out.1, HF.out.2⟩
end Go.Proofs.YtobhccmnlmlapaaGreatDoor
namespace Go.Proofs.YtobhccmnlmlapaaGreatDoor
open Go.RowKit Go.Maps
set_option linter.unusedVariables false
set_option linter.unusedSimpArgs false
set_option maxRecDepth 100000

def encC' (q : Cx) : List UInt8 := encCe q.c
theorem body_of (qs : List Cx) : encBody (qs.map (·.c)) = Wr.encInt (qs.length : Int) ++ qs.flatMap encC' := by
  unfold encBody
  rw [List.length_map, List.flatMap_map]
  rfl
theorem oc_cell {w : World} {B g n c : Nat} {qs : List Cx} (h : OC w B (.slice (some ⟨g, 0, none⟩) n c) qs) (i : Nat) (hi : i < qs.length) : w.cell? ⟨g, i * 4, none⟩ = some (.slice qs[i].ka qs[i].c.key.length qs[i].kc) ∧ w.cell? ⟨g, i * 4 + 1, none⟩ = some (.int .i64 qs[i].c.w.f) ∧ w.cell? ⟨g, i * 4 + 2, none⟩ = some (.int .i64 qs[i].c.w.t) ∧ w.cell? ⟨g, i * 4 + 3, none⟩ = some qs[i].dv := by
  have hn : n = qs.length := by
    rcases h.2 with ⟨h1, _⟩ | ⟨g', cap, cur, h1, _⟩
    · cases h1
    · injection h1
  subst hn
  have key : ∀ j, j < 4 → w.cell? ⟨g, i * 4 + j, none⟩ = (cellsC qs[i])[j]? := fun j hj => by
    rw [World.ownsRow.cellAt h (i * 4 + j) (by omega), flat_at cellsC 4 (fun _ => rfl) qs i j hi hj]
  exact ⟨key 0 (by decide), key 1 (by decide), key 2 (by decide), key 3 (by decide)⟩
set_option maxHeartbeats 2000000 in
theorem sealed_any (w : World) (B : Nat) (u : Value) (qs : List Cx) (ho : OC w B u qs) (hq : ∀ q ∈ qs, CLies w q ∧ InI q.c.w.f ∧ InI q.c.w.t) (hlen : (encBody (qs.map (·.c))).length ≤ 134217728) (hqt : Wr.Quart w) (hnl : qs.length ≤ 134217728) :
    Calls Tryz.prog 32 #[u] w fun e w' => ∃ v', e = .returned v' ∧ Wr.OL w' w.heap.size v' (Wr.sealed (encBody (qs.map (·.c)))) ∧ Below w.heap.size w w' := by
  obtain ⟨ca, cc, rfl⟩ := row_form ho
  have HQ := hidMk hq
  have HO := hidMk ho
  have HT := hidMk hqt
  rw [body_of] at hlen ⊢
  rw [List.length_append] at hlen
  have HC := hidMk (spc_any (.slice none 0 0) [] (qs.length : Int) w.heap.size w (World.ownsRow_nil _ _ _ _) (Nat.le_refl _) (by omega) (by omega) (by simp))
  clear ho hq hqt
  go_enter Tryz.func32, Tryz.ntmps32
  go_wp2_with fail
  refine HC.out.mono ?_
  rintro e w1 ⟨v1, rfl, o1, b1, -⟩
  rw [List.nil_append] at o1
  have O1 := hidMk o1
  have B1 := hidMk b1
  clear o1 b1 HC
  go_wp2_with fail
  go_loopw [3, 13] (fun v i w' => ∃ k : Nat, k ≤ qs.length ∧ i = .int .i64 (k : Int) ∧ Wr.OL w' w.heap.size v (Wr.encInt (qs.length : Int) ++ (qs.take k).flatMap encC') ∧ Below w.heap.size w w') (fun _ i _ => qs.length - (intOf i).toNat)
  case atStart => exact ⟨0, Nat.zero_le _, rfl, by simpa using O1.out, B1.out⟩
  case round =>
    obtain ⟨k, hk, rfl, ho, hb⟩ := hrel
    have OK := hidMk ho
    have BK := hidMk hb
    clear ho hb O1 B1
    by_cases hlt : k < qs.length
    · obtain ⟨g, rfl⟩ : ∃ g, ca = some ⟨g, 0, none⟩ := by
        rcases HO.out.2 with ⟨h1, h2⟩ | ⟨g, cap, cur, h1, _⟩
        · omega
        · injection h1 with h1; exact ⟨g, h1⟩
      obtain ⟨e0, e1, e2, e3⟩ := oc_cell HO.out k hlt
      replace e0 := cell_later BK.out e0
      replace e1 := cell_later BK.out e1
      replace e2 := cell_later BK.out e2
      replace e3 := cell_later BK.out e3
      obtain ⟨q1, q2, q3⟩ := HQ.out _ (List.getElem_mem hlt)
      obtain ⟨da, dc, hdv, -⟩ := q1.2.2.2
      rw [hdv] at e3
      have hki : (k : Int) < (qs.length : Int) := by omega
      have hfl := Wr.flat_lt encC' qs k hlt
      have hsz := BK.out.size
      have HPC := hidMk (putCell_any w (wr.alloc (.cells #[.slice qs[k].ka qs[k].c.key.length qs[k].kc, .int .i64 qs[k].c.w.f, .int .i64 qs[k].c.w.t, .slice da qs[k].c.d.length dc] 55)) qs[k] u3 _ q1 (BK.out.alloc hsz _) (OK.out.later (bel1 wr _)) q2 q3 (by rw [List.length_append]; have e : (encC' qs[k]).length = (encCe qs[k].c).length := rfl; omega))
      unfold vC at HPC
      rw [hdv] at HPC
      have HTK : Hid (Wr.encInt (qs.length : Int) ++ (qs.take k).flatMap encC' ++ encCe qs[k].c = Wr.encInt (qs.length : Int) ++ (qs.take (k + 1)).flatMap encC') := by
        rw [Hid, Wr.take_flat encC' qs k hlt, List.append_assoc]; rfl
      have HBA := hidMk (BK.out.alloc hsz (.cells #[.slice qs[k].ka qs[k].c.key.length qs[k].kc, .int .i64 qs[k].c.w.f, .int .i64 qs[k].c.w.t, .slice da qs[k].c.d.length dc] 55))
      generalize qs[k] = q at *
      clear hdv q1 q2 q3
      go_wp2_with fail
      refine HPC.out.mono ?_
      rintro e w5 ⟨v5, rfl, o5, b5⟩
      rw [HTK.out] at o5
      have O5 := hidMk o5
      have B5 := hidMk (HBA.out.trans b5)
      clear o5 b5
      go_wp2_with fail
      go_roundw
      case rel => exact ⟨k + 1, by omega, by go_num, O5.out, B5.out⟩
      case measure => simp [intOf]; omega
    · obtain rfl : k = qs.length := by omega
      have hO := OK.out
      rw [List.take_of_length_le (Nat.le_refl _)] at hO
      have hpos := Wr.encInt_pos (qs.length : Int)
      have hLl : (Wr.encInt (qs.length : Int) ++ qs.flatMap encC').length ≤ 134217728 := by rw [List.length_append]; omega
      have hLp : 0 < (Wr.encInt (qs.length : Int) ++ qs.flatMap encC').length := by rw [List.length_append]; omega
      clear OK hlen hpos HQ HO
      generalize hL : Wr.encInt (qs.length : Int) ++ qs.flatMap encC' = L at *
      have HLE := hidMk hL
      clear hL
      rcases hO.form with ⟨-, h0⟩ | ⟨g, c, hv, hc1, hc2⟩
      · rw [h0] at hLp; simp at hLp
      · rw [hv] at hO
        have hbt := (Wr.OL.bytes hO).2
        have HSL := hidMk (Wr.seal_any g 0 L.length c (Wr.lat L) wr hbt (by omega) (HT.out.later BK.out))
        have hbl : Wr.blist (Wr.lat L) L.length = L := by
          apply List.ext_getElem?
          intro j
          by_cases hj : j < L.length
          · simp [Wr.blist, Wr.lat, hj]
          · rw [List.getElem?_eq_none (by rw [Wr.blist_len]; omega), List.getElem?_eq_none (by omega)]
        rw [hbl] at HSL
        clear hO hbt hbl
        rw [hv]
        clear hv hc1 hc2
        go_wp2_with fail
        refine HSL.out.mono ?_
        rintro e w5 ⟨b5, ⟨hbig, -⟩ | ⟨-, v5, rfl, o5⟩⟩
        · omega
        · have HF : Hid (Wr.OL w5 w.heap.size v5 (Wr.sealed L) ∧ Below w.heap.size w w5) := by
            refine ⟨?_, BK.out.trans (b5.mono BK.out.size)⟩
            refine ⟨o5.1, ?_⟩
            rcases o5.2 with q | ⟨g', cap, cur, q1, q2, q3⟩
            · exact .inl q
            · exact .inr ⟨g', cap, cur, q1, Nat.le_trans BK.out.size q2, q3⟩
          clear o5 b5
          go_wp2_with fail
          go_ret
          exact ⟨v5, rfl, by rw [HLE.out]; exact HF.out.1, HF.out.2⟩
end Go.Proofs.YtobhccmnlmlapaaGreatDoor
