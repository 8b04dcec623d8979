import Derived.Test.YtdbboaebigpkoaaGreatDoorRdE
namespace Go.Proofs.YtdbboaebigpkoaaGreatDoor.Wr
open Go.RowKit
set_option linter.unusedVariables false
set_option maxRecDepth 100000

/-- A row and where its values lie. -/
structure Q where
  r : Rw
  a : Option Addr
  c : Nat
def cellsR (q : Q) : List Value := [.int .i64 q.r.t, .slice q.a q.r.vs.length q.c]
/-- Rows in a row of one's own; no list of values lies in it. -/
structure OR (w : World) (B : Nat) (x : Value) (qs : List Q) : Prop where
  own : w.ownsRow B 74 2 x qs.length (qs.flatMap cellsR)
  lies : ∀ q ∈ qs, VLies w q.a q.r.vs
  apart : ∀ q ∈ qs, ∀ y, q.a = some y → B ≤ y.block ∧ y.block < w.heap.size ∧ some y.block ≠ x.ownBlock
theorem OR.nil (w : World) (B : Nat) : OR w B (.slice none 0 0) [] := ⟨World.ownsRow_nil _ _ _ _, (fun q hq => by cases hq), (fun q hq => by cases hq)⟩
theorem OR.grown {w w' : World} {B : Nat} {x : Value} {qs : List Q} {r : Option Nat} (h : OR w B x qs) (hg : w.grownBy w' r) (hr : ∀ k, r = some k → k < B) : OR w' B x qs :=
  ⟨own_grown h.own hg fun k hk e => by have h1 := (World.ownsRow.lt h.own k hk).1; have h2 := hr k e.symm; omega,
   fun q hq => (h.lies q hq).grown hg fun y hy e => by have h1 := (h.apart q hq y hy).1; have h2 := hr _ e.symm; omega,
   fun q hq y hy => ⟨(h.apart q hq y hy).1, Nat.lt_of_lt_of_le (h.apart q hq y hy).2.1 hg.size, (h.apart q hq y hy).2.2⟩⟩
theorem OR.later {w w' : World} {B : Nat} {x : Value} {qs : List Q} (h : OR w B x qs) (hb : Below w.heap.size w w') : OR w' B x qs := h.grown (r := none) (grown_below hb) fun k hk => by cases hk
theorem OR.form {w : World} {B : Nat} {x : Value} {qs : List Q} (h : OR w B x qs) : ∃ a c, x = .slice a qs.length c ∧ RLies w a (qs.map (·.r)) := by
  rcases h.own.2 with ⟨h1, h2⟩ | ⟨g, c, cur, h1, h2, h3, -⟩
  · refine ⟨none, 0, by rw [h1, h2], fun i hi => absurd hi (by simp; omega)⟩
  · refine ⟨some ⟨g, 0, none⟩, c, h1, fun i hi => ?_⟩
    have hi' : i < qs.length := by simpa using hi
    have ho := h.own
    rw [h1] at ho
    have key : ∀ j, j < 2 → w.cell? ⟨g, i * 2 + j, none⟩ = (cellsR qs[i])[j]? := fun j hj => by
      rw [World.ownsRow.cellAt ho (i * 2 + j) (by omega), flat_at cellsR 2 (fun _ => rfl) qs i j hi' hj]
    refine ⟨g, 0, qs[i].a, qs[i].c, rfl, ?_, ?_, ?_⟩
    · rw [Nat.zero_add]; simpa [cellsR] using key 0 (by decide)
    · rw [Nat.zero_add]; simpa [cellsR] using key 1 (by decide)
    · simpa using h.lies qs[i] (List.getElem_mem hi')
/-- One row more. -/
theorem OR.more {w0 w w' : World} {B : Nat} {x x' : Value} {qs : List Q} {q : Q} (h : OR w0 B x qs) (h0 : OR w B x qs) (hown : w'.ownsRow B 74 2 x' (qs.length + 1) (qs.flatMap cellsR ++ cellsR q)) (hg : w.grownBy w' x.ownBlock) (hat : x'.ownBlock = x.ownBlock ∨ x'.ownBlock = some w.heap.size)
    (hB : B ≤ w0.heap.size) (hq : VLies w q.a q.r.vs) (hqa : ∀ y, q.a = some y → w0.heap.size ≤ y.block ∧ y.block < w.heap.size) : OR w' B x' (qs ++ [q]) := by
  have hx : ∀ k, x.ownBlock = some k → k < w0.heap.size := fun k hk => (World.ownsRow.lt h.own k hk).2
  have hqx : ∀ y, q.a = some y → some y.block ≠ x.ownBlock := fun y hy e => by have h1 := hx _ e.symm; have h2 := hqa y hy; omega
  refine ⟨?_, fun p hp => ?_, fun p hp y hy => ?_⟩
  · rw [List.length_append, List.flatMap_append]; simpa using hown
  · rcases List.mem_append.1 hp with hp | hp
    · exact (h0.lies p hp).grown hg fun y hy => (h0.apart p hp y hy).2.2
    · rw [List.mem_singleton.1 hp]; exact hq.grown hg hqx
  · rcases List.mem_append.1 hp with hp | hp
    · obtain ⟨h1, h2, h3⟩ := h0.apart p hp y hy
      refine ⟨h1, Nat.lt_of_lt_of_le h2 hg.size, ?_⟩
      rcases hat with e | e
      · rw [e]; exact h3
      · rw [e]; intro e2; have := Option.some.inj e2; omega
    · rw [List.mem_singleton.1 hp] at hy
      obtain ⟨h1, h2⟩ := hqa y hy
      refine ⟨by omega, Nat.lt_of_lt_of_le h2 hg.size, ?_⟩
      rcases hat with e | e
      · rw [e]; exact hqx y hy
      · rw [e]; intro e2; have := Option.some.inj e2; omega

def Fine (r : Rw) : Prop := validR r = true ∧ GoodR r
/-- What reading rows gives. -/
def RowsPost (w : World) (g : Nat) (L : List UInt8) (e : Ending) (w' : World) : Prop := ∃ (a : Option Addr) (n c : Nat) (ok : Bool) (L' : List UInt8), e = .returned (.tuple #[.slice a n c, .bool ok]) ∧ w.grownBy w' (some g) ∧ Rd w' g L' ∧
      (ok = true → ∃ rs : List Rw, rs.length = n ∧ (∀ r ∈ rs, Fine r) ∧ L = encRows rs ++ L' ∧ RLies w' a rs) ∧
      (ok = false → a = none ∧ n = 0 ∧ c = 0 ∧ ∀ (rs : List Rw) s, (∀ r ∈ rs, Fine r) → InI (rs.length : Int) → L ≠ encRows rs ++ s)
theorem encRow_pos (r : Rw) : 0 < (encRow r).length := by unfold encRow; rw [List.length_append]; have := encInt_pos r.t; omega

set_option maxHeartbeats 8000000 in
theorem rows_any (g : Nat) (L : List UInt8) (w : World) (hR : Rd w g L) (hL : L.length ≤ 549755813888) :
    Calls Tryz.prog 36 #[.pointer (some ⟨g, 0, none⟩)] w (RowsPost w g L) := by
  obtain ⟨i0, hi0, hz0, hz1, hz2⟩ := info_parts info55
  have HR : Hid (Rd w g L) := hR
  have hgl := hR.lt
  clear hR
  go_enter Tryz.func36, Tryz.ntmps36
  go_wp2_with fail
  refine (count_any g L w HR.out).mono ?_
  rintro e w1 ⟨m, ok, L1, rfl, hg1, hR1, hl1, hy, hn⟩
  have HG1 : Hid (w.grownBy w1 (some g)) := hg1
  have HR1 : Hid (Rd w1 g L1) := hR1
  have HY := hidMk hy
  have HN := hidMk hn
  have hs1 := hg1.size
  clear hg1 hR1 hy hn HR
  cases ok with
  | false =>
    have FIN : Hid (RowsPost w g L (.returned (.tuple #[.slice none 0 0, .bool false])) w1) := ⟨none, 0, 0, false, L1, rfl, HG1.out, HR1.out, (fun h => by cases h), fun _ => ⟨rfl, rfl, rfl, fun rs s _ hi h => by
      unfold encRows at h
      rw [List.append_assoc] at h
      exact (HN.out rfl).2 rs.length _ hi (by rw [List.length_append]; have := flat_len encRow encRow_pos rs; omega) h⟩⟩
    have hm0 := (HN.out rfl).1
    subst hm0
    go_wp2
    go_ret2
    exact FIN.out
  | true =>
      have HE1 : Hid (L = encInt m ++ L1) := (HY.out rfl).1
      have hmL : m ≤ L1.length := (HY.out rfl).2
      clear HY HN
      have hm63 : (m : Int) ≤ 9223372036854775807 := by omega
      go_wp2
      go_loopw [6, 17] (fun x i w' => ∃ (qs : List Q) (Lj : List UInt8), qs.length ≤ m ∧ i = .int .i64 qs.length ∧ L1 = (qs.map (·.r)).flatMap encRow ++ Lj ∧ (∀ q ∈ qs, Fine q.r) ∧ qs.length + Lj.length ≤ L.length ∧ Rd w' g Lj ∧ OR w' w1.heap.size x qs ∧ w.grownBy w' (some g) ∧ w1.heap.size ≤ w'.heap.size) (fun _ i _ => m - (intOf i).toNat)
      case atStart =>
        exact ⟨[], L1, Nat.zero_le _, rfl, rfl, (fun v hv => by cases hv), by simp; omega, HR1.out, OR.nil _ _, HG1.out, Nat.le_refl _⟩
      case round =>
        obtain ⟨qs, Lj, hqm, rfl, hD, hF, hcnt, hRj, hOR, hGj, hszj⟩ := hrel
        obtain ⟨ax, cx, rfl, hRL⟩ := hOR.form
        have HD : Hid (L1 = (qs.map (·.r)).flatMap encRow ++ Lj) := hD
        have HF : Hid (∀ q ∈ qs, Fine q.r) := hF
        have HRj : Hid (Rd wr g Lj) := hRj
        have HOR : Hid (OR wr w1.heap.size (.slice ax qs.length cx) qs) := hOR
        have HGj : Hid (w.grownBy wr (some g)) := hGj
        have HRL : Hid (RLies wr ax (qs.map (·.r))) := hRL
        clear hD hF hRj hOR hGj hRL HG1 HR1
        by_cases hlt : qs.length < m
        · have hlti : (qs.length : Int) < (m : Int) := by omega
          go_wp2_with fail
          refine (row_any g Lj wr HRj.out (by omega)).mono ?_
          rintro e w3 ⟨r, av, cv, ok, L3, rfl, hg3, hR3, hl3, hy, hn⟩
          have HG3 : Hid (w.grownBy w3 (some g)) := grown_trans HGj.out hg3
          have HR3 : Hid (Rd w3 g L3) := hR3
          have HOR3 : Hid (OR w3 w1.heap.size (.slice ax qs.length cx) qs) := HOR.out.grown hg3 (fun k hk => by cases hk; omega)
          have hs3 := hg3.size
          have HY : Hid (ok = true → validR r = true ∧ GoodR r ∧ Lj = encRow r ++ L3 ∧ VLies w3 av r.vs ∧ ∀ y, av = some y → wr.heap.size ≤ y.block ∧ y.block < w3.heap.size) := hy
          have HN : Hid (ok = false → ∀ r' s, validR r' = true → GoodR r' → Lj ≠ encRow r' ++ s) := hn
          clear hg3 hR3 hy hn HRj HGj HRL
          cases ok with
          | false =>
            have FIN : Hid (∀ w5, w.grownBy w5 (some g) → Rd w5 g L3 → RowsPost w g L (.returned (.tuple #[.slice none 0 0, .bool false])) w5) := fun w5 hg5 hr5 => ⟨none, 0, 0, false, L3, rfl, hg5, hr5, (fun h => by cases h), fun _ => ⟨rfl, rfl, rfl, fun rs s hrs hi h => by
              rw [HE1.out] at h
              unfold encRows at h
              rw [List.append_assoc] at h
              obtain ⟨h3, h4⟩ := encInt_pf h
              rw [HD.out] at h4
              obtain ⟨u, hu, s', h5⟩ := flat_next encRow_PF (qs.map (·.r)) rs Lj s (fun r hr => by obtain ⟨q, hq, rfl⟩ := List.mem_map.1 hr; exact formR_of_valid (HF.out q hq).1) (fun r hr => formR_of_valid (hrs r hr).1) (by simp; omega) h4
              exact HN.out rfl u s' (hrs u hu).1 (hrs u hu).2 h5⟩⟩
            go_wp2
            go_ret2
            exact FIN.out _ (grown_trans HG3.out (grown_below (bel1 _ _))) (HR3.out.later (bel1 _ _))
          | true =>
            have HY3 : Hid (validR r = true ∧ GoodR r ∧ Lj = encRow r ++ L3 ∧ VLies w3 av r.vs ∧ ∀ y, av = some y → wr.heap.size ≤ y.block ∧ y.block < w3.heap.size) := HY.out rfl
            clear HY
            have HE3 : Hid (Lj = encRow r ++ L3) := HY3.out.2.2.1
            have hlen3 : L3.length < Lj.length := by
              have := congrArg List.length HE3.out
              rw [List.length_append] at this
              have h2 := encRow_pos r
              omega
            go_wp2_with (first
              | (at_builtin; refine wpList_append_own_at _ rfl _ _ 69 rfl w1.heap.size 74 i0 (.agg #[.int .i64 0, .slice none 0 0]) 2 32 Tryz.underlying69 hi0 hz0 hz1 hz2 rfl (by decide) _ qs.length (qs.flatMap cellsR) rfl ((World.ownsRow.alloc HOR3.out.own _).alloc _) ⟨w3.heap.size + 1, 0, none⟩ 1 1 (cellsR ⟨r, av, cv⟩) rfl rfl ?c1 ?c2 ?c3 ?c4 ?c5 ?_))
            case c1 =>
              intro j u hj
              match j, hj with
              | 0, hj => simp [cellsR] at hj; subst hj; simp [Addr.add]
              | 1, hj => simp [cellsR] at hj; subst hj; simp [Addr.add]
            case c2 => intro u hu; simp [cellsR] at hu; rcases hu with rfl | rfl <;> rfl
            case c3 => unfold maxLen; omega
            case c4 => omega
            case c5 => simp; omega
            · intro v' w5 hown' hgrow _ hat
              have hne : ∀ k, (Value.slice ax qs.length cx).ownBlock = some k → w1.heap.size ≤ k := fun k hk => (World.ownsRow.lt HOR3.out.own k hk).1
              have hb2 : Below w3.heap.size w3 ((w3.alloc (.cells #[.int .i64 r.t, .slice av r.vs.length cv] 74)).alloc (.cells #[.int .i64 r.t, .slice av r.vs.length cv] 74)) := (bel1 _ _).alloc (by simp) _
              have hg1s : g < w1.heap.size := by omega
              have hRR := (HR3.out.later hb2).grown hgrow (fun k hk => by have := hne k hk; omega)
              have hGG : w.grownBy w5 (some g) := grown_new (grown_trans HG3.out (grown_below hb2)) hgrow (fun k hk => by have := hne k hk; omega)
              have hOR5 : OR w5 w1.heap.size v' (qs ++ [⟨r, av, cv⟩]) := OR.more (q := ⟨r, av, cv⟩) HOR.out (HOR3.out.later hb2) hown' hgrow (by simpa using hat) hszj (HY3.out.2.2.2.1.later hb2) (fun y hy => by have := HY3.out.2.2.2.2 y hy; have h2 := hb2.size; omega)
              have hsz5 := hgrow.size
              have hb2s := hb2.size
              have HW : Hid (∃ (ps : List Q) (Lj : List UInt8), ps.length ≤ m ∧ Value.int .i64 (((qs ++ [(⟨r, av, cv⟩ : Q)]).length : Nat) : Int) = .int .i64 ps.length ∧ L1 = (ps.map (·.r)).flatMap encRow ++ Lj ∧ (∀ q ∈ ps, Fine q.r) ∧ ps.length + Lj.length ≤ L.length ∧ Rd w5 g Lj ∧ OR w5 w1.heap.size v' ps ∧ w.grownBy w5 (some g) ∧ w1.heap.size ≤ w5.heap.size) := by
                refine ⟨qs ++ [⟨r, av, cv⟩], L3, by simp; omega, rfl, ?_, ?_, by simp; omega, hRR, hOR5, hGG, by omega⟩
                · rw [HD.out, HE3.out, List.map_append, List.flatMap_append]; simp
                · intro q hq
                  rcases List.mem_append.1 hq with h | h
                  · exact HF.out q h
                  · rw [List.mem_singleton.1 h]; exact ⟨HY3.out.1, HY3.out.2.1⟩
              clear hown' hgrow hat hne hb2 hRR hGG hOR5 HOR HOR3 HG3 HR3 HD HF HY3 HN HE3
              go_wp2
              go_roundw
              case rel =>
                have := HW.out
                rw [List.length_append] at this
                exact this
              case measure => simp [intOf]; omega
        · have hmv : qs.length = m := by omega
          have FIN : Hid (RowsPost w g L (.returned (.tuple #[.slice ax qs.length cx, .bool true])) wr) := ⟨ax, qs.length, cx, true, Lj, rfl, HGj.out, HRj.out, fun _ => ⟨qs.map (·.r), by simp, fun r hr => by obtain ⟨q, hq, rfl⟩ := List.mem_map.1 hr; exact HF.out q hq, by
            rw [HE1.out, HD.out]
            unfold encRows
            rw [List.length_map, hmv, List.append_assoc], HRL.out⟩, fun h => by cases h⟩
          subst hmv
          go_wp2
          go_ret2
          exact FIN.out

/-- What the program reads of bytes. -/
def TopPost (w : World) (L : List UInt8) (e : Ending) (w' : World) : Prop := ∃ (a : Option Addr) (n c E : Nat), e = .returned (.tuple #[.slice a n c, errV E]) ∧ Below w.heap.size w w' ∧
      ((E = 0 ∧ ∃ rs : List Rw, rs.length = n ∧ (∀ r ∈ rs, Fine r) ∧ L = encRows rs ∧ RLies w' a rs) ∨
       (E = 7 ∧ a = none ∧ n = 0 ∧ c = 0 ∧ ∀ rs : List Rw, (∀ r ∈ rs, Fine r) → InI (rs.length : Int) → L ≠ encRows rs))

set_option maxHeartbeats 4000000 in
theorem wireRows_any (a : Option Addr) (c : Nat) (L : List UInt8) (w : World) (hS : Shows w a c L w.heap.size) (hL : L.length ≤ 549755813888) :
    Calls Tryz.prog 24 #[.slice a L.length c] w (TopPost w L) := by
  have HR : Hid (Rd (w.alloc (.cells #[.slice a L.length c] 113)) w.heap.size L) := ⟨a, c, Own.new w 113 1 #[.slice a L.length c] rfl, hS.grown (r := none) (grown_below (bel1 _ _)) (fun k hk => by cases hk)⟩
  clear hS
  go_enter Tryz.func24, Tryz.ntmps24
  go_wp2_with fail
  refine (rows_any w.heap.size L _ HR.out hL).mono ?_
  rintro e w1 ⟨a', n, c', ok, L1, rfl, hg1, hR1, hy, hn⟩
  have HB1 : Hid (Below w.heap.size w w1) := (bel1 w _).grown hg1 (by simp) (fun k hk => by cases hk; exact Nat.le_refl _)
  have HEN : Hid (∀ W, Below w1.heap.size w1 W → Calls Tryz.prog 37 #[.pointer (some ⟨w.heap.size, 0, none⟩)] W fun e w' => e = .returned (.bool ((L1.length : Int) == 0)) ∧ w' = W) := fun W hW => ended_any w.heap.size L1 W (hR1.later hW)
  have HY : Hid (ok = true → ∃ rs : List Rw, rs.length = n ∧ (∀ r ∈ rs, Fine r) ∧ L = encRows rs ++ L1 ∧ RLies w1 a' rs) := hy
  have HN : Hid (ok = false → a' = none ∧ n = 0 ∧ c' = 0 ∧ ∀ (rs : List Rw) s, (∀ r ∈ rs, Fine r) → InI (rs.length : Int) → L ≠ encRows rs ++ s) := hn
  clear hg1 hR1 hy hn HR
  cases ok with
  | false =>
    have FIN : Hid (TopPost w L (.returned (.tuple #[.slice none 0 0, .iface 30 (.int .i64 7)])) w1) := ⟨none, 0, 0, 7, rfl, HB1.out, .inr ⟨rfl, rfl, rfl, rfl, fun rs h1 h2 h => (HN.out rfl).2.2.2 rs [] h1 h2 (by rw [List.append_nil]; exact h)⟩⟩
    go_wp2
    go_ret2
    exact FIN.out
  | true =>
    obtain ⟨rs, hrn, hfine, hLe, hRL⟩ := HY.out rfl
    by_cases h0 : L1.length = 0
    · have h0i : ((L1.length : Int) == 0) = true := by simp [h0]
      have FIN : Hid (TopPost w L (.returned (.tuple #[.slice a' n c', .nilIface])) w1) := ⟨a', n, c', 0, rfl, HB1.out, .inl ⟨rfl, rs, hrn, hfine, by rw [hLe, List.eq_nil_of_length_eq_zero h0, List.append_nil], hRL⟩⟩
      clear hfine hLe hRL HY HN hrn
      rw [h0i] at HEN
      go_wp2_with (first | (go_at_call 37; refine (HEN.out _ (Below.refl _ _)).mono ?_; rintro e w2 ⟨rfl, hw2⟩; subst hw2))
      go_ret2
      exact FIN.out
    · have h0i : ((L1.length : Int) == 0) = false := by rw [beq_eq_false_iff_ne]; omega
      have FIN : Hid (TopPost w L (.returned (.tuple #[.slice none 0 0, .iface 30 (.int .i64 7)])) w1) := ⟨none, 0, 0, 7, rfl, HB1.out, .inr ⟨rfl, rfl, rfl, rfl, fun ys h1 h2 h => by
        rw [hLe] at h
        obtain ⟨-, h3⟩ := encRows_pf (r := L1) (s := []) (fun x hx => formR_of_valid (hfine x hx).1) (fun y hy => formR_of_valid (h1 y hy).1) (by rw [List.append_nil]; exact h)
        rw [h3] at h0
        exact h0 rfl⟩⟩
      clear hfine hLe hRL HY HN hrn
      rw [h0i] at HEN
      go_wp2_with (first | (go_at_call 37; refine (HEN.out _ (Below.refl _ _)).mono ?_; rintro e w2 ⟨rfl, hw2⟩; subst hw2))
      go_ret2
      exact FIN.out
end Go.Proofs.YtdbboaebigpkoaaGreatDoor.Wr
