import Derived.Test.YtdbboaebigpkoaaGreatDoorAgSp
import Derived.Test.YtdbboaebigpkoaaGreatDoorAgCx
import Derived.Test.YtdbboaebigpkoaaGreatDoorAgKx
import Derived.Test.YtdbboaebigpkoaaGreatDoorAgJ
import Derived.Test.YtdbboaebigpkoaaGreatDoorTldB
import Derived.Test.YtdbboaebigpkoaaGreatDoorAgL
import Derived.Test.YtdbboaebigpkoaaGreatDoorAgN
import Derived.Test.YtdbboaebigpkoaaGreatDoorAgO
import Derived.Deep.Upon
namespace Go.Proofs.YtdbboaebigpkoaaGreatDoor
open Go.RowKit
set_option linter.unusedVariables false
set_option linter.unusedSimpArgs false
set_option maxRecDepth 100000

theorem join_of (HS : SortsV) (kind : Int) (h : 1 ≤ kind ∧ kind ≤ 7) : ∃ I J, IsWay kind I ∧ IsJoin kind I J := by
  have h' : kind = 1 ∨ kind = 2 ∨ (kind = 3 ∨ kind = 4 ∨ kind = 5 ∨ kind = 6) ∨ kind = 7 := by omega
  rcases h' with rfl | rfl | h | rfl
  · exact ⟨_, _, way_cnt, join_cnt⟩
  · exact ⟨_, _, way_sum, join_sum⟩
  · exact ⟨_, _, way_pick kind h, join_pick kind h⟩
  · exact ⟨_, _, way_dst, join_dst HS⟩
set_option maxHeartbeats 2000000 in
theorem carried_bad (kind : Int) (hk : ¬ (1 ≤ kind ∧ kind ≤ 7)) (a : Option Addr) (n c : Nat) (w : World) :
    Calls Tryz.prog 8 #[.int .i64 kind, .slice a n c] w fun e w' => e = .returned (.tuple #[.nilIface, errR]) ∧ Below w.heap.size w w' := by
  have HT := fun W => hidMk (taken_bad kind hk (.slice a n c) W)
  clear hk
  go_enter Tryz.func8, Tryz.ntmps8
  go_wp2_with fail
  refine (HT _).out.mono ?_
  rintro e w1 ⟨rfl, hw1⟩
  subst hw1
  unfold errR
  go_wp2_with fail
  go_ret2
  exact ⟨rfl, Below.refl _ _⟩
set_option maxHeartbeats 2000000 in
theorem split_bad (kind : Int) (hk : ¬ (1 ≤ kind ∧ kind ≤ 7)) (a : Option Addr) (n c : Nat) (b : Option Addr) (n' d : Nat) (w : World) :
    Calls Tryz.prog 4 #[.int .i64 kind, .slice a n c, .slice b n' d] w fun e w' => e = .returned (.tuple #[vv v0, errR]) ∧ Below w.heap.size w w' := by
  have HT := fun W => hidMk (carried_bad kind hk a n c W)
  clear hk
  unfold vv v0
  go_enter Tryz.func4, Tryz.ntmps4
  go_wp2_with fail
  refine (HT _).out.mono ?_
  rintro e w1 ⟨rfl, hb1⟩
  obtain ⟨hO, hB1⟩ := resAt hb1
  have HB1 := hidMk hB1
  have q0 : w1.cell? ⟨w.heap.size, 0, none⟩ = some (.int .i64 0) := by rw [hO.cell 0 (by decide)]; rfl
  have q1 : w1.cell? ⟨w.heap.size, 1, none⟩ = some (.int .i64 0) := by rw [hO.cell 1 (by decide)]; rfl
  have q2 : w1.cell? ⟨w.heap.size, 2, none⟩ = some (.string ⟨#[]⟩) := by rw [hO.cell 2 (by decide)]; rfl
  have qf0 : w1.frozen? ⟨w.heap.size, 0, none⟩ = false := hO.soft 0
  have qf1 : w1.frozen? ⟨w.heap.size, 1, none⟩ = false := hO.soft 1
  have qf2 : w1.frozen? ⟨w.heap.size, 2, none⟩ = false := hO.soft 2
  have hlr := hO.lt
  clear hO hB1 hb1
  unfold errR
  go_wp2_with fail
  exact bodyPost_ret (v := .tuple #[.agg #[.int .i64 0, .int .i64 0, .string ⟨#[]⟩], .iface 30 (.int .i64 4)]) (by simp [results, Tryz.results4, go_sem, q0, q1, q2, hlr]; try rfl) rfl ⟨rfl, by first | exact resB HB1.out _ _ _ | exact HB1.out⟩
/-- What Split gives, of any kind. -/
def SaPost (kind : Int) (l m : List Tm) (w : World) (e : Ending) (w' : World) : Prop := Below w.heap.size w w' ∧
  if (okF kind l && m.all tval) = true then e = .returned (.tuple #[vv (foldV kind (l ++ m)), .nilIface]) else e = .returned (.tuple #[vv v0, errR])
theorem split_all (HS : SortsV) (kind : Int) (l m : List Tm) (a : Option Addr) (c : Nat) (b : Option Addr) (d : Nat) (w : World) (hl : TLies w a l) (hm : TLies w b m) (hf : ∀ o ∈ l, Fits o.v ∧ InN o.t) (hfm : ∀ o ∈ m, Fits o.v ∧ InN o.t) (hll : l.length ≤ 1048576) (hmm : m.length ≤ 1048576) :
    Calls Tryz.prog 4 #[.int .i64 kind, .slice a l.length c, .slice b m.length d] w (SaPost kind l m w) := by
  by_cases hk : 1 ≤ kind ∧ kind ≤ 7
  · obtain ⟨I, J, K, JJ⟩ := join_of HS kind hk
    refine (split_any kind hk I J K JJ l m a c b d w hl ⟨by omega, fun o ho => (hf o ho).1⟩ hm ⟨by omega, fun o ho => (hfm o ho).1⟩ (fun hv => carries_of kind hk l hv hf hll) (fun hv => carries_of kind hk m hv hfm hmm)).mono fun e w' ⟨h1, h2⟩ => ⟨h1, ?_⟩
    have e1 : (okF kind l && m.all tval) = true ↔ (l.all tval = true ∧ m.all tval = true) := by unfold okF; simp [hk.1, hk.2]
    by_cases h : l.all tval = true ∧ m.all tval = true
    · rw [if_pos h] at h2; rw [if_pos (e1.2 h)]; exact h2
    · rw [if_neg h] at h2; rw [if_neg (fun x => h (e1.1 x))]; exact h2
  · refine (split_bad kind hk a l.length c b m.length d w).mono fun e w' ⟨h1, h2⟩ => ⟨h2, ?_⟩
    have e1 : ¬ (okF kind l && m.all tval) = true := by
      unfold okF
      intro h
      simp at h
      exact hk ⟨h.1.1.1, h.1.1.2⟩
    rw [if_neg e1]; exact h1
end Go.Proofs.YtdbboaebigpkoaaGreatDoor
namespace Go.Proofs.YtdbboaebigpkoaaGreatDoor
open Go.RowKit
set_option linter.unusedVariables false
set_option linter.unusedSimpArgs false
set_option maxRecDepth 100000
attribute [local go_sem ↓] neqVal eqlVal
attribute [local go_sem] guardVal
theorem eqB_selfS (k n : Int) (s : ByteArray) : eqB k n s k n s = true := by simp [eqB]

set_option maxHeartbeats 4000000 in
/-- The law, where there is no such way or a value is none. -/
theorem splits_no (HS : SortsV) (kind : Int) (l m : List Tm) (a : Option Addr) (c : Nat) (b : Option Addr) (d : Nat) (w : World) (hl : TLies w a l) (hm : TLies w b m) (hf : ∀ o ∈ l, Fits o.v ∧ InN o.t) (hfm : ∀ o ∈ m, Fits o.v ∧ InN o.t) (hll : l.length ≤ 1048576) (hmm : m.length ≤ 1048576) (hE : Ety w) (hok : (okF kind l && m.all tval) = false) :
    Calls Tryz.prog 3 #[.int .i64 kind, .slice a l.length c, .slice b m.length d] w fun e w' => e = .returned (.bool true) ∧ Below w.heap.size w w' := by
  have HF : Hid (∀ W, Below w.heap.size w W → Calls Tryz.prog 4 #[.int .i64 kind, .slice a l.length c, .slice b m.length d] W (SaPost kind l m W)) := fun W hW => split_all HS kind l m a c b d W (hl.later hW) (hm.later hW) hf hfm hll hmm
  have HV : Hid (∀ W, Below w.heap.size w W → Calls Tryz.prog 6 #[.slice a l.length c] W fun e w' => e = .returned (.bool (l.all tval)) ∧ Below W.heap.size W w') := fun W hW => lvalid_any l a c W (hl.later hW) ⟨by omega, fun o ho => (hf o ho).1⟩
  have HVm : Hid (∀ W, Below w.heap.size w W → Calls Tryz.prog 6 #[.slice b m.length d] W fun e w' => e = .returned (.bool (m.all tval)) ∧ Below W.heap.size W w') := fun W hW => lvalid_any m b d W (hm.later hW) ⟨by omega, fun o ho => (hfm o ho).1⟩
  have HE := hidMk hE
  clear hl hm hf hfm hE
  go_enter Tryz.func3, Tryz.ntmps3
  go_wp2_with fail
  refine (HF.out _ (Below.refl _ _)).mono ?_
  rintro e w1 ⟨hb1, h1⟩
  have HB1 := hidMk hb1
  rw [hok] at h1
  simp only [Bool.false_eq_true, if_false] at h1
  subst h1
  have hE1 : Ety w1 := HE.out.later hb1
  have HE1 := hidMk hE1
  clear hE1 hb1 HF
  have hz : eqB 0 0 ⟨#[]⟩ 0 0 ⟨#[]⟩ = true := eqB_selfS _ _ _
  unfold vv v0 errR
  go_wp2_with fail
  refine (told_errno 4 _ (HE1.out.later (bel1 _ _))).mono ?_
  rintro e w2 ⟨rfl, hb2⟩
  have q0 := cell_later (a := ⟨w1.heap.size, 0, none⟩) hb2 (v := .int .i64 0) (by go_simp)
  have q1 := cell_later (a := ⟨w1.heap.size, 1, none⟩) hb2 (v := .int .i64 0) (by go_simp)
  have q2 := cell_later (a := ⟨w1.heap.size, 2, none⟩) hb2 (v := .string ⟨#[]⟩) (by go_simp)
  have HB2 : Hid (Below w.heap.size w w2) := (HB1.out.alloc HB1.out.size _).trans (hb2.mono (by have := HB1.out.size; simp; omega))
  clear hb2 HB1 HE1
  go_wp2_with fail
  refine (HV.out _ HB2.out).mono ?_
  rintro e w3 ⟨rfl, hb3⟩
  replace q0 := cell_later hb3 q0
  replace q1 := cell_later hb3 q1
  replace q2 := cell_later hb3 q2
  have HB3 : Hid (Below w.heap.size w w3) := HB2.out.trans (hb3.mono HB2.out.size)
  clear hb3 HB2
  go_wp2_with fail
  refine (HVm.out _ HB3.out).mono ?_
  rintro e w4 ⟨rfl, hb4⟩
  replace q0 := cell_later hb4 q0
  replace q1 := cell_later hb4 q1
  replace q2 := cell_later hb4 q2
  have HB4 : Hid (Below w.heap.size w w4) := HB3.out.trans (hb4.mono HB3.out.size)
  have hl4 : w1.heap.size < w4.heap.size := World.block_lt_of_cell? _ _ q0
  clear hb4 HB3
  by_cases k1 : kind < 1
  · have k1' : decide (kind < 1) = true := decide_eq_true k1
    go_wp2_with fail
    go_ret
    exact ⟨rfl, HB4.out⟩
  · have k1' : decide (kind < 1) = false := decide_eq_false k1
    by_cases k2 : 7 < kind
    · have k2' : decide (7 < kind) = true := decide_eq_true k2
      go_wp2_with fail
      go_ret
      exact ⟨rfl, HB4.out⟩
    · have k2' : decide (7 < kind) = false := decide_eq_false k2
      have hv : (l.all tval && m.all tval) = false := by
        unfold okF at hok
        rw [decide_eq_true (show 1 ≤ kind by omega), decide_eq_true (show kind ≤ 7 by omega)] at hok
        simpa using hok
      cases hvl : l.all tval with
      | false =>
        go_wp2_with fail
        go_ret
        exact ⟨rfl, HB4.out⟩
      | true =>
        have hvm : m.all tval = false := by rw [hvl] at hv; simpa using hv
        rw [hvm]
        go_wp2_with fail
        go_ret
        exact ⟨rfl, HB4.out⟩
end Go.Proofs.YtdbboaebigpkoaaGreatDoor
namespace Go.Proofs.YtdbboaebigpkoaaGreatDoor
open Go.RowKit
set_option linter.unusedVariables false
set_option linter.unusedSimpArgs false
set_option maxRecDepth 100000

theorem refFold_anyS (kind : Int) (l : List Tm) (a : Option Addr) (c : Nat) (w : World) (hl : TLies w a l) (hg : l.length ≤ 3518437208781 ∧ ∀ o ∈ l, Fits o.v) (hk : 1 ≤ kind ∧ kind ≤ 7) :
    Calls Tryz.prog 7 #[.int .i64 kind, .slice a l.length c] w fun e w' => e = .returned (vv (foldV kind l)) ∧ Below w.heap.size w w' := by
  by_cases h1 : kind = 1
  · exact refFold_1 kind l a c w hl hg h1
  by_cases h2 : kind = 2
  · exact refFold_2 kind l a c w hl hg h2
  by_cases h7 : kind = 7
  · exact refFold_7 kind l a c w hl hg h7
  exact refFold_p kind l a c w hl hg (by omega)
theorem len_cellsT (l : List Tm) : (l.flatMap cellsT).length = l.length * 4 := by
  induction l with
  | nil => rfl
  | cons x l ih =>
    rw [List.flatMap_cons, List.length_append, ih, List.length_cons]
    show 4 + l.length * 4 = _
    omega
theorem tl_cells {w : World} {ad : Addr} {l : List Tm} (h : TLies w (some ad) l) : ∀ j u, (l.flatMap cellsT)[j]? = some u → w.cell? (ad.add j) = some u := fun j u hu => by
  have hlen := len_cellsT l
  have hj : j < l.length * 4 := by
    rcases Nat.lt_or_ge j (l.length * 4) with h' | h'
    · exact h'
    · rw [List.getElem?_eq_none (by omega)] at hu; cases hu
  have hi : j / 4 < l.length := by omega
  have hr : j % 4 < 4 := by omega
  have hf := flat_at cellsT 4 (fun _ => rfl) l (j / 4) (j % 4) hi hr
  rw [show j / 4 * 4 + j % 4 = j by omega, hu] at hf
  obtain ⟨b, off, e, e0, e1, e2, e3⟩ := h (j / 4) hi
  cases e
  have ea : (⟨b, off, none⟩ : Addr).add j = ⟨b, off + j, none⟩ := by simp [Addr.add]
  rw [ea]
  have h4 : j % 4 = 0 ∨ j % 4 = 1 ∨ j % 4 = 2 ∨ j % 4 = 3 := by omega
  rcases h4 with h' | h' | h' | h'
  · rw [h'] at hf; simp [cellsT] at hf; rw [hf, ← e0]; congr 2; omega
  · rw [h'] at hf; simp [cellsT] at hf; rw [hf, ← e1]; congr 2; omega
  · rw [h'] at hf; simp [cellsT] at hf; rw [hf, ← e2]; congr 2; omega
  · rw [h'] at hf; simp [cellsT] at hf; rw [hf, ← e3]; congr 2; omega
theorem one_flatT (l : List Tm) : ∀ u ∈ l.flatMap cellsT, u.oneCell' = true := fun u hu => by
  obtain ⟨o, ho, h⟩ := List.mem_flatMap.1 hu
  exact one_cellsT o u h
/-- append(s, l...) of values with their times. -/
theorem app_T {w : World} {ops : Array Oper} {rest : List Oper} {o : Oper} {ac : Act} {Q : Exit → Act → World → Prop} (hgd : o.guard = none) (sx x : Operand) (ho : o.op = .call { callee := .builtin .append, args := #[sx, x], argTypes := #[22, 22] })
    (B : Nat) (v : Value) (s l : List Tm) (a : Option Addr) (c : Nat) (hs : ac.eval sx = v) (hown : OT w B v s) (hx : ac.eval x = .slice a l.length c) (hl : TLies w a l) (hm : s.length + l.length ≤ 3518437208781) (hB : B ≤ w.heap.size)
    (h : ∀ v' w', OT w' B v' (s ++ l) → w.grownBy w' v.ownBlock → wpList Tryz.prog ops Q rest (ac.put o.dst v') w') : wpList Tryz.prog ops Q (o :: rest) ac w := by
  obtain ⟨i0, hi0, hz0, hz1, hz2⟩ := info_parts infoT
  cases a with
  | some ad =>
    refine wpList_append_own_at _ hgd sx x 22 ho B 46 i0 (.agg #[.int .i64 0, .int .i64 0, .int .i64 0, .string ⟨#[]⟩]) 4 40 Tryz.underlying22 hi0 hz0 hz1 hz2 rfl (by decide) v s.length (s.flatMap cellsT) hs hown ad l.length c (l.flatMap cellsT) hx (len_cellsT l) (tl_cells hl) (one_flatT l) (by unfold maxLen; omega) (by omega) hB ?_
    intro v' w' h1 h2 _ _
    refine h v' w' ?_ h2
    unfold OT
    rw [List.length_append, List.flatMap_append]
    exact h1
  | none =>
    have hl0 : l = [] := by
      cases l with
      | nil => rfl
      | cons y r => obtain ⟨b, off, e, -⟩ := hl 0 (by simp); cases e
    subst hl0
    obtain ⟨ao, cs, rfl, -⟩ := hown.form
    have hle : s.length ≤ cs := by
      rcases hown.2 with ⟨h1, h2⟩ | ⟨g, cap, cur, h1, h2, h3, h4, -⟩
      · simp at h1; omega
      · simp at h1; omega
    refine wpList_plain hgd fun K hK => ?_
    have hr := run_append_nothing (P := Tryz.prog) w 22 22 o.type 46 i0 Tryz.underlying22 hi0 ao s.length cs hle (.slice none 0 c) (Src.ofNil w Tryz.underlying22 c)
    have hx' : ac.eval x = .slice none 0 c := hx
    unfold Oper.wp execOp
    simp only [ho, resolve, invoke, builtin, Sem.run_bind, Sem.run_pure, Result.andThen_ok, List.map_toArray, List.map_cons, List.map_nil, hs, hx', hr]
    refine hK _ _ (h _ w (by rw [List.append_nil]; exact hown) ⟨rfl, rfl, rfl, Nat.le_refl _, fun _ _ _ => rfl⟩)

attribute [local go_sem ↓] neqVal eqlVal
attribute [local go_sem] guardVal
set_option maxHeartbeats 600000 in
/-- The law, where all fits. -/
theorem splits_yes (HS : SortsV) (kind : Int) (l m : List Tm) (a : Option Addr) (c : Nat) (b : Option Addr) (d : Nat) (w : World) (hl : TLies w a l) (hm : TLies w b m) (hf : ∀ o ∈ l, Fits o.v ∧ InN o.t) (hfm : ∀ o ∈ m, Fits o.v ∧ InN o.t) (hll : l.length ≤ 1048576) (hmm : m.length ≤ 1048576) (hok : (okF kind l && m.all tval) = true) :
    Calls Tryz.prog 3 #[.int .i64 kind, .slice a l.length c, .slice b m.length d] w fun e w' => e = .returned (.bool true) ∧ Below w.heap.size w w' := by
  have HF : Hid (∀ W, Below w.heap.size w W → Calls Tryz.prog 4 #[.int .i64 kind, .slice a l.length c, .slice b m.length d] W (SaPost kind l m W)) := fun W hW => split_all HS kind l m a c b d W (hl.later hW) (hm.later hW) hf hfm hll hmm
  have HV : Hid (∀ W, Below w.heap.size w W → Calls Tryz.prog 6 #[.slice a l.length c] W fun e w' => e = .returned (.bool (l.all tval)) ∧ Below W.heap.size W w') := fun W hW => lvalid_any l a c W (hl.later hW) ⟨by omega, fun o ho => (hf o ho).1⟩
  have HVm : Hid (∀ W, Below w.heap.size w W → Calls Tryz.prog 6 #[.slice b m.length d] W fun e w' => e = .returned (.bool (m.all tval)) ∧ Below W.heap.size W w') := fun W hW => lvalid_any m b d W (hm.later hW) ⟨by omega, fun o ho => (hfm o ho).1⟩
  have hk : ((1 ≤ kind ∧ kind ≤ 7) ∧ l.all tval = true) ∧ m.all tval = true := by
    unfold okF at hok
    simp only [Bool.and_eq_true, decide_eq_true_eq] at hok
    exact hok
  have HR : Hid (∀ W a' c' n, n = (l ++ m).length → TLies W a' (l ++ m) → Calls Tryz.prog 7 #[.int .i64 kind, .slice a' n c'] W fun e w' => e = .returned (.agg #[.int .i64 (foldV kind (l ++ m)).k, .int .i64 (foldV kind (l ++ m)).n, .string (foldV kind (l ++ m)).s]) ∧ Below W.heap.size W w') := fun W a' c' n hn hW => by rw [hn]; exact refFold_anyS kind (l ++ m) a' c' W hW ⟨by rw [List.length_append]; omega, fun o ho => by rcases List.mem_append.1 ho with h | h; exact (hf o h).1; exact (hfm o h).1⟩ hk.1.1
  have HL := hidMk hl
  have HM := hidMk hm
  rw [hk.1.2] at HV
  rw [hk.2] at HVm
  have k1 : decide (kind < 1) = false := decide_eq_false (by omega)
  have k2 : decide (7 < kind) = false := decide_eq_false (by omega)
  clear hl hm hf hfm hk
  go_enter Tryz.func3, Tryz.ntmps3
  go_wp2_with fail
  refine (HF.out _ (Below.refl _ _)).mono ?_
  rintro e w1 ⟨hb1, h1⟩
  have HB1 := hidMk hb1
  rw [hok] at h1
  simp only [if_true] at h1
  subst h1
  clear hb1 HF hok
  generalize foldV kind (l ++ m) = y at *
  unfold vv
  have HQ := hidMk (eqB_selfS y.k y.n y.s)
  go_wp2_with fail
  refine (told_nil _).mono ?_
  rintro e w2 ⟨rfl, hw2⟩
  subst hw2
  go_wp2_with fail
  have HB2 : Hid (Below w.heap.size w (w1.alloc (.cells #[.int .i64 y.k, .int .i64 y.n, .string y.s] 25))) := HB1.out.alloc HB1.out.size _
  refine (HV.out _ HB2.out).mono ?_
  rintro e w3 ⟨rfl, hb3⟩
  have q0 := cell_later (a := ⟨w1.heap.size, 0, none⟩) hb3 (v := .int .i64 y.k) (by go_simp)
  have q1 := cell_later (a := ⟨w1.heap.size, 1, none⟩) hb3 (v := .int .i64 y.n) (by go_simp)
  have q2 := cell_later (a := ⟨w1.heap.size, 2, none⟩) hb3 (v := .string y.s) (by go_simp)
  have HB3 : Hid (Below w.heap.size w w3) := HB2.out.trans (hb3.mono HB2.out.size)
  clear hb3 HB2 HB1
  go_wp2_with fail
  refine (HVm.out _ HB3.out).mono ?_
  rintro e w4 ⟨rfl, hb4⟩
  replace q0 := cell_later hb4 q0
  replace q1 := cell_later hb4 q1
  replace q2 := cell_later hb4 q2
  have HB4 : Hid (Below w.heap.size w w4) := HB3.out.trans (hb4.mono HB3.out.size)
  clear hb4 HB3
  go_wp2_with (at_builtin; refine app_T rfl _ _ rfl w4.heap.size (.slice none 0 0) [] l a c rfl (World.ownsRow_nil _ _ _ _) rfl (HL.out.later HB4.out) (by simp; omega) (Nat.le_refl _) ?_)
  intro v1 w5 hO5 hg5
  have hb5 : Below w4.heap.size w4 w5 := (Below.refl _ _).grown hg5 (Nat.le_refl _) (fun j ej => by cases ej)
  have hs5 := hb5.size
  obtain ⟨a1, c1, rfl, -⟩ := hO5.form
  have HO5 : Hid (OT w5 w4.heap.size (.slice a1 l.length c1) l) := hO5
  have HB5 := hidMk hb5
  clear hO5 hg5 hb5
  go_wp2_with (at_builtin; refine app_T rfl _ _ rfl w4.heap.size (.slice a1 l.length c1) l m b d rfl HO5.out rfl ((HM.out.later HB4.out).later HB5.out) (by omega) hs5 ?_)
  intro v2 w6 hO6 hg6
  have hb6 : Below w4.heap.size w4 w6 := HB5.out.grown hg6 hs5 (fun j ej => (World.ownsRow.lt HO5.out j ej).1)
  obtain ⟨a2, c2, rfl, hT⟩ := hO6.form
  have HT := hidMk hT
  replace q0 := cell_later hb6 q0
  replace q1 := cell_later hb6 q1
  replace q2 := cell_later hb6 q2
  have HB6 : Hid (Below w.heap.size w w6) := HB4.out.trans (hb6.mono HB4.out.size)
  clear hO6 hg6 hb6 hT HO5 HB5
  go_wp2_with fail
  try go_quiet (fail)
  try go_wp2_with fail
  refine (HR.out _ a2 c2 _ (by simp) HT.out).mono ?_
  rintro e w7 ⟨rfl, hb7⟩
  replace q0 := cell_later hb7 q0
  replace q1 := cell_later hb7 q1
  replace q2 := cell_later hb7 q2
  have HB7 : Hid (Below w.heap.size w w7) := HB6.out.trans (hb7.mono HB6.out.size)
  have hl7 : w1.heap.size < w7.heap.size := World.block_lt_of_cell? _ _ q0
  clear hb7 HB6 HT
  go_wp2_with fail
  try go_quiet (fail)
  try go_wp2_with fail
  go_ret
  exact ⟨ret_bool HQ.out, by first | exact HB7.out | exact HB7.out.alloc HB7.out.size _ | exact below_drewN (HB7.out.alloc HB7.out.size _) _ | exact below_drewN HB7.out _⟩
theorem splits_walk (HS : SortsV) (kind : Int) (l m : List Tm) (a : Option Addr) (c : Nat) (b : Option Addr) (d : Nat) (w : World) (hl : TLies w a l) (hm : TLies w b m) (hf : ∀ o ∈ l, Fits o.v ∧ InN o.t) (hfm : ∀ o ∈ m, Fits o.v ∧ InN o.t) (hll : l.length ≤ 1048576) (hmm : m.length ≤ 1048576) (hE : Ety w) :
    Calls Tryz.prog 3 #[.int .i64 kind, .slice a l.length c, .slice b m.length d] w fun e w' => e = .returned (.bool true) ∧ Below w.heap.size w w' := by
  cases hok : (okF kind l && m.all tval) with
  | true => exact splits_yes HS kind l m a c b d w hl hm hf hfm hll hmm hok
  | false => exact splits_no HS kind l m a c b d w hl hm hf hfm hll hmm hE hok
end Go.Proofs.YtdbboaebigpkoaaGreatDoor
