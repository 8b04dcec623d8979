import Derived.Test.YtojfhlhajemhdaaDoorDsA
namespace Go.Proofs.YtojfhlhajemhdaaDoor
open Go.RowKit
set_option linter.unusedVariables false
set_option linter.unusedSimpArgs false
set_option maxRecDepth 100000

theorem clone_any (a : Option Addr) (l : List UInt8) (c : Nat) (w : World) (h : Bytes w a l.length (lat l)) (hl : l.length ≤ 140737488355328) :
    Calls Tryd.prog 17 #[.slice a l.length c] w fun e w' => ∃ v', e = .returned v' ∧ OL w' w.heap.size v' l ∧ Below w.heap.size w w' := by
  cases a with
  | none =>
    have h0 : l = [] := by
      rcases Nat.eq_zero_or_pos l.length with h0 | h0
      · exact List.eq_nil_of_length_eq_zero h0
      · obtain ⟨b, o, e, _⟩ := h 0 h0; cases e
    subst h0
    refine (Tryd.bytes_Clone_nil _ c w).mono ?_
    rintro e w' ⟨rfl, rfl⟩
    exact ⟨_, rfl, World.ownsRow_nil _ _ _ _, Below.refl _ _⟩
  | some a =>
    refine (Tryd.bytes_Clone_at a l.length c (l.map fun x => (x.toNat : Int)) w (by simp) hl ?_).mono ?_
    · intro i hi
      obtain ⟨b, o, e, hc⟩ := h i hi
      cases e
      rw [WideShapes.add_plain, hc]
      simp [lat, hi]
    · rintro e w' ⟨v', rfl, h1, h2, h3⟩
      refine ⟨v', rfl, ?_, h3⟩
      unfold OL
      rw [List.map_map] at h1
      exact h1

theorem slice_any (a : Option Addr) (len cap m : Nat) (hp : True) (hm : m ≤ cap) (W : World) :
    (Instr.slice 26 (.slice a len cap) none (some (.int .i64 (m : Int))) none).run Tryd.prog W = .ok (.slice a m cap) W := by
  rw [run_slice_h (P := Tryd.prog) W 26 a len cap (Tryd.underlying26.trans (by kernel_rfl)) .i64 _ (by omega) (by omega)]
  rw [Int.toNat_natCast]
  have hs : (sizeOf (Tryd.prog.elem 26)).run Tryd.prog W = .ok 1 W := by
    rw [show Tryd.prog.elem 26 = 5 by kernel_rfl]; exact Tryd.sizeOf5 W
  rw [hs]
  simp only [Result.andThen, sliced, Nat.zero_mul, Addr.add_zero']
  cases a <;> simp
theorem sliceAt_any (a : Option Addr) (len cap m : Nat) (hp : True) (hm : m ≤ cap) (W : World) :
    (Instr.sliceAt 26 (.slice a len cap) none (some (.int .i64 (m : Int))) none).run Tryd.prog W = .ok (.slice a m cap) W := by
  rw [run_sliceAt_slice W 26 _ _ _ _ (Tryd.underlying26.trans (by kernel_rfl))]
  exact slice_any a len cap m hp hm W
theorem Bytes.take {w : World} {a : Option Addr} {l : List UInt8} (h : Bytes w a l.length (lat l)) (m : Nat) (hm : m ≤ l.length) : Bytes w a (l.take m).length (lat (l.take m)) := fun i hi => by
  rw [List.length_take] at hi
  obtain ⟨b, o, e, hc⟩ := h i (by omega)
  refine ⟨b, o, e, hc.trans ?_⟩
  have : lat (l.take m) i = lat l i := by simp [lat, List.getElem?_take, show i < m by omega]
  rw [this]
/-- A half of it. -/
def half (l : List UInt8) : List UInt8 := l.take (l.length / 2)
theorem half_len (l : List UInt8) : (half l).length = l.length / 2 := by unfold half; rw [List.length_take]; omega

set_option maxHeartbeats 1000000 in
theorem firstHalf_any (a : Option Addr) (l : List UInt8) (c : Nat) (w : World) (h : Bytes w a l.length (lat l)) (hl : l.length ≤ 140737488355328) (hp : ∀ y, a = some y → y.spot = none) (hc : l.length ≤ c) :
    Calls Tryd.prog 19 #[.slice a l.length c] w fun e w' => ∃ v', e = .returned v' ∧ OL w' w.heap.size v' (half l) ∧ Below w.heap.size w w' := by
  have HC := hidMk (clone_any a (half l) c w (by unfold half; exact h.take _ (by omega)) (by rw [half_len]; omega))
  rw [half_len] at HC
  have S1 := slice_any a l.length c (l.length / 2) trivial (by omega) w
  have S2 := sliceAt_any a l.length c (l.length / 2) trivial (by omega) w
  have hq : (l.length : Int).tdiv 2 = ((l.length / 2 : Nat) : Int) := by
    rw [Int.tdiv_eq_ediv_of_nonneg (by omega)]; rfl
  have hq2 : (l.length : Int) / 2 = ((l.length / 2 : Nat) : Int) := by omega
  have hlen : ∃ n, n = l.length / 2 := ⟨_, rfl⟩
  obtain ⟨n, hn⟩ := hlen
  rw [← hn] at S1 S2 HC hq hq2
  have HN := hidMk hn
  clear h hn
  go_enter Tryd.func19, Tryd.ntmps19
  go_wp2_with fail
  refine HC.out.mono ?_
  rintro e w' ⟨v', rfl, h1, h2⟩
  go_wp2_with fail
  go_ret
  exact ⟨_, rfl, h1, h2⟩

set_option maxHeartbeats 1000000 in
theorem new_any (w : World) : Calls Tryd.prog 4 #[] w fun e w' => ∃ d mb, e = .returned (.pointer (some ⟨d, 0, none⟩)) ∧ PD w' w.heap.size d mb (.slice none 0 0) [] ∧ Below w.heap.size w w' := by
  have hmm := @run_makeMap Tryd.prog
  go_enter Tryd.func4, Tryd.ntmps4
  go_wp2_with fail
  go_ret
  have hb : Below w.heap.size w ((w.alloc (.map #[] 0)).alloc (.cells #[.map (some w.heap.size), .slice none 0 0] 49)) := (bel1 _ _).alloc (by simp) _
  refine ⟨w.heap.size + 1, w.heap.size, by simp, ?_, hb⟩
  refine ⟨?_, ?_, World.ownsRow_nil _ _ _ _, (fun f hf => by cases hf), (fun f hf => by cases hf), ⟨by omega, by omega, by omega, by simp [Value.ownBlock], by simp [Value.ownBlock]⟩⟩
  · have := Own.new (w.alloc (.map #[] 0)) 49 2 #[.map (some w.heap.size), .slice none 0 0] rfl
    simpa using this
  · exact (MP.made w sk).kept (World.grownBy_alloc _ _ none) (by simp)

theorem PD.sync {w : World} {B d mb : Nat} {lv : Value} {fs : List Fl} (h : PD w B d mb lv fs) : PD (w.setCell ⟨d, 1, none⟩ (.slice none 0 0)) B d mb (.slice none 0 0) (fs.map fun f => { f with ls := false }) ∧ Gs (dS d mb lv) w (w.setCell ⟨d, 1, none⟩ (.slice none 0 0)) := by
  obtain ⟨h1, h2⟩ := h.own.put 1 (.slice none 0 0)
  have hl : loose (fs.map fun f => { f with ls := false }) = [] := by
    unfold loose
    rw [List.map_eq_nil_iff, List.filter_eq_nil_iff]
    intro f hf
    obtain ⟨g, _, rfl⟩ := List.mem_map.1 hf
    simp
  refine ⟨⟨h1, ?_, ?_, ?_, ?_, ?_⟩, Gs.one h2 fun k hk => .inl (by cases hk; rfl)⟩
  · rw [List.map_map]
    exact h.mp.kept h2 (fun e => h.hd.2.2.1 (Option.some.inj e).symm)
  · rw [hl]; exact World.ownsRow_nil _ _ _ _
  · intro f hf
    obtain ⟨g, hg, rfl⟩ := List.mem_map.1 hf
    exact ⟨(h.by' g hg).1.grown h2 fun x hx e => (h.ap g hg x hx).2.2.1 (Option.some.inj e), (h.by' g hg).2⟩
  · intro f hf y hy
    obtain ⟨g, hg, rfl⟩ := List.mem_map.1 hf
    obtain ⟨a1, a2, a3, a4, a5⟩ := h.ap g hg y hy
    exact ⟨a1, by rw [size_set]; exact a2, a3, a4, by simp [Value.ownBlock]⟩
  · exact ⟨h.hd.1, h.hd.2.1, h.hd.2.2.1, by simp [Value.ownBlock], by simp [Value.ownBlock]⟩

set_option maxHeartbeats 1000000 in
theorem sync_any (w : World) (B d mb : Nat) (lv : Value) (fs : List Fl) (h : PD w B d mb lv fs) :
    Calls Tryd.prog 8 #[.pointer (some ⟨d, 0, none⟩)] w fun e w' => e = .returned (.tuple #[]) ∧ PD w' B d mb (.slice none 0 0) (fs.map fun f => { f with ls := false }) ∧ Gs (dS d mb lv) w w' := by
  obtain ⟨c0, c1, f0, f1⟩ := h.cells
  have HP := hidMk h.sync
  clear h
  go_enter Tryd.func8, Tryd.ntmps8
  go_wp2_with fail
  refine bodyPost_end (results_none Tryd.results8 _ _ _) rfl ?_
  exact ⟨rfl, HP.out⟩

set_option maxHeartbeats 1000000 in
theorem loose_any (w : World) (B d mb : Nat) (lv : Value) (fs : List Fl) (h : PD w B d mb lv fs) :
    Calls Tryd.prog 14 #[.pointer (some ⟨d, 0, none⟩)] w fun e w' => e = .returned (.int .i64 ((loose fs).length : Int)) ∧ w' = w := by
  obtain ⟨c0, c1, f0, f1⟩ := h.cells
  obtain ⟨a, c, rfl⟩ : ∃ a c, lv = .slice a (loose fs).length c := by
    rcases h.row.2 with ⟨h1, h2⟩ | ⟨g, c, _, h1, _⟩
    · exact ⟨none, 0, by rw [h1, h2]⟩
    · exact ⟨_, _, h1⟩
  clear h
  generalize (loose fs).length = n at *
  go_enter Tryd.func14, Tryd.ntmps14
  go_wp2_with fail
  go_ret
  exact ⟨rfl, rfl⟩
end Go.Proofs.YtojfhlhajemhdaaDoor
