import Derived.Test.YtmeeoamcelkhmaaGreatDoorTbI
namespace Go.Proofs.YtmeeoamcelkhmaaGreatDoor
open Go.RowKit Go.Maps
set_option linter.unusedVariables false
set_option linter.unusedSimpArgs false
set_option maxRecDepth 100000

theorem put_newH {hs : List Hp} {x : Tx} {v : Value} (h : x ∉ hs.map (·.x)) : put (hs.map entH) x v = hs.map entH ++ [(x, v)] := by
  unfold put
  rw [if_neg (by rw [List.map_map]; exact h)]
theorem prepd {w w1 w2 : World} {B t mp ms O : Nat} {X : Nat → Prop} {hs : List Hp} {ss : List Sn} {x : Tx} {ps : List Q} (rs : List Rw) (ra : Option Addr) (rc : Nat) (h : PT w B t mp ms X hs ss) (hX : ∀ i, X i → i < w.heap.size) (hBw : B ≤ w.heap.size) (hd : Done w1 w.heap.size O ps) (hb : Below w.heap.size w w1) (hin : x ∉ hs.map (·.x))
    (hM : MP w2 txk mp (put (hs.map entH) x (.slice (some ⟨O, 0, none⟩) ps.length ps.length))) (hg : w1.grownBy w2 (some mp)) : PT w2 B t mp ms X (hs ++ [⟨x, .slice (some ⟨O, 0, none⟩) ps.length ps.length, ps, rs, ra, rc⟩]) ss ∧ Gs (fun i => i = mp) w w2 := by
  have hA : ∀ i, w.heap.size ≤ i → ¬ Mu t mp ms ss X i := fun i hi m => by
    rcases Mu.iff.1 m with m | m
    · have := (h.lt i m).2; omega
    · have := hX i m; omega
  refine h.pre' hb hg (fun _ => ?_) (fun p hp => ?_)
  · rw [put_newH hin] at hM
    rw [List.map_append]; exact hM
  · rcases List.mem_append.1 hp with hp | hp
    · exact .inl hp
    · obtain rfl := List.mem_singleton.1 hp
      refine .inr ⟨RR.of_done hd hBw hA, fun k hk => hA k ?_⟩
      exact (World.ownsRow.lt hd.own k hk).1
set_option maxHeartbeats 4000000 in
theorem prepare_new (w : World) (B t mp ms : Nat) (X : Nat → Prop) (hs : List Hp) (ss : List Sn) (x : Tx) (a : Option Addr) (rs : List Rw) (c : Nat) (ra : Option Addr) (rc : Nat) (h : PT w B t mp ms X hs ss) (hX : ∀ i, X i → i < w.heap.size) (hBw : B ≤ w.heap.size) (hx : Fits x) (hin : x ∉ hs.map (·.x)) (hr : RLies w a rs) (hl : rs.length ≤ 4398046511104) (hv : ∀ r ∈ rs, r.vs.length ≤ 4398046511104) (hn : hs.length ≤ 1099511627776) :
    Calls Tryz.prog 7 #[.pointer (some ⟨t, 0, none⟩), vv x, .slice a rs.length c] w fun e w' => e = .returned .nilIface ∧ Gs (fun i => i = mp) w w' ∧ ∃ O ps, PT w' B t mp ms X (hs ++ [⟨x, .slice (some ⟨O, 0, none⟩) ps.length ps.length, ps, rs, ra, rc⟩]) ss ∧ (ps.map (·.r)).Perm rs := by
  have hB := bel1 w (.cells #[.int .i64 x.m, .string x.sn, .int .i64 x.tk] 27)
  have h1 := h.later hB
  have hX1 : ∀ i, X i → i < (w.alloc (.cells #[.int .i64 x.m, .string x.sn, .int .i64 x.tk] 27)).heap.size := fun i hi => Nat.lt_of_lt_of_le (hX i hi) hB.size
  have hBW := Nat.le_trans hBw hB.size
  have hr1 := hr.later hB
  obtain ⟨c0, c1⟩ := h1.cells
  have d0 : (w.alloc (.cells #[.int .i64 x.m, .string x.sn, .int .i64 x.tk] 27)).cell? ⟨w.heap.size, 0, none⟩ = some (.int .i64 x.m) := by simp
  have d1 : (w.alloc (.cells #[.int .i64 x.m, .string x.sn, .int .i64 x.tk] 27)).cell? ⟨w.heap.size, 1, none⟩ = some (.string x.sn) := by simp
  have d2 : (w.alloc (.cells #[.int .i64 x.m, .string x.sn, .int .i64 x.tk] 27)).cell? ⟨w.heap.size, 2, none⟩ = some (.int .i64 x.tk) := by simp
  have HB := hidMk hB
  generalize hW : w.alloc (.cells #[.int .i64 x.m, .string x.sn, .int .i64 x.tk] 27) = W at *
  have hL : (Instr.lookup 56 (.map (some mp)) (.agg #[.int .i64 x.m, .string x.sn, .int .i64 x.tk]) true).run Tryz.prog W.drew = .ok (.tuple #[.slice none 0 0, .bool false]) W.drew := by
    have := h1.drew.pre.look lawV Tryz.underlying56 (zRows _) x hx
    rw [fnd_entH hin] at this
    exact this
  have HP := hidMk h1.drew.drew
  have HC := hidMk (sorted_any rs a c W.drew.drew (hr1.later ⟨rfl, rfl, rfl, Nat.le_refl _, fun _ _ => rfl⟩) hl hv)
  have HIN := hidMk hin
  have HX := hidMk hX1
  have HFX := hidMk hx
  have HBW := hidMk hBW
  clear h h1 hx hin hB hr hr1 hX hX1 hv hBW
  unfold vv
  go_enter Tryz.func7, Tryz.ntmps7
  go_wp2_with fail
  try rw [hW]
  clear hW
  go_region
  all_goals
    go_wp2_with fail
    have hlen : (hs.map entH).length < maxLen := by rw [List.length_map]; unfold maxLen; omega
    go_region_with (
      go_at_call 18
      refine HC.out.mono ?_
      rintro e w1 ⟨O, ps, rfl, hd, hp, -, hb⟩
      have HP1 := hidMk (HP.out.later hb)
      obtain ⟨w2, hr2, hm2, ht2⟩ := HP1.out.pre.store lawV Tryz.underlying56 x HFX.out (.slice (some ⟨O, 0, none⟩) ps.length ps.length) hlen
      have hr2' : (Instr.mapUpdate 56 (.map (some mp)) (.agg #[.int .i64 x.m, .string x.sn, .int .i64 x.tk]) (.slice (some ⟨O, 0, none⟩) ps.length ps.length)).run Tryz.prog w1 = .ok () w2 := hr2
      have HF := hidMk (prepd rs ra rc HP.out HX.out HBW.out hd hb HIN.out hm2 ht2.grown)
      have HPm := hidMk hp
      have j0 : w1.cell? ⟨t, 0, none⟩ = some (.map (some mp)) := cell_later hb c0
      have k0 : w1.cell? ⟨w.heap.size, 0, none⟩ = some (.int .i64 x.m) := cell_later hb d0
      have k1 : w1.cell? ⟨w.heap.size, 1, none⟩ = some (.string x.sn) := cell_later hb d1
      have k2 : w1.cell? ⟨w.heap.size, 2, none⟩ = some (.int .i64 x.tk) := cell_later hb d2
      clear hb hd hm2 ht2 hr2 hp)
    all_goals
      go_wp2_with fail
      go_ret
      exact ⟨rfl, (Gs.below HB.out).trans HF.out.2.drew.drew, O, ps, HF.out.1, HPm.out⟩
end Go.Proofs.YtmeeoamcelkhmaaGreatDoor
