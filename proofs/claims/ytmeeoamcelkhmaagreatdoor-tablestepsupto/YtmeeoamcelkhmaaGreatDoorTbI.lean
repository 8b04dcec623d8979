import Derived.Test.YtmeeoamcelkhmaaGreatDoorTbH
namespace Go.Proofs.YtmeeoamcelkhmaaGreatDoor
open Go.RowKit Go.Maps
set_option linter.unusedVariables false
set_option linter.unusedSimpArgs false
set_option maxRecDepth 100000

theorem fnd_entH {hs : List Hp} {x : Tx} (h : x ∉ hs.map (·.x)) : fnd (hs.map entH) x = none := fnd_none.2 (by rw [List.map_map]; exact h)
theorem fnd_atH {hs : List Hp} {f : Hp} (hn : (hs.map (·.x)).Nodup) (hf : f ∈ hs) : fnd (hs.map entH) f.x = some f.v :=
  fnd_of (by rw [List.map_map]; exact hn) (List.mem_map.2 ⟨f, hf, rfl⟩)
def delH (hs : List Hp) (x : Tx) : List Hp := hs.filter fun h => !decide (h.x = x)
theorem del_ent (hs : List Hp) (x : Tx) : del (hs.map entH) x = (delH hs x).map entH := by
  unfold del delH
  rw [List.filter_map]
  rfl
theorem delH_none {hs : List Hp} {x : Tx} (h : x ∉ hs.map (·.x)) : delH hs x = hs := List.filter_eq_self.2 fun p hp => by
  simp only [Bool.not_eq_true', decide_eq_false_iff_not]
  exact fun e => h (List.mem_map.2 ⟨p, hp, e⟩)

theorem new_any (w : World) : Calls Tryz.prog 4 #[] w fun e w' => ∃ t mp ms, e = .returned (.pointer (some ⟨t, 0, none⟩)) ∧ PT w' w.heap.size t mp ms (fun _ => False) [] [] ∧ Below w.heap.size w w' := by
  have hmm := @run_makeMap Tryz.prog
  go_enter Tryz.func4, Tryz.ntmps4
  go_wp2_with fail
  go_ret
  have hb : Below w.heap.size w (((w.alloc (.map #[] 0)).alloc (.map #[] 0)).alloc (.cells #[.map (some w.heap.size), .map (some (w.heap.size + 1))] 59)) := ((bel1 _ _).alloc (by simp) _).alloc (by simp; omega) _
  refine ⟨w.heap.size + 1 + 1, w.heap.size, w.heap.size + 1, by simp, ⟨?_, ?_, ?_, (fun h hh => by cases hh), (fun h hh => by cases hh), ⟨by omega, by omega, by omega⟩, ⟨by omega, by omega, by omega⟩, (fun h hh => by cases hh), (fun h hh => by cases hh), (fun _ h => h.elim)⟩, hb⟩
  · have := Own.new ((w.alloc (.map #[] 0)).alloc (.map #[] 0)) 59 2 #[.map (some w.heap.size), .map (some (w.heap.size + 1))] rfl
    simpa using this
  · exact ((MP.made w txk).kept (World.grownBy_alloc _ _ none) (by simp)).kept (World.grownBy_alloc _ _ none) (by simp)
  · have := (MP.made (w.alloc (.map #[] 0)) sk).kept (World.grownBy_alloc _ (.cells #[.map (some w.heap.size), .map (some (w.heap.size + 1))] 59) none) (by simp)
    simpa using this

theorem isSome_entH {hs : List Hp} {x : Tx} : (fnd (hs.map entH) x).isSome = decide (x ∈ hs.map (·.x)) := by
  cases hf : fnd (hs.map entH) x with
  | none =>
    have := fnd_none.1 hf
    rw [List.map_map] at this
    exact (decide_eq_false this).symm
  | some v =>
    refine (decide_eq_true ?_).symm
    obtain ⟨p, hp, e⟩ := List.mem_map.1 (fnd_mem hf)
    exact List.mem_map.2 ⟨p, hp, by rw [← show (entH p).1 = p.x from rfl, e]⟩
set_option maxHeartbeats 2000000 in
theorem take_any (w : World) (B t mp ms : Nat) (X : Nat → Prop) (hs : List Hp) (ss : List Sn) (x : Tx) (h : PT w B t mp ms X hs ss) (hx : Fits x) :
    Calls Tryz.prog 20 #[.pointer (some ⟨t, 0, none⟩), vv x] w fun e w' => e = .returned (.tuple #[(fnd (hs.map entH) x).getD (.slice none 0 0), .bool (fnd (hs.map entH) x).isSome]) ∧ PT w' B t mp ms X (delH hs x) ss ∧ Gs (fun i => i = mp) w w' := by
  have hB := bel1 w (.cells #[.int .i64 x.m, .string x.sn, .int .i64 x.tk] 27)
  have h1 := h.later hB
  obtain ⟨c0, c1⟩ := h1.cells
  have d0 : (w.alloc (.cells #[.int .i64 x.m, .string x.sn, .int .i64 x.tk] 27)).cell? ⟨w.heap.size, 0, none⟩ = some (.int .i64 x.m) := by simp
  have d1 : (w.alloc (.cells #[.int .i64 x.m, .string x.sn, .int .i64 x.tk] 27)).cell? ⟨w.heap.size, 1, none⟩ = some (.string x.sn) := by simp
  have d2 : (w.alloc (.cells #[.int .i64 x.m, .string x.sn, .int .i64 x.tk] 27)).cell? ⟨w.heap.size, 2, none⟩ = some (.int .i64 x.tk) := by simp
  generalize hW : w.alloc (.cells #[.int .i64 x.m, .string x.sn, .int .i64 x.tk] 27) = W at *
  have hL : (Instr.lookup 56 (.map (some mp)) (.agg #[.int .i64 x.m, .string x.sn, .int .i64 x.tk]) true).run Tryz.prog W.drew = .ok (.tuple #[(fnd (hs.map entH) x).getD (.slice none 0 0), .bool (fnd (hs.map entH) x).isSome]) W.drew := h1.drew.pre.look lawV Tryz.underlying56 (zRows _) x hx
  obtain ⟨w2, hr, hm, ht⟩ := h1.drew.drew.pre.drop lawV Tryz.underlying56 x hx 0
  have hr2 : (Builtin.delete_ #[56, 27] 0 #[.map (some mp), .agg #[.int .i64 x.m, .string x.sn, .int .i64 x.tk]]).run Tryz.prog W.drew.drew = .ok (.tuple #[]) w2 := hr
  have HF : Hid (PT w2 B t mp ms X (delH hs x) ss ∧ Gs (fun i => i = mp) w w2) := by
    obtain ⟨r1, r2⟩ := h1.drew.drew.pre' (hs' := delH hs x) (Below.refl _ _) ht.grown (fun _ => by rw [← del_ent]; exact hm) (fun p hp => .inl (List.mem_filter.1 hp).1)
    exact ⟨r1, (Gs.below hB).trans r2.drew.drew⟩
  clear h h1 hm ht hr hx
  unfold vv
  go_enter Tryz.func20, Tryz.ntmps20
  go_wp2_with fail
  try rw [hW]
  clear hW hB
  generalize hv : (fnd (hs.map entH) x).getD (.slice none 0 0) = v at *
  generalize hv2 : (fnd (hs.map entH) x).isSome = bb at *
  have HV := hidMk hv
  have HV2 := hidMk hv2
  clear hv hv2
  go_region
  all_goals
    go_wp2_with fail
    go_region
    all_goals
      go_wp2_with fail
      go_ret2
      rw [HV.out, HV2.out]
      exact ⟨rfl, HF.out⟩
set_option maxHeartbeats 1000000 in
theorem abort_any (w : World) (B t mp ms : Nat) (X : Nat → Prop) (hs : List Hp) (ss : List Sn) (x : Tx) (h : PT w B t mp ms X hs ss) (hx : Fits x) :
    Calls Tryz.prog 11 #[.pointer (some ⟨t, 0, none⟩), vv x] w fun e w' => e = .returned (.bool (decide (x ∈ hs.map (·.x)))) ∧ PT w' B t mp ms X (delH hs x) ss ∧ Gs (fun i => i = mp) w w' := by
  have hB := bel1 w (.cells #[.int .i64 x.m, .string x.sn, .int .i64 x.tk] 27)
  have HT := hidMk (take_any _ B t mp ms X hs ss x (h.later hB) hx)
  have HB := hidMk hB
  rw [← isSome_entH]
  clear h hx hB
  unfold vv at HT ⊢
  go_enter Tryz.func11, Tryz.ntmps11
  go_wp2_with fail
  refine HT.out.mono ?_
  rintro e w1 ⟨rfl, h1, h2⟩
  have HF : Hid (PT w1 B t mp ms X (delH hs x) ss ∧ Gs (fun i => i = mp) w w1) := ⟨h1, (Gs.below HB.out).trans h2⟩
  clear h1 h2
  generalize hv2 : (fnd (hs.map entH) x).isSome = bb at *
  have HV2 := hidMk hv2
  clear hv2
  go_wp2_with fail
  go_ret
  rw [HV2.out]
  exact ⟨rfl, HF.out⟩

theorem prepare_old (w : World) (B t mp ms : Nat) (X : Nat → Prop) (hs : List Hp) (ss : List Sn) (x : Tx) (v : Value) (h : PT w B t mp ms X hs ss) (hx : Fits x) (hin : x ∈ hs.map (·.x)) :
    Calls Tryz.prog 7 #[.pointer (some ⟨t, 0, none⟩), vv x, v] w fun e w' => e = .returned (.iface 39 (.int .i64 6)) ∧ Below w.heap.size w w' := by
  have hB := bel1 w (.cells #[.int .i64 x.m, .string x.sn, .int .i64 x.tk] 27)
  have h1 := h.later hB
  obtain ⟨c0, c1⟩ := h1.cells
  have d0 : (w.alloc (.cells #[.int .i64 x.m, .string x.sn, .int .i64 x.tk] 27)).cell? ⟨w.heap.size, 0, none⟩ = some (.int .i64 x.m) := by simp
  have d1 : (w.alloc (.cells #[.int .i64 x.m, .string x.sn, .int .i64 x.tk] 27)).cell? ⟨w.heap.size, 1, none⟩ = some (.string x.sn) := by simp
  have d2 : (w.alloc (.cells #[.int .i64 x.m, .string x.sn, .int .i64 x.tk] 27)).cell? ⟨w.heap.size, 2, none⟩ = some (.int .i64 x.tk) := by simp
  have HB := hidMk hB
  generalize hW : w.alloc (.cells #[.int .i64 x.m, .string x.sn, .int .i64 x.tk] 27) = W at *
  obtain ⟨f, hf, rfl⟩ := List.mem_map.1 hin
  have hL : (Instr.lookup 56 (.map (some mp)) (.agg #[.int .i64 f.x.m, .string f.x.sn, .int .i64 f.x.tk]) true).run Tryz.prog W.drew = .ok (.tuple #[f.v, .bool true]) W.drew := by
    have := h1.drew.pre.look lawV Tryz.underlying56 (zRows _) f.x hx
    rw [fnd_atH h.nodup hf] at this
    exact this
  clear h h1 hx hf hin hB
  unfold vv
  go_enter Tryz.func7, Tryz.ntmps7
  go_wp2_with fail
  try rw [hW]
  clear hW
  go_region
  all_goals
    go_wp2_with fail
    go_ret
    exact ⟨rfl, below_drewN HB.out 1⟩
end Go.Proofs.YtmeeoamcelkhmaaGreatDoor
