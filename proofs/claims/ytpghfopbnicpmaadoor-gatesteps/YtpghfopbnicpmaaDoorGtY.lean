import Derived.Test.YtpghfopbnicpmaaDoorGtT
namespace Go.Proofs.YtpghfopbnicpmaaDoor
open Go.RowKit
set_option linter.unusedVariables false
set_option linter.unusedSimpArgs false
set_option maxRecDepth 100000

theorem time_any (w : World) (g b c : Nat) (tm mk : Int) (es : List En) (h : GT w g b c tm mk es) :
    Calls Tryd.prog 12 #[.pointer (some ⟨g, 0, none⟩)] w fun e w' => e = .returned (.int .i64 tm) ∧ w' = w := by
  obtain ⟨c0, c1, c2⟩ := h.cells
  clear h
  go_enter Tryd.func12, Tryd.ntmps12
  go_wp2
  go_ret
  exact ⟨rfl, rfl⟩
theorem waits_new (n : Nat) : Waits 0 (List.replicate n ⟨-1, false⟩) := ⟨by omega, fun _ e he => by rw [(List.mem_replicate.1 he).2], fun _ => rfl⟩
theorem waits_clr (es : List En) : Waits 0 (es.map clr) := ⟨by omega, fun _ e he => by obtain ⟨x, _, rfl⟩ := List.mem_map.1 he; rfl, fun _ => rfl⟩
theorem waits_mark (m : Int) (es : List En) (i : Nat) (hi : i < es.length) (t : Int) (hm : 1 ≤ m) : Waits m (es.set i ⟨t, true⟩) := by
  refine ⟨by omega, fun e => by omega, fun h => ?_⟩
  have := h ⟨t, true⟩ (List.mem_set hi _)
  cases this
theorem waits_time (mk : Int) (es : List En) (i : Nat) (hi : i < es.length) (t : Int) (h : Waits mk es) : Waits mk (es.set i ⟨t, es[i].b⟩) := by
  refine ⟨h.1, fun e x hx => ?_, fun hh => h.2.2 fun x hx => ?_⟩
  · rcases List.mem_or_eq_of_mem_set hx with hx | rfl
    · exact h.2.1 e x hx
    · exact h.2.1 e es[i] (List.getElem_mem hi)
  · obtain ⟨j, hj, rfl⟩ := List.getElem_of_mem hx
    by_cases hij : i = j
    · subst hij
      exact hh ⟨t, es[i].b⟩ (List.mem_set hi _)
    · refine hh es[j] ?_
      have : (es.set i ⟨t, es[i].b⟩)[j]'(by rw [List.length_set]; exact hj) = es[j] := List.getElem_set_ne hij _
      rw [← this]
      exact List.getElem_mem _
end Go.Proofs.YtpghfopbnicpmaaDoor
