import Derived.Test.YtojfhlhajemhdaaDoorDsC
import Derived.Test.YtojfhlhajemhdaaDoorShelfD
import Derived.Sort.OwnSorted
namespace Go.Proofs.YtojfhlhajemhdaaDoor
open Go.RowKit
set_option linter.unusedVariables false
set_option linter.unusedSimpArgs false
set_option maxRecDepth 100000

set_option maxHeartbeats 1000000 in
theorem read_none (w : World) (B d mb : Nat) (lv : Value) (fs : List Fl) (nm : ByteArray) (h : PD w B d mb lv fs) (hnm : nm.size ≤ maxLen) (hin : nm ∉ fs.map (·.nm)) :
    Calls Tryd.prog 11 #[.pointer (some ⟨d, 0, none⟩), .string nm] w fun e w' => e = .returned (.tuple #[.slice none 0 0, .bool false]) ∧ w' = w := by
  obtain ⟨c0, c1, f0, f1⟩ := h.cells
  have hL := h.mp.look K9 Tryd.underlying47 (zSl w) nm hnm
  rw [fnd_ent hin] at hL
  simp only [sk, Option.getD_none, Option.isSome_none] at hL
  clear h hin
  go_enter Tryd.func11, Tryd.ntmps11
  go_wp2_with fail
  refine (Tryd.bytes_Clone_nil _ 0 w).mono ?_
  rintro e w' ⟨rfl, rfl⟩
  go_wp2_with fail
  go_ret2
  exact ⟨rfl, rfl⟩

set_option maxHeartbeats 1000000 in
theorem read_at (w : World) (B d mb : Nat) (lv : Value) (fs : List Fl) (f : Fl) (h : PD w B d mb lv fs) (hnm : f.nm.size ≤ maxLen) (hf : f ∈ fs) (hl : f.bs.length ≤ 140737488355328) :
    Calls Tryd.prog 11 #[.pointer (some ⟨d, 0, none⟩), .string f.nm] w fun e w' => ∃ v', e = .returned (.tuple #[v', .bool true]) ∧ OL w' w.heap.size v' f.bs ∧ Below w.heap.size w w' := by
  obtain ⟨c0, c1, f0, f1⟩ := h.cells
  have hL := h.mp.look K9 Tryd.underlying47 (zSl w) f.nm hnm
  rw [fnd_at h.nodup hf] at hL
  simp only [sk, Option.getD_some, Option.isSome_some] at hL
  have HC := hidMk (clone_any f.pa f.bs f.pc w (h.by' f hf).1 hl)
  clear h hf
  go_enter Tryd.func11, Tryd.ntmps11
  go_wp2_with fail
  refine HC.out.mono ?_
  rintro e w' ⟨v', rfl, h1, h2⟩
  go_wp2_with fail
  go_ret2
  exact ⟨v', rfl, h1, h2⟩

set_option maxHeartbeats 1000000 in
theorem remove_none (w : World) (B d mb : Nat) (lv : Value) (fs : List Fl) (nm : ByteArray) (h : PD w B d mb lv fs) (hnm : nm.size ≤ maxLen) (hin : nm ∉ fs.map (·.nm)) :
    Calls Tryd.prog 12 #[.pointer (some ⟨d, 0, none⟩), .string nm] w fun e w' => e = .returned (.bool false) ∧ Below w.heap.size w w' := by
  have h1 := (h.later (bel1 w (.cells #[.string nm] 9)))
  have hL1 : (Instr.lookup 47 (.map (some mb)) (.string nm) true).run Tryd.prog (w.alloc (.cells #[.string nm] 9)).drew = .ok (.tuple #[.slice none 0 0, .bool false]) (w.alloc (.cells #[.string nm] 9)).drew := by
    have hL := h1.drew.mp.look K9 Tryd.underlying47 (zSl _) nm hnm
    rw [fnd_ent hin] at hL
    exact hL
  obtain ⟨c0, c1, f0, f1⟩ := h1.cells
  have c2 : (w.alloc (.cells #[.string nm] 9)).cell? ⟨w.heap.size, 0, none⟩ = some (.string nm) := by simp
  have HB := hidMk (bel1 w (.cells #[.string nm] 9))
  have hdd : d < w.heap.size := (h.lt d (.inl rfl)).2
  clear h h1 hin
  go_enter Tryd.func12, Tryd.ntmps12
  go_wp2_with fail
  generalize w.alloc (.cells #[.string nm] 9) = W at *
  go_region
  all_goals
    go_wp2_with fail
    go_ret
    exact ⟨rfl, below_drewN HB.out 1⟩
end Go.Proofs.YtojfhlhajemhdaaDoor
