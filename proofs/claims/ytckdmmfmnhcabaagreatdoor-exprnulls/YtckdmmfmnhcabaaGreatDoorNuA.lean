import Derived.Test.YtckdmmfmnhcabaaGreatDoorXpX
import Derived.Test.YtckdmmfmnhcabaaGreatDoorXg1
namespace Go.Proofs.YtckdmmfmnhcabaaGreatDoor
open Go.RowKit
set_option linter.unusedVariables false
set_option maxRecDepth 100000

/-- The few literals that are wanted. -/
def rdN (s : ByteArray) : Option (Int × Int × ByteArray) :=
  if s = ⟨#[48]⟩ then some (1, 0, ⟨#[]⟩) else if s = ⟨#[49]⟩ then some (1, 1, ⟨#[]⟩) else if s = ⟨#[50]⟩ then some (1, 2, ⟨#[]⟩)
  else if s = bTrue then some (2, 1, ⟨#[]⟩) else if s = bFalse then some (2, 0, ⟨#[]⟩) else none
def exX (s : ByteArray) : Option X :=
  match tok s.size 0 s.data.toList with
  | .ok ts => match exe s.size rdN 200 (.D 0) 0 ts with
    | some (x, []) => some x
    | _ => none
  | .error _ => none
theorem px_ex {L : ByteArray → Int → Int → ByteArray → Prop} (hrd : ∀ s k n t, rdN s = some (k, n, t) → L s k n t) {s : ByteArray} {x : X} (hs : s.size ≤ 200) (h : exX s = some x) : PX L s (.ok x) := by
  unfold exX at h
  split at h
  · rename_i ts ht
    split at h
    · rename_i y hy
      cases h
      exact .ok hs ht (exe_ps hrd _ _ _ _ _ hy)
    · cases h
  · cases h
end Go.Proofs.YtckdmmfmnhcabaaGreatDoor
