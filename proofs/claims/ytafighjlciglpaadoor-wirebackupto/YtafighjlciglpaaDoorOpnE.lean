import Derived.Test.YtafighjlciglpaaDoorOpnD
import Derived.Deep.AppendLies
namespace Go.Proofs.YtafighjlciglpaaDoor
open Go.RowKit
set_option linter.unusedVariables false
set_option maxRecDepth 100000

def opnN (f : Nat → UInt8) (len : Nat) (at_ : Int) : Nat := if opnE f len at_ = 0 then (wordN fun i => f (at_.toNat + i)) else 0
def opnT (f : Nat → UInt8) (len : Nat) (at_ : Int) : Int := if opnE f len at_ = 0 then at_ + 8 + (opnN f len at_ : Int) else 0
def opnF (f : Nat → UInt8) (at_ : Int) : Nat → UInt8 := fun i => f (at_.toNat + 8 + i)
def errV (e : Nat) : Value := if e = 0 then .nilIface else .iface 31 (.int .i64 (e : Int))

theorem own_later {w w' : World} {B e size n : Nat} {v : Value} {xs : List Value} (h : w.ownsRow B e size v n xs) (hb : Below w.heap.size w w') : w'.ownsRow B e size v n xs := by
  refine ⟨h.1, ?_⟩
  rcases h.2 with h2 | ⟨g, cap, cur, h1, h2, h3, h4⟩
  · exact .inl h2
  · refine .inr ⟨g, cap, cur, h1, h2, ?_, h4⟩
    have hlt : g < w.heap.size := by
      rcases Nat.lt_or_ge g w.heap.size with h | h
      · exact h
      · rw [Array.getElem?_eq_none h] at h3; cases h3
    rw [hb.block g hlt]; exact h3

theorem open_any (a : Option Addr) (len cap : Nat) (f : Nat → UInt8) (at_ : Int) (w : World) (hl : Bytes w a len f) (hc : len ≤ cap) (hm : cap ≤ 140737488355328) (ha1 : -9223372036854775808 ≤ at_) (ha2 : at_ ≤ 9223372036854775807) (hq : Quart w) :
    Calls Tryd.prog 11 #[.slice a len cap, .int .i64 at_] w fun e w' => Below w.heap.size w w' ∧ ∃ v', e = .returned (.tuple #[v', .int .i64 (opnT f len at_), errV (opnE f len at_)]) ∧
      w'.ownsRow w.heap.size 5 1 v' (opnN f len at_) ((List.range (opnN f len at_)).map fun i => u8v (opnF f at_ i)) := by
  by_cases ho : at_ < 0 ∨ (len : Int) < at_ + 8
  · have he := opnE_out f len at_ ho
    refine (open_out a len cap f at_ w (by omega) ha1 ha2 ho).mono ?_
    rintro e w' ⟨rfl, rfl⟩
    refine ⟨Below.refl _ _, .slice none 0 0, ?_, ?_⟩
    · unfold opnT errV; rw [he, if_neg (by decide), if_neg (by decide)]; rfl
    · unfold opnN; rw [he, if_neg (by decide)]; exact World.ownsRow_nil _ _ _ _
  · obtain ⟨k, rfl⟩ : ∃ k : Nat, at_ = (k : Int) := ⟨at_.toNat, by omega⟩
    obtain ⟨b, o, rfl, -⟩ := hl 0 (by omega)
    refine (open_in b o len cap k f w hl hc hm (by omega) hq).mono ?_
    rintro e w' ⟨hB, h⟩
    refine ⟨hB, ?_⟩
    rcases h with ⟨he, rfl⟩ | ⟨he, v', n, rfl, h1, h2, rfl, hown⟩
    · refine ⟨.slice none 0 0, ?_, ?_⟩
      · unfold opnT errV; rw [if_neg he, if_neg he]
      · unfold opnN; rw [if_neg he]; exact World.ownsRow_nil _ _ _ _
    · refine ⟨v', ?_, ?_⟩
      · unfold opnT errV opnN; rw [if_pos he, if_pos he, if_pos he]
        simp only [Int.toNat_natCast]
        rw [show ((k + 8 + (wordN fun i => f (k + i)) : Nat) : Int) = (k : Int) + 8 + ((wordN fun i => f (k + i) : Nat) : Int) by omega]
      · unfold opnN opnF; rw [if_pos he]
        simp only [Int.toNat_natCast]
        exact hown

theorem opnN_le (f : Nat → UInt8) (len : Nat) (at_ : Int) : opnN f len at_ ≤ len := by
  unfold opnN
  by_cases ho : at_ < 0 ∨ (len : Int) < at_ + 8
  · rw [if_neg (by rw [opnE_out f len at_ ho]; decide)]; omega
  · obtain ⟨k, rfl⟩ : ∃ k : Nat, at_ = (k : Int) := ⟨at_.toNat, by omega⟩
    rw [opnE_in f len k (by omega)]
    simp only [Int.toNat_natCast]
    by_cases h : 134217728 < (wordN fun i => f (k + i)) ∨ len < k + 8 + (wordN fun i => f (k + i))
    · rw [if_pos h, if_neg (by decide)]; omega
    · rw [if_neg h]
      by_cases h2 : sumN (fun i => f (k + 8 + i)) (wordN fun i => f (k + i)) = wordN (fun i => f (k + 4 + i))
      · rw [if_pos h2, if_pos rfl]; omega
      · rw [if_neg h2, if_neg (by decide)]; omega

theorem opnN_small (f : Nat → UInt8) (len : Nat) (at_ : Int) : opnN f len at_ ≤ 134217728 := by
  unfold opnN
  by_cases ho : at_ < 0 ∨ (len : Int) < at_ + 8
  · rw [if_neg (by rw [opnE_out f len at_ ho]; decide)]; omega
  · obtain ⟨k, rfl⟩ : ∃ k : Nat, at_ = (k : Int) := ⟨at_.toNat, by omega⟩
    rw [opnE_in f len k (by omega)]
    simp only [Int.toNat_natCast]
    by_cases h : 134217728 < (wordN fun i => f (k + i)) ∨ len < k + 8 + (wordN fun i => f (k + i))
    · rw [if_pos h, if_neg (by decide)]; omega
    · rw [if_neg h]
      by_cases h2 : sumN (fun i => f (k + 8 + i)) (wordN fun i => f (k + i)) = wordN (fun i => f (k + 4 + i))
      · rw [if_pos h2, if_pos rfl]; omega
      · rw [if_neg h2, if_neg (by decide)]; omega

theorem told_any (n : Nat) (w : World) (hg : Ety w) : Calls Tryd.prog 8 #[errV n] w fun e w' => e = .returned (.int .i64 (n : Int)) ∧ Below w.heap.size w w' := by
  unfold errV
  by_cases h : n = 0
  · rw [if_pos h]
    refine (told_nil w).mono ?_
    rintro e w' ⟨rfl, rfl⟩
    exact ⟨by rw [h]; rfl, Below.refl _ _⟩
  · rw [if_neg h]
    exact told_errno n w hg

/-- The cells of a row of one's own are the bytes. -/
theorem bytes_of_own {w : World} {B g n cap : Nat} {f : Nat → UInt8} (h : w.ownsRow B 5 1 (.slice (some ⟨g, 0, none⟩) n cap) n ((List.range n).map fun i => u8v (f i))) : Bytes w (some ⟨g, 0, none⟩) n f := by
  intro i hi
  refine ⟨g, 0, rfl, ?_⟩
  rw [Nat.zero_add, h.cellAt i (by omega)]
  simp [hi, u8v]
end Go.Proofs.YtafighjlciglpaaDoor
