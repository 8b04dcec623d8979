import Derived.Test.YtoioaalkeanhgaaDoorWrtF
namespace Go.Proofs.YtoioaalkeanhgaaDoor
open Go.RowKit
set_option linter.unusedVariables false
set_option maxRecDepth 100000

def blist (f : Nat → UInt8) (n : Nat) : List UInt8 := (List.range n).map f
def lstr (l : List UInt8) : ByteArray := ⟨l.toArray⟩
theorem blist_len (f : Nat → UInt8) (n : Nat) : (blist f n).length = n := by simp [blist]
theorem lstr_size (l : List UInt8) : (lstr l).size = l.length := by simp [lstr, ByteArray.size]
theorem bstr_blist (f : Nat → UInt8) (n : Nat) : bstr f n = lstr (blist f n) := rfl
theorem lstr_append (l m : List UInt8) : lstr l ++ lstr m = lstr (l ++ m) := by
  apply ByteArray.ext
  simp [lstr]
/-- The bytes of a list, by place. -/
def lat (l : List UInt8) : Nat → UInt8 := fun i => l.getD i 0
theorem blist_lat (l : List UInt8) : blist (lat l) l.length = l := by
  apply List.ext_getElem?
  intro i
  by_cases hi : i < l.length
  · simp [blist, lat, hi]
  · simp [blist, hi]
theorem bstr_lat (l : List UInt8) : bstr (lat l) l.length = lstr l := by rw [bstr_blist, blist_lat]
theorem bstr_left (f : Nat → UInt8) (n : Nat) (m : List UInt8) : bstr (lat (blist f n ++ m)) n = bstr f n := by
  rw [bstr_eq]
  intro i hi
  have h : i < (blist f n).length := by rw [blist_len]; exact hi
  simp [lat, List.getElem?_append_left h]
  simp [blist, hi]
theorem bstr_right (l m : List UInt8) : bstr (fun i => lat (l ++ m) (l.length + i)) m.length = lstr m := by
  rw [← bstr_lat m, bstr_eq]
  intro i hi
  simp [lat, List.getElem?_append_right]

theorem OL.form {w : World} {B : Nat} {v : Value} {l : List UInt8} (h : OL w B v l) : (v = .slice none 0 0 ∧ l = []) ∨ ∃ g c, v = .slice (some ⟨g, 0, none⟩) l.length c ∧ l.length ≤ c ∧ c ≤ maxLen := by
  rcases h.2 with ⟨h1, h2⟩ | ⟨g, c, _, h1, _, _, h3, h4, _⟩
  · exact .inl ⟨h1, List.eq_nil_of_length_eq_zero h2⟩
  · exact .inr ⟨g, c, h1, h3, h4⟩
theorem OL.bytes {w : World} {B : Nat} {a : Option Addr} {n c : Nat} {l : List UInt8} (h : OL w B (.slice a n c) l) : n = l.length ∧ Bytes w a l.length (lat l) := by
  rcases h.form with ⟨h1, rfl⟩ | ⟨g, c', h1, -, -⟩
  · simp at h1; exact ⟨by simp [h1], fun i hi => absurd hi (by simp)⟩
  · simp only [Value.slice.injEq] at h1
    obtain ⟨rfl, rfl, rfl⟩ := h1
    refine ⟨rfl, bytes_of_own (B := B) (cap := c) ?_⟩
    have e : ((List.range l.length).map fun i => u8v (lat l i)) = l.map u8v := by
      conv => rhs; rw [← blist_lat l]
      simp [blist]
    rw [e]; exact h
theorem OL.conv {w : World} {B : Nat} {v : Value} {l : List UInt8} (h : OL w B v l) : ∃ a c, v = .slice a l.length c ∧ Bytes w a l.length (lat l) ∧ l.length ≤ c ∧ c ≤ maxLen := by
  rcases h.form with ⟨rfl, rfl⟩ | ⟨g, c', rfl, h1, h2⟩
  · exact ⟨none, 0, rfl, fun i hi => absurd hi (by simp), by simp, by decide⟩
  · exact ⟨_, _, rfl, h.bytes.2, h1, h2⟩

end Go.Proofs.YtoioaalkeanhgaaDoor
