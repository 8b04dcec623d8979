import Derived.Test.YtafighjlciglpaaDoorWrtF
namespace Go.Proofs.YtafighjlciglpaaDoor
open Go.RowKit
set_option linter.unusedVariables false
set_option maxRecDepth 100000

def blist (f : Nat → UInt8) (n : Nat) : List UInt8 := (List.range n).map f
def lstr (l : List UInt8) : ByteArray := ⟨l.toArray⟩
theorem blist_len (f : Nat → UInt8) (n : Nat) : (blist f n).length = n := by simp [blist]
theorem lstr_size (l : List UInt8) : (lstr l).size = l.length := by simp [lstr, ByteArray.size]
theorem bstr_blist (f : Nat → UInt8) (n : Nat) : bstr f n = lstr (blist f n) := rfl
theorem lstr_append (l m : List UInt8) : lstr l ++ lstr m = lstr (l ++ m) := by
  apply ByteArray.ext
  simp [lstr]
/-- The bytes of a list, by place. -/
def lat (l : List UInt8) : Nat → UInt8 := fun i => l.getD i 0
theorem blist_lat (l : List UInt8) : blist (lat l) l.length = l := by
  apply List.ext_getElem?
  intro i
  by_cases hi : i < l.length
  · simp [blist, lat, hi]
  · simp [blist, hi]
theorem bstr_lat (l : List UInt8) : bstr (lat l) l.length = lstr l := by rw [bstr_blist, blist_lat]
theorem bstr_left (f : Nat → UInt8) (n : Nat) (m : List UInt8) : bstr (lat (blist f n ++ m)) n = bstr f n := by
  rw [bstr_eq]
  intro i hi
  have h : i < (blist f n).length := by rw [blist_len]; exact hi
  simp [lat, List.getElem?_append_left h]
  simp [blist, hi]
theorem bstr_right (l m : List UInt8) : bstr (fun i => lat (l ++ m) (l.length + i)) m.length = lstr m := by
  rw [← bstr_lat m, bstr_eq]
  intro i hi
  simp [lat, List.getElem?_append_right]

theorem OL.form {w : World} {B : Nat} {v : Value} {l : List UInt8} (h : OL w B v l) : (v = .slice none 0 0 ∧ l = []) ∨ ∃ g c, v = .slice (some ⟨g, 0, none⟩) l.length c ∧ l.length ≤ c ∧ c ≤ maxLen := by
  rcases h.2 with ⟨h1, h2⟩ | ⟨g, c, _, h1, _, _, h3, h4, _⟩
  · exact .inl ⟨h1, List.eq_nil_of_length_eq_zero h2⟩
  · exact .inr ⟨g, c, h1, h3, h4⟩
theorem OL.bytes {w : World} {B : Nat} {a : Option Addr} {n c : Nat} {l : List UInt8} (h : OL w B (.slice a n c) l) : n = l.length ∧ Bytes w a l.length (lat l) := by
  rcases h.form with ⟨h1, rfl⟩ | ⟨g, c', h1, -, -⟩
  · simp at h1; exact ⟨by simp [h1], fun i hi => absurd hi (by simp)⟩
  · simp only [Value.slice.injEq] at h1
    obtain ⟨rfl, rfl, rfl⟩ := h1
    refine ⟨rfl, bytes_of_own (B := B) (cap := c) ?_⟩
    have e : ((List.range l.length).map fun i => u8v (lat l i)) = l.map u8v := by
      conv => rhs; rw [← blist_lat l]
      simp [blist]
    rw [e]; exact h
theorem OL.conv {w : World} {B : Nat} {v : Value} {l : List UInt8} (h : OL w B v l) : ∃ a c, v = .slice a l.length c ∧ Bytes w a l.length (lat l) ∧ l.length ≤ c ∧ c ≤ maxLen := by
  rcases h.form with ⟨rfl, rfl⟩ | ⟨g, c', rfl, h1, h2⟩
  · exact ⟨none, 0, rfl, fun i hi => absurd hi (by simp), by simp, by decide⟩
  · exact ⟨_, _, rfl, h.bytes.2, h1, h2⟩

set_option maxHeartbeats 1000000 in
theorem copied_ol (a : Option Addr) (len cap : Nat) (f : Nat → UInt8) (w : World) (hl : Bytes w a len f) (hm : len ≤ 140737488355328) :
    Calls Tryd.prog 6 #[.slice a len cap] w fun e w' => e = .returned (.slice (some ⟨w.heap.size, 0, none⟩) len len) ∧ OL w' w.heap.size (.slice (some ⟨w.heap.size, 0, none⟩) len len) (blist f len) ∧ Below w.heap.size w w' ∧ w.heap.size < w'.heap.size := by
  have hmk := run_make_row' (P := Tryd.prog) 22 5 (.int .u8 0) 1 Tryd.underlying22 info5 rfl .i64 .i64 len (by omega) (by omega)
  have HL : Hid (Bytes (w.alloc (.cells (madeCells #[.int .u8 0] len) 5)) a len f) := hl.later (bel1 w _)
  have HG : Hid ((w.alloc (.cells (madeCells #[.int .u8 0] len) 5)).heap[w.heap.size]? = some (.cells (List.replicate len (.int .u8 0)).toArray 5 (0, 0))) := by
    unfold Hid
    rw [heap_alloc_new w _]
    congr 2
    rw [← toList_madeCells_one]
  have hlen : ((List.range len).map fun i => u8v (f i)).length = Nat.min len len := by simp
  clear hl
  go_enter Tryd.func6, Tryd.ntmps6
  go_wp2_with (first
    | (refine wpList_copy_splice rfl _ _ 22 22 rfl 5 Tryd.underlying22 size5 _ _ len len len cap rfl rfl w.heap.size 0 (List.replicate len (.int .u8 0)) 5 HG.out ((List.range len).map fun i => u8v (f i)) hlen ?c1 (by simp) (by intro v hv; simp at hv; obtain ⟨i, _, rfl⟩ := hv; rfl) w.heap.size w (bel1 w _) (Nat.le_refl _) ?_))
  case c1 =>
    intro h0
    have h0' : 0 < len := by simpa using h0
    obtain ⟨b, off, rfl, _⟩ := HL.out 0 h0'
    refine ⟨_, rfl, ?_⟩
    intro j v hj
    have hj' : j < len := by
      have := (List.getElem?_eq_some_iff.1 hj).1
      simpa using this
    obtain ⟨b', off', e, hc⟩ := HL.out j hj'
    simp only [Option.some.injEq, Addr.mk.injEq, and_true] at e
    obtain ⟨rfl, rfl⟩ := e
    rw [WideShapes.add_plain, hc]
    have hv : j = v := by simpa [hj'] using hj
    rw [hv]; rfl
  · intro w' hrow hB
    have hB' : Below w.heap.size w w' := hB
    have HR : Hid (OL w' w.heap.size (.slice (some ⟨w.heap.size, 0, none⟩) len len) (blist f len)) := by
      refine ⟨by simp, .inr ⟨w.heap.size, len, _, by rw [blist_len], Nat.le_refl _, hrow.out, by rw [blist_len]; exact Nat.le_refl _, by unfold maxLen; omega, ?_, ?_⟩⟩
      · simp [splice]
      · rw [blist_len, Nat.mul_one]
        simp [splice, blist]
        rw [List.take_of_length_le (by simp)]
        rfl
    have hlt : w.heap.size < w'.heap.size := by
      rcases Nat.lt_or_ge w.heap.size w'.heap.size with h | h
      · exact h
      · have := hrow.out; rw [Array.getElem?_eq_none h] at this; cases this
    clear hrow hB HL HG hmk hlen
    go_wp2
    go_ret
    exact ⟨rfl, HR.out, hB', hlt⟩
end Go.Proofs.YtafighjlciglpaaDoor
