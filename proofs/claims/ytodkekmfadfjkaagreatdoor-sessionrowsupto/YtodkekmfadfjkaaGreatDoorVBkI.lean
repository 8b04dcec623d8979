import Derived.Test.YtodkekmfadfjkaaGreatDoorVBkM
namespace Go.Proofs.YtodkekmfadfjkaaGreatDoor.Vl
set_option linter.unusedVariables false

theorem toList_inj {s t : ByteArray} (h : s.toList = t.toList) : s = t := by
  rw [ByteArray.toList_eq, ByteArray.toList_eq] at h
  apply ByteArray.ext
  exact Array.toList_inj.1 h
theorem empty_of {s : ByteArray} (h : (s.toList == []) = true) : s = ⟨#[]⟩ := by
  apply toList_inj
  rw [empty_list]
  simpa using h

/-- A valid value, by its kind. -/
theorem valid_form {k n : Int} {s : ByteArray} (h : validB k n s = true) :
    (k = 0 ∧ n = 0 ∧ s = ⟨#[]⟩) ∨ (k = 1 ∧ s = ⟨#[]⟩) ∨ (k = 2 ∧ n = 1 ∧ s = ⟨#[]⟩) ∨ (k = 2 ∧ n = 0 ∧ s = ⟨#[]⟩) ∨ (k = 3 ∧ n = 0 ∧ s.size ≤ 60) := by
  unfold validB at h
  by_cases h0 : k = 0
  · rw [if_pos h0] at h
    simp only [Bool.and_eq_true, beq_iff_eq] at h
    exact .inl ⟨h0, h.1, empty_of (by simpa using h.2)⟩
  by_cases h1 : k = 1
  · rw [if_neg h0, if_pos h1] at h
    exact .inr (.inl ⟨h1, empty_of h⟩)
  rw [if_neg h0, if_neg h1] at h
  by_cases h2 : k = 2
  · rw [if_pos h2] at h
    simp only [Bool.and_eq_true, Bool.or_eq_true, beq_iff_eq] at h
    have hs := empty_of (s := s) (by simpa using h.1)
    rcases h.2 with e | e
    · exact .inr (.inr (.inr (.inl ⟨h2, e, hs⟩)))
    · exact .inr (.inr (.inl ⟨h2, e, hs⟩))
  rw [if_neg h2] at h
  by_cases h3 : k = 3
  · rw [if_pos h3] at h
    simp at h
    exact .inr (.inr (.inr (.inr ⟨h3, h.1, by omega⟩)))
  rw [if_neg h3] at h
  cases h

theorem show_valid {k n : Int} {s : ByteArray} (h : validB k n s = true) : showB k n s = (if k = 1 then ⟨(Lib.itoa n).toArray⟩ else if k = 2 then (if n = 1 then ⟨#[116, 114, 117, 101]⟩ else ⟨#[102, 97, 108, 115, 101]⟩) else if k = 3 then ⟨(39 :: escAll s.data.toList ++ [39]).toArray⟩ else ⟨#[110, 117, 108, 108]⟩) := by
  unfold showB; rw [if_pos h]

/-- The first letter tells the kind. -/
def tag (k n : Int) (c : UInt8) : Prop := (k = 0 → c.toNat = 110) ∧ (k = 1 → c.toNat = 45 ∨ (48 ≤ c.toNat ∧ c.toNat ≤ 57)) ∧ (k = 2 → (n = 1 → c.toNat = 116) ∧ (n = 0 → c.toNat = 102)) ∧ (k = 3 → c.toNat = 39)
theorem itoa_head' (n : Int) : ∃ c X, Lib.itoa n = c :: X ∧ (c.toNat = 45 ∨ (48 ≤ c.toNat ∧ c.toNat ≤ 57)) := by
  by_cases hn : n < 0
  · exact ⟨45, Lib.decDigits n.natAbs, by unfold Lib.itoa; rw [if_pos hn], .inl rfl⟩
  · obtain ⟨c, r, e, h1, h2⟩ := dec_head n.toNat
    exact ⟨c, r, by unfold Lib.itoa; rw [if_neg hn, e], .inr ⟨h1, h2⟩⟩
theorem show_head {k n : Int} {s : ByteArray} (h : validB k n s = true) : ∃ c X, (showB k n s).toList = c :: X ∧ tag k n c := by
  rw [show_valid h, ByteArray.toList_eq]
  rcases valid_form h with ⟨rfl, rfl, rfl⟩ | ⟨rfl, rfl⟩ | ⟨rfl, rfl, rfl⟩ | ⟨rfl, rfl, rfl⟩ | ⟨rfl, rfl, hs⟩
  · exact ⟨110, [117, 108, 108], rfl, by unfold tag; simp⟩
  · obtain ⟨c, X, e, hc⟩ := itoa_head' n
    exact ⟨c, X, by simp [e], by unfold tag; simp; exact hc⟩
  · exact ⟨116, [114, 117, 101], rfl, by unfold tag; simp⟩
  · exact ⟨102, [97, 108, 115, 101], rfl, by unfold tag; simp⟩
  · exact ⟨39, escAll s.data.toList ++ [39], by simp, by unfold tag; simp⟩

theorem eqB_iff (k1 n1 : Int) (s1 : ByteArray) (k2 n2 : Int) (s2 : ByteArray) : eqB k1 n1 s1 k2 n2 s2 = true ↔ k1 = k2 ∧ n1 = n2 ∧ s1 = s2 := by
  unfold eqB
  simp only [Bool.and_eq_true, beq_iff_eq]
  exact ⟨fun ⟨a, b, c⟩ => ⟨a, b, toList_inj c⟩, fun ⟨a, b, c⟩ => ⟨a, b, by rw [c]⟩⟩

theorem show_inj {k1 n1 : Int} {s1 : ByteArray} {k2 n2 : Int} {s2 : ByteArray} (h1 : validB k1 n1 s1 = true) (h2 : validB k2 n2 s2 = true)
    (a0 : -9223372036854775808 ≤ n1) (a1 : n1 ≤ 9223372036854775807) (b0 : -9223372036854775808 ≤ n2) (b1 : n2 ≤ 9223372036854775807) (h : showB k1 n1 s1 = showB k2 n2 s2) :
    k1 = k2 ∧ n1 = n2 ∧ s1 = s2 := by
  obtain ⟨c, X, e1, t1⟩ := show_head h1
  obtain ⟨d, Y, e2, t2⟩ := show_head h2
  rw [h, e2] at e1
  have hcd : d = c := (List.cons.inj e1).1
  subst hcd
  have v1 := show_valid h1
  have v2 := show_valid h2
  unfold tag at t1 t2
  rcases valid_form h1 with ⟨rfl, rfl, rfl⟩ | ⟨rfl, rfl⟩ | ⟨rfl, rfl, rfl⟩ | ⟨rfl, rfl, rfl⟩ | ⟨rfl, rfl, hs1⟩ <;>
  rcases valid_form h2 with ⟨rfl, rfl, rfl⟩ | ⟨rfl, rfl⟩ | ⟨rfl, rfl, rfl⟩ | ⟨rfl, rfl, rfl⟩ | ⟨rfl, rfl, hs2⟩ <;>
  first
    | exact ⟨rfl, rfl, rfl⟩
    | (exfalso; simp at t1 t2; omega)
    | skip
  · rw [h, v2] at v1
    simp at v1
    have p1 := parse_itoa n1 a0 a1
    have p2 := parse_itoa n2 b0 b1
    rw [← v1, p2] at p1
    exact ⟨rfl, (by injection p1 with e; exact e.symm), rfl⟩
  · rw [h, v2] at v1
    simp at v1
    have := esc_all_inj _ _ v1
    exact ⟨rfl, rfl, (by apply ByteArray.ext; exact (Array.toList_inj.1 this).symm)⟩

theorem show_beq {k1 n1 : Int} {s1 : ByteArray} {k2 n2 : Int} {s2 : ByteArray} (h1 : validB k1 n1 s1 = true) (h2 : validB k2 n2 s2 = true)
    (a0 : -9223372036854775808 ≤ n1) (a1 : n1 ≤ 9223372036854775807) (b0 : -9223372036854775808 ≤ n2) (b1 : n2 ≤ 9223372036854775807) :
    ((showB k1 n1 s1).toList == (showB k2 n2 s2).toList) = eqB k1 n1 s1 k2 n2 s2 := by
  rw [Bool.eq_iff_iff, eqB_iff, beq_iff_eq]
  constructor
  · intro h
    exact show_inj h1 h2 a0 a1 b0 b1 (toList_inj h)
  · rintro ⟨rfl, rfl, rfl⟩
    rfl
theorem show_empty {k n : Int} {s : ByteArray} (h : validB k n s = true) : (showB k n s).toList.isEmpty = false := by
  obtain ⟨c, X, e, _⟩ := show_head h
  rw [e]; rfl
theorem show_none {k n : Int} {s : ByteArray} (h : validB k n s = false) : showB k n s = ⟨#[]⟩ := by
  unfold showB; rw [if_neg (by simp [h])]
theorem show_seven : showB 1 (-7) ⟨#[]⟩ = ⟨#[45, 55]⟩ := by
  have hv : validB 1 (-7) ⟨#[]⟩ = true := by unfold validB; simp
  rw [show_valid hv]
  show (⟨(Lib.itoa (-7)).toArray⟩ : ByteArray) = _
  have : Lib.itoa (-7) = [45, 55] := by
    unfold Lib.itoa
    rw [if_pos (by decide)]
    rw [show (-7 : Int).natAbs = 7 from rfl, Lib.decDigits_one (by decide)]
    rfl
  rw [this]
end Go.Proofs.YtodkekmfadfjkaaGreatDoor.Vl
