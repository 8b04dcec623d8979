import Derived.Test.YtodkekmfadfjkaaGreatDoorSrD
namespace Go.Proofs.YtodkekmfadfjkaaGreatDoor
open Go.RowKit
set_option linter.unusedVariables false
set_option linter.unusedSimpArgs false
set_option maxRecDepth 100000

/-- A row that is shown so. -/
def Is (l : List UInt8) (t : Int) (vs : List V) : Prop := validR ⟨t, vs⟩ = true ∧ (∀ v ∈ vs, FitV v) ∧ showR t vs = l
theorem Is.val {l : List UInt8} {t : Int} {vs : List V} (h : Is l t vs) : ∀ v ∈ vs, validV v = true := by
  have q := h.1
  unfold validR at q
  rw [Bool.and_eq_true] at q
  exact List.all_eq_true.1 q.1
theorem Is.time {l : List UInt8} {t : Int} {vs : List V} (h : Is l t vs) : 0 ≤ t ∧ t ≤ 1099511627776 ∧ vs.length ≤ 8 := by
  have q := h.1
  unfold validR at q
  simp only [Bool.and_eq_true, decide_eq_true_eq] at q
  exact ⟨q.2.1.1, q.2.1.2, q.2.2⟩
theorem colon_itoa (t : Int) : (58 : UInt8) ∉ Lib.itoa t := fun hm => by
  rcases itoa_mem _ _ hm with q | q <;> simp at q
theorem cut_uniq {a b a' b' : List UInt8} {c : UInt8} (h : a ++ c :: b = a' ++ c :: b') (h1 : c ∉ a) (h2 : c ∉ a') : a = a' ∧ b = b' := by
  have q1 := ib_at a b c h1
  have q2 := ib_at a' b' c h2
  rw [h, q2] at q1
  have hl : a.length = a'.length := by omega
  obtain ⟨e1, e2⟩ := List.append_inj h hl
  exact ⟨e1, (List.cons.inj e2).2⟩
theorem itoa_inj {t t' : Int} (h0 : -9223372036854775808 ≤ t ∧ t ≤ 9223372036854775807) (h1 : -9223372036854775808 ≤ t' ∧ t' ≤ 9223372036854775807) (h : Lib.itoa t = Lib.itoa t') : t = t' := by
  have v : ∀ x : Int, Vl.validB 1 x ⟨#[]⟩ = true := fun x => by unfold Vl.validB; simp
  have s : ∀ x : Int, Vl.showB 1 x ⟨#[]⟩ = ⟨(Lib.itoa x).toArray⟩ := fun x => by unfold Vl.showB; rw [if_pos (v x)]; rfl
  exact (Vl.show_inj (v t) (v t') h0.1 h0.2 h1.1 h1.2 (by rw [s, s, h])).2.1
theorem int_show (k n : Int) (s : ByteArray) (t : Int) (hv : Vl.validB k n s = true) (h0 : -9223372036854775808 ≤ n) (h1 : n ≤ 9223372036854775807) (t0 : -9223372036854775808 ≤ t) (t1 : t ≤ 9223372036854775807) (h : Vl.showB k n s = ⟨(Lib.itoa t).toArray⟩) : k = 1 ∧ n = t := by
  have v : Vl.validB 1 t ⟨#[]⟩ = true := by unfold Vl.validB; simp
  have e : Vl.showB 1 t ⟨#[]⟩ = ⟨(Lib.itoa t).toArray⟩ := by unfold Vl.showB; rw [if_pos v]; rfl
  have q := Vl.show_inj hv v h0 h1 t0 t1 (h.trans e.symm)
  exact ⟨q.1, q.2.1⟩
/-- The program's reader of a value, in the words of values. -/
def ReadOk (w : World) (l : List UInt8) (e : Ending) (w' : World) : Prop := Below w.heap.size w w' ∧
  ((∃ v : V, validV v = true ∧ FitV v ∧ sh v = l ∧ e = .returned (.tuple #[.agg #[.int .i64 v.k, .int .i64 v.n, .string v.s], .nilIface])) ∨
   ((∀ v : V, FitV v → validV v = true → sh v ≠ l) ∧ e = .returned (.tuple #[.agg #[.int .i64 0, .int .i64 0, .string ⟨#[]⟩], .iface 31 (.int .i64 1)])))
theorem valid_fit {k n : Int} {s : ByteArray} (h : Vl.validB k n s = true) (h0 : -9223372036854775808 ≤ n) (h1 : n ≤ 9223372036854775807) : FitV ⟨k, n, s⟩ := by
  refine ⟨?_, h0, h1⟩
  rcases Vl.valid_form h with ⟨_, _, rfl⟩ | ⟨_, rfl⟩ | ⟨_, _, rfl⟩ | ⟨_, _, rfl⟩ | ⟨_, _, h⟩
  · exact Nat.zero_le _
  · exact Nat.zero_le _
  · exact Nat.zero_le _
  · exact Nat.zero_le _
  · show s.size ≤ maxLen; unfold maxLen; omega
theorem read_V (l : List UInt8) (w : World) (hs : l.length ≤ 140737488355327) (h2 : Vl.Sen w) (h3 : Vl.Sen3 w) (ht : Vl.Tab w) :
    Calls Tryz.prog 23 #[.string ⟨l.toArray⟩] w (ReadOk w l) := by
  refine (Vl.read_tot ⟨l.toArray⟩ w hs h2 h3 ht).mono ?_
  rintro e w' ⟨hb, h⟩
  refine ⟨hb, ?_⟩
  rcases h with ⟨k, n, t, hv, h0, h1, hsh, rfl⟩ | ⟨hno, rfl⟩
  · exact .inl ⟨⟨k, n, t⟩, hv, valid_fit hv h0 h1, by unfold sh shB; rw [hsh], rfl⟩
  · exact .inr ⟨fun v hf hv e => hno v.k v.n v.s hf.2.1 hf.2.2 hv (by rw [← e]; exact shB_eq v), rfl⟩
theorem sh_inj {v v' : V} (h : validV v = true) (h' : validV v' = true) (f : FitV v) (f' : FitV v') (e : sh v = sh v') : v = v' := by
  obtain ⟨q1, q2, q3⟩ := Vl.show_inj (k1 := v.k) (n1 := v.n) (s1 := v.s) (k2 := v'.k) (n2 := v'.n) (s2 := v'.s) h h' f.2.1 f.2.2 f'.2.1 f'.2.2 (by have := congrArg (fun l : List UInt8 => (⟨l.toArray⟩ : ByteArray)) e; rw [← shB_eq, ← shB_eq] at this; exact this)
  cases v; cases v'; simp_all
/-- What is left to be read. -/
def Left (l : List UInt8) (t : Int) (acc : List V) (rest : List UInt8) : Prop := ∀ t' vs', Is l t' vs' → t' = t ∧ ∃ ws, vs' = acc ++ ws ∧ rest = tl ws
end Go.Proofs.YtodkekmfadfjkaaGreatDoor
