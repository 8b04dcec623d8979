import Derived.Test.YthdbfgnjeolfaaaDoorSrB
namespace Go.Proofs.YthdbfgnjeolfaaaDoor
open Go.RowKit
set_option linter.unusedVariables false
set_option linter.unusedSimpArgs false
set_option maxRecDepth 100000
set_option maxHeartbeats 4000000

/-- What flows: its kind, its row, its time. -/
abbrev Out := Int × Rw × Int
def rowO (r : Rw) : Out := (1, r, 0)
def timeO (t : Int) : Out := (2, ⟨0, []⟩, t)
def tellS (tm t : Int) : List Out × Int := if t ≤ tm then ([], tm) else ([timeO t], t)
def takeS (rs : List Rw) (bd : Int) (at_ : Nat) (tm lt : Int) : List Out × Nat × Int × Int :=
  if rs.length < at_ then ([], at_, tm, lt)
  else match rs[at_]? with
    | none => ((tellS tm 1099511627777).1, at_ + 1, (tellS tm 1099511627777).2, lt)
    | some r => if r.t < tm then ([], at_ + 1, tm, lt + 1) else (rowO r :: (tellS tm (r.t - bd)).1, at_ + 1, (tellS tm (r.t - bd)).2, lt)

structure El where
  k : Int
  q : Q
  t : Int
def cellsE (e : El) : List Value := [.int .i64 e.k, .int .i64 e.q.r.t, .slice e.q.a e.q.r.vs.length e.q.c, .int .i64 e.t, .int .i64 0]
def outE (e : El) : Out := (e.k, e.q.r, e.t)
def tmE (t : Int) : El := ⟨2, ⟨⟨0, []⟩, none, 0⟩, t⟩
/-- Elements in a row of one's own, their values apart. -/
structure OE (w : World) (B : Nat) (x : Value) (els : List El) : Prop where
  own : w.ownsRow B 62 5 x els.length (els.flatMap cellsE)
  vals : ∀ e ∈ els, OV w B (.slice e.q.a e.q.r.vs.length e.q.c) e.q.r.vs
  apart : ∀ e ∈ els, ∀ y, e.q.a = some y → some y.block ≠ x.ownBlock
theorem infoE : (Tryd.prog.info? 62).map (fun i => (i.zero, i.size, i.bytes)) = some (some (.agg #[.int .i64 0, .int .i64 0, .slice none 0 0, .int .i64 0, .int .i64 0]), 5, 56) := by kernel_rfl

theorem ended_any (w : World) (g : Nat) (a : Option Addr) (n c : Nat) (bd at_ tm lt : Int) (h : Rdr w g (.slice a n c) bd at_ tm lt) :
    Calls Tryd.prog 15 #[.pointer (some ⟨g, 0, none⟩)] w fun e w' => e = .returned (.bool (decide (at_ > (n : Int)))) ∧ ∃ m, w' = w.drewN m := by
  obtain ⟨c0, c1, c2, c3, c4⟩ := h.cells
  clear h
  go_enter Tryd.func15, Tryd.ntmps15
  go_wp2
  go_quiet (fail)
  go_wp2
  go_ret
  exact ⟨rfl, _, rfl⟩

def TellPost (w : World) (g : Nat) (tm t : Int) (e : Ending) (w' : World) : Prop :=
  (t ≤ tm ∧ e = .returned (.slice none 0 0) ∧ w' = w) ∨ (tm < t ∧ e = .returned (.slice (some ⟨w.heap.size, 0, none⟩) 1 1) ∧ w' = (w.setCell ⟨g, 3, none⟩ (.int .i64 t)).alloc (.cells #[.int .i64 2, .int .i64 0, .slice none 0 0, .int .i64 t, .int .i64 0] 62))
theorem tell_any (w : World) (g : Nat) (x : Value) (bd at_ tm lt t : Int) (h : Rdr w g x bd at_ tm lt) :
    Calls Tryd.prog 24 #[.pointer (some ⟨g, 0, none⟩), .int .i64 t] w (TellPost w g tm t) := by
  obtain ⟨c0, c1, c2, c3, c4⟩ := h.cells
  have s3 := Own.soft h 3
  clear h
  by_cases ht : t ≤ tm
  · go_enter Tryd.func24, Tryd.ntmps24
    go_wp2
    go_ret
    exact .inl ⟨ht, rfl, rfl⟩
  · go_enter Tryd.func24, Tryd.ntmps24
    go_wp2
    go_ret
    exact .inr ⟨by omega, by simp, rfl⟩
theorem late_any (w : World) (g : Nat) (x : Value) (bd at_ tm lt : Int) (h : Rdr w g x bd at_ tm lt) :
    Calls Tryd.prog 14 #[.pointer (some ⟨g, 0, none⟩)] w fun e w' => e = .returned (.int .i64 lt) ∧ w' = w := by
  obtain ⟨c0, c1, c2, c3, c4⟩ := h.cells
  clear h
  go_enter Tryd.func14, Tryd.ntmps14
  go_wp2
  go_ret
  exact ⟨rfl, rfl⟩
end Go.Proofs.YthdbfgnjeolfaaaDoor
