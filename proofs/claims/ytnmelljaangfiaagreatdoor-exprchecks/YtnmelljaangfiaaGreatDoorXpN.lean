import Derived.Test.YtnmelljaangfiaaGreatDoorXpM
namespace Go.Proofs.YtnmelljaangfiaaGreatDoor
open Go.RowKit
set_option linter.unusedVariables false
set_option linter.unusedSimpArgs false
set_option maxRecDepth 100000

/-- Tokens that lie from a place on. -/
def TkAt (w : World) (b off : Nat) (l : List Tk) : Prop := ∀ i (h : i < l.length), w.cell? ⟨b, off + i * 3, none⟩ = some (.int .i64 l[i].pl) ∧ w.cell? ⟨b, off + i * 3 + 1, none⟩ = some (.int .i64 l[i].kd) ∧ w.cell? ⟨b, off + i * 3 + 2, none⟩ = some (.string l[i].tx)
theorem TkAt.grown {w w' : World} {b off : Nat} {l : List Tk} {r : Option Nat} (h : TkAt w b off l) (hg : w.grownBy w' r) (hne : some b ≠ r) : TkAt w' b off l := fun i hi =>
  have ⟨h1, h2, h3⟩ := h i hi
  ⟨hg.cell h1 hne, hg.cell h2 hne, hg.cell h3 hne⟩
theorem TkAt.tail {w : World} {b off : Nat} {t : Tk} {l : List Tk} (h : TkAt w b off (t :: l)) : TkAt w b (off + 3) l := fun i hi => by
  have := h (i + 1) (by simp; omega)
  rw [show off + (i + 1) * 3 = off + 3 + i * 3 by omega] at this
  exact this
theorem OT.at {w : World} {B g n c : Nat} {ts : List Tk} (h : OT w B (.slice (some ⟨g, 0, none⟩) n c) ts) : TkAt w g 0 ts := fun i hi => by
  have hn : n = ts.length := by
    rcases h.2 with ⟨h1, _⟩ | ⟨g', c', cur, h1, _⟩
    · cases h1
    · cases h1; rfl
  subst hn
  have key : ∀ j, j < 3 → w.cell? ⟨g, i * 3 + j, none⟩ = (cellsT ts[i])[j]? := fun j hj => by
    rw [World.ownsRow.cellAt h (i * 3 + j) (by omega), flatAt cellsT 3 (fun _ => rfl) ts i j hi hj]
  rw [Nat.zero_add]
  exact ⟨key 0 (by decide), key 1 (by decide), key 2 (by decide)⟩

/-- A struct of 'n' cells in a block of one's own. -/
def Own (w : World) (g t n : Nat) (xs : List Value) : Prop := w.ownsRow g t n (.slice (some ⟨g, 0, none⟩) 1 1) 1 xs
theorem Own.grown {w w' : World} {g t n : Nat} {xs : List Value} {r : Option Nat} (h : Own w g t n xs) (hg : w.grownBy w' r) (hne : some g ≠ r) : Own w' g t n xs :=
  xownGrown h hg fun k hk => by cases hk; exact hne
theorem Own.later {w w' : World} {g t n : Nat} {xs : List Value} (h : Own w g t n xs) (hb : Below w.heap.size w w') : Own w' g t n xs := xownLater h hb
theorem Own.lt {w : World} {g t n : Nat} {xs : List Value} (h : Own w g t n xs) : g < w.heap.size := (World.ownsRow.lt h g rfl).2
theorem Own.cell {w : World} {g t n : Nat} {xs : List Value} (h : Own w g t n xs) (j : Nat) (hj : j < n) : w.cell? ⟨g, j, none⟩ = xs[j]? := World.ownsRow.cellAt h j (by omega)
theorem Own.soft {w : World} {g t n : Nat} {xs : List Value} (h : Own w g t n xs) (j : Nat) : w.frozen? ⟨g, j, none⟩ = false := World.ownsRow.frozenAt h j
theorem Own.put {w : World} {g t n : Nat} {xs : List Value} (h : Own w g t n xs) (j : Nat) (u : Value) : Own (w.setCell ⟨g, j, none⟩ u) g t n (xs.set j u) ∧ w.grownBy (w.setCell ⟨g, j, none⟩ u) (some g) := World.ownsRow.stored h j u
theorem Own.new (w : World) (t n : Nat) (cs : Array Value) (hs : cs.size = n) : Own (w.alloc (.cells cs t)) w.heap.size t n cs.toList :=
  World.ownsRow_lit (base := w.heap.size) (e := t) (size := n) w cs 1 (Nat.le_refl _) (by decide) (by omega)

/-- The parser: what tokens are left, ahead of the end at 'E', and how many levels it is in. -/
def PS (w : World) (g E : Nat) (ts : List Tk) (lev : Nat) : Prop := ∃ b off cap, Own w g 116 2 [.slice (some ⟨b, off, none⟩) (ts.length + 1) cap, .int .i64 lev] ∧ b < g ∧ ts.length + 1 ≤ cap ∧ cap ≤ maxLen ∧ TkAt w b off (ts ++ [⟨E, 0, ⟨#[]⟩⟩]) ∧ (∀ t ∈ ts, t.kd ≠ 0 ∧ t.tx.size ≠ 0) ∧ ts.length ≤ 200 ∧ lev ≤ 12
theorem PS.grown {w w' : World} {g E : Nat} {ts : List Tk} {lev : Nat} {r : Option Nat} (h : PS w g E ts lev) (hg : w.grownBy w' r) (hr : ∀ k, r = some k → g < k) : PS w' g E ts lev := by
  obtain ⟨b, off, cap, h1, h2, h3, h4, h5, h6⟩ := h
  exact ⟨b, off, cap, h1.grown hg (fun e => by have := hr g e.symm; omega), h2, h3, h4, h5.grown hg (fun e => by have := hr b e.symm; omega), h6⟩
theorem PS.later {w w' : World} {g E : Nat} {ts : List Tk} {lev : Nat} (h : PS w g E ts lev) (hb : Below w.heap.size w w') : PS w' g E ts lev := h.grown (r := none) (xgBelow hb) (fun k hk => by cases hk)
theorem PS.lt {w : World} {g E : Nat} {ts : List Tk} {lev : Nat} (h : PS w g E ts lev) : g < w.heap.size := by obtain ⟨b, off, cap, h1, _⟩ := h; exact h1.lt
theorem hd_at {w : World} {b off E : Nat} {ts : List Tk} (h : TkAt w b off (ts ++ [⟨E, 0, ⟨#[]⟩⟩])) : w.cell? ⟨b, off, none⟩ = some (.int .i64 (hd E ts).pl) ∧ w.cell? ⟨b, off + 1, none⟩ = some (.int .i64 (hd E ts).kd) ∧ w.cell? ⟨b, off + 2, none⟩ = some (.string (hd E ts).tx) := by
  have := h 0 (by simp)
  cases ts with
  | nil => simpa [hd] using this
  | cons t ts => simpa [hd] using this

theorem slice_tok (b o len cap : Nat) (h1 : 1 ≤ len) (h2 : cap ≠ 1) (W : World) :
    (Instr.slice 113 (.slice (some ⟨b, o, none⟩) len cap) (some (.int .i64 1)) none none).run Tryz.prog W = .ok (.slice (some ⟨b, o + 3, none⟩) (len - 1) (cap - 1)) W := by
  rw [run_slice_l (P := Tryz.prog) W 113 (some ⟨b, o, none⟩) len cap (Tryz.underlying113.trans (by kernel_rfl)) .i64 _ (by omega) (by omega)]
  have hs : (sizeOf (Tryz.prog.elem 113)).run Tryz.prog W = .ok 3 W := by
    rw [show Tryz.prog.elem 113 = 149 by kernel_rfl]; exact Tryz.sizeOf149 W
  rw [hs]
  simp only [Result.andThen, sliced, Option.map]
  rw [show ((1 : Int).toNat) = 1 by rfl, if_neg h2, show ∀ j, (Addr.mk b o none).add j = Addr.mk b (o + j) none from fun j => WideShapes.add_plain ..]
theorem sliceAt_tok (b o len cap : Nat) (h1 : 1 ≤ len) (h2 : cap ≠ 1) (W : World) :
    (Instr.sliceAt 113 (.slice (some ⟨b, o, none⟩) len cap) (some (.int .i64 1)) none none).run Tryz.prog W = .ok (.slice (some ⟨b, o + 3, none⟩) (len - 1) (cap - 1)) W := by
  rw [run_sliceAt_slice W 113 _ _ _ _ (Tryz.underlying113.trans (by kernel_rfl))]
  exact slice_tok b o len cap h1 h2 W

set_option maxHeartbeats 1000000 in
theorem next_any (g E lev : Nat) (ts : List Tk) (w : World) (h : PS w g E ts lev) :
    Calls Tryz.prog 91 #[.pointer (some ⟨g, 0, none⟩)] w fun e w' => e = .returned (tkV (hd E ts)) ∧ Below w.heap.size w w' := by
  obtain ⟨b, off, cap, h1, h2, h3, h4, h5, h6⟩ := h
  have c0 : w.cell? ⟨g, 0, none⟩ = some (.slice (some ⟨b, off, none⟩) (ts.length + 1) cap) := by rw [h1.cell 0 (by decide)]; rfl
  obtain ⟨d0, d1, d2⟩ := hd_at h5
  have hgl := h1.lt
  have hbl : b < w.heap.size := by omega
  have hl : (0 : Int) < (ts.length : Int) + 1 := by omega
  clear h1 h5 h6
  go_enter Tryz.func91, Tryz.ntmps91
  go_wp2
  exact bodyPost_ret (v := tkV (hd E ts)) (by simp [results, Tryz.results91, go_sem]; rfl) rfl ⟨rfl, xbel1 _ _⟩

/-- What is given back by what goes on. -/
def TakePost (w : World) (g E lev : Nat) (ts : List Tk) (e : Ending) (w' : World) : Prop := e = .returned (tkV (hd E ts)) ∧ w.grownBy w' (some g) ∧ PS w' g E ts.tail lev

set_option maxHeartbeats 1000000 in
theorem take_any (g E lev : Nat) (ts : List Tk) (w : World) (h : PS w g E ts lev) :
    Calls Tryz.prog 70 #[.pointer (some ⟨g, 0, none⟩)] w (TakePost w g E lev ts) := by
  have HP : Hid (PS w g E ts lev) := h
  have hgl := h.lt
  clear h
  go_enter Tryz.func70, Tryz.ntmps70
  go_wp2_with fail
  refine (next_any g E lev ts _ (HP.out.later (xbel1 _ _))).mono ?_
  rintro e w1 ⟨rfl, hb⟩
  have hB : Below w.heap.size w w1 := (xbel1 w _).trans (hb.mono (by simp))
  have hP1 := HP.out.later hB
  have HP1 : Hid (PS w1 g E ts lev) := hP1
  have HB : Hid (Below w.heap.size w w1) := hB
  have hR := (Own.new w 149 3 #[.int .i64 0, .int .i64 0, .string ⟨#[]⟩] rfl).later hb
  have q0 : w1.cell? ⟨w.heap.size, 0, none⟩ = some (.int .i64 0) := by rw [hR.cell 0 (by decide)]; rfl
  have q1 : w1.cell? ⟨w.heap.size, 1, none⟩ = some (.int .i64 0) := by rw [hR.cell 1 (by decide)]; rfl
  have q2 : w1.cell? ⟨w.heap.size, 2, none⟩ = some (.string ⟨#[]⟩) := by rw [hR.cell 2 (by decide)]; rfl
  have f0 := hR.soft 0
  have f1 := hR.soft 1
  have f2 := hR.soft 2
  have hwl : w.heap.size < w1.heap.size := hR.lt
  clear hb hB HP hR
  cases ts with
  | nil =>
    simp only [hd, tkV]
    go_wp2_with fail
    refine bodyPost_ret (v := tkV (hd E [])) (by simp [results, Tryz.results70, go_sem, q0, q1, q2, hwl]; rfl) rfl ⟨rfl, ?_, ?_⟩
    · refine xgNew (r' := none) ?_ (xgBelow (xbel1 _ _)) (fun k hk => by cases hk)
      repeat (first | exact xgBelow HB.out | refine xgNew ?_ (xgSet _ _ _) (fun k hk => by cases hk; exact Nat.le_refl _))
    · refine PS.later ?_ (xbel1 _ _)
      repeat (first | exact HP1.out | refine PS.grown ?_ (xgSet _ _ _) (fun k hk => by cases hk; exact hgl))
  | cons t ts =>
    obtain ⟨b, off, cap, h1, h2, h3, h4, h5, h6⟩ := hP1
    have ht := (h6.1 t (by simp)).1
    have HO : Hid (Own w1 g 116 2 [.slice (some ⟨b, off, none⟩) ((t :: ts).length + 1) cap, .int .i64 lev]) := h1
    have H5 : Hid (TkAt w1 b off (t :: ts ++ [⟨E, 0, ⟨#[]⟩⟩])) := h5
    have H6 : Hid ((∀ t_1 ∈ t :: ts, t_1.kd ≠ 0 ∧ t_1.tx.size ≠ 0) ∧ (t :: ts).length ≤ 200 ∧ lev ≤ 12) := h6
    have c0 : w1.cell? ⟨g, 0, none⟩ = some (.slice (some ⟨b, off, none⟩) (ts.length + 2) cap) := by rw [h1.cell 0 (by decide)]; rfl
    have fg := h1.soft 0
    simp only [hd, tkV]
    have hk : ((t.kd : Int) == 0) = false := by rw [beq_eq_false_iff_ne]; omega
    have hk2 : ((t.kd : Int) != 0) = true := by rw [bne, hk]; rfl
    have hsl := slice_tok b off (ts.length + 2) cap (by omega) (by simp at h3; omega)
    have hsl2 := sliceAt_tok b off (ts.length + 2) cap (by omega) (by simp at h3; omega)
    have hg1 : g < w1.heap.size := by omega
    have hb1 : b < w1.heap.size := by omega
    clear h1 h5 h6 HP1 ht
    go_wp2_with fail
    obtain ⟨hOp, hgp⟩ := HO.out.put 0 (.slice (some ⟨b, off + 3, none⟩) (ts.length + 1) (cap - 1))
    have hPS : PS (w1.setCell ⟨g, 0, none⟩ (.slice (some ⟨b, off + 3, none⟩) (ts.length + 1) (cap - 1))) g E ts lev := by
      refine ⟨b, off + 3, cap - 1, hOp, h2, by simp at h3; omega, by omega, (TkAt.tail H5.out).grown hgp (fun e => by have := Option.some.inj e; omega), fun t ht => H6.out.1 t (by simp [ht]), ?_, H6.out.2.2⟩
      have := H6.out.2.1
      simp at this
      omega
    refine bodyPost_ret (v := tkV t) (by simp [results, Tryz.results70, go_sem, q0, q1, q2, hwl, Nat.ne_of_lt hgl]; rfl) rfl ⟨rfl, ?_, ?_⟩
    · refine xgNew (r' := none) ?_ (xgBelow (xbel1 _ _)) (fun k hk => by cases hk)
      repeat (first | exact xgTrans (xgBelow HB.out) hgp | refine xgNew ?_ (xgSet _ _ _) (fun k hk => by cases hk; exact Nat.le_refl _))
    · refine PS.later ?_ (xbel1 _ _)
      repeat (first | exact hPS | refine PS.grown ?_ (xgSet _ _ _) (fun k hk => by cases hk; exact hgl))

/-- What is given back where a token must stand. -/
def WantPost (w : World) (g E lev : Nat) (ts : List Tk) (x : ByteArray) (e : Ending) (w' : World) : Prop := w.grownBy w' (some g) ∧
  if (hd E ts).tx = x then e = .returned (.tuple #[]) ∧ PS w' g E ts.tail lev else e = fltE (hd E ts).pl 1

set_option maxHeartbeats 1000000 in
theorem want_any (g E lev : Nat) (ts : List Tk) (x : ByteArray) (w : World) (h : PS w g E ts lev) :
    Calls Tryz.prog 42 #[.pointer (some ⟨g, 0, none⟩), .string x] w (WantPost w g E lev ts x) := by
  have HP : Hid (PS w g E ts lev) := h
  have hgl := h.lt
  clear h
  generalize hT : hd E ts = T at *
  go_enter Tryz.func42, Tryz.ntmps42
  go_wp2_with fail
  refine (take_any g E lev ts _ HP.out).mono ?_
  rintro e w1 ⟨rfl, hg, hp⟩
  have HG : Hid (w.grownBy w1 (some g)) := hg
  have HP1 : Hid (PS w1 g E ts.tail lev) := hp
  have HT : Hid (hd E ts = T) := hT
  rw [hT]
  clear hg hp hT HP
  simp only [tkV]
  by_cases hx : T.tx = x
  · have hq := xeq hx
    have HX : Hid (T.tx = x) := hx
    clear hx
    go_wp2_with fail
    go_end0
    unfold WantPost
    rw [HT.out, if_pos HX.out]
    exact ⟨xgNew (r' := none) HG.out (xgBelow (xbel1 _ _)) (fun k hk => by cases hk), rfl, HP1.out.later (xbel1 _ _)⟩
  · have hq := xne hx
    have HX : Hid (¬ T.tx = x) := hx
    clear hx
    go_wp2_with fail
    refine ⟨rfl, ?_⟩
    unfold WantPost
    rw [HT.out, if_neg HX.out]
    exact ⟨xgNew (r' := none) HG.out (xgBelow (xbel1 _ _)) (fun k hk => by cases hk), rfl⟩

/-- A level begins. -/
def EnterPost (w : World) (g E lev : Nat) (ts : List Tk) (pl : Nat) (e : Ending) (w' : World) : Prop := w.grownBy w' (some g) ∧
  if lev = 12 then e = fltE pl 4 else e = .returned (.tuple #[]) ∧ PS w' g E ts (lev + 1)
set_option maxHeartbeats 1000000 in
theorem enter_any (g E lev : Nat) (ts : List Tk) (t : Tk) (w : World) (h : PS w g E ts lev) :
    Calls Tryz.prog 131 #[.pointer (some ⟨g, 0, none⟩), tkV t] w (EnterPost w g E lev ts t.pl) := by
  have hgl := h.lt
  obtain ⟨b, off, cap, h1, h2, h3, h4, h5, h6⟩ := h
  have HO : Hid (Own w g 116 2 [.slice (some ⟨b, off, none⟩) (ts.length + 1) cap, .int .i64 lev]) := h1
  have H5 : Hid (TkAt w b off (ts ++ [⟨E, 0, ⟨#[]⟩⟩])) := h5
  have H6 : Hid ((∀ t_1 ∈ ts, t_1.kd ≠ 0 ∧ t_1.tx.size ≠ 0) ∧ ts.length ≤ 200 ∧ lev ≤ 12) := h6
  have c1 : w.cell? ⟨g, 1, none⟩ = some (.int .i64 lev) := by rw [h1.cell 1 (by decide)]; rfl
  have fg := h1.soft 1
  have hlev := h6.2.2
  clear h1 h5 h6
  unfold tkV
  by_cases hl : lev = 12
  · subst hl
    go_enter Tryz.func131, Tryz.ntmps131
    go_wp2_with fail
    refine ⟨rfl, ?_⟩
    unfold EnterPost
    rw [if_pos rfl]
    exact ⟨xgBelow (by first | exact xbel1 _ _ | exact Below.refl _ _), rfl⟩
  · have hne : ((lev : Int) == 12) = false := by rw [beq_eq_false_iff_ne]; omega
    have HL : Hid (¬ lev = 12) := hl
    have hw : IntKind.i64.wrap ((lev : Int) + 1) = ((lev + 1 : Nat) : Int) := by rw [IntKind.wrap_i64]; omega
    clear hl
    go_enter Tryz.func131, Tryz.ntmps131
    go_wp2_with fail
    go_end0
    obtain ⟨hOp, hgp⟩ := HO.out.put 1 (.int .i64 ((lev : Int) + 1))
    unfold EnterPost
    rw [if_neg HL.out]
    refine ⟨xgNew (r' := none) hgp (xgBelow (xbel1 _ _)) (fun k hk => by cases hk), rfl, PS.later ⟨b, off, cap, hOp, h2, h3, h4, H5.out.grown hgp (fun e => by have := Option.some.inj e; omega), H6.out.1, H6.out.2.1, ?_⟩ (xbel1 _ _)⟩
    have h1 := H6.out.2.2
    have h2 := HL.out
    omega

set_option maxHeartbeats 1000000 in
theorem leave_any (g E lev : Nat) (ts : List Tk) (w : World) (h : PS w g E ts (lev + 1)) :
    Calls Tryz.prog 133 #[.pointer (some ⟨g, 0, none⟩)] w fun e w' => e = .returned (.tuple #[]) ∧ w.grownBy w' (some g) ∧ PS w' g E ts lev := by
  have hgl := h.lt
  obtain ⟨b, off, cap, h1, h2, h3, h4, h5, h6⟩ := h
  have HO : Hid (Own w g 116 2 [.slice (some ⟨b, off, none⟩) (ts.length + 1) cap, .int .i64 ((lev + 1 : Nat) : Int)]) := h1
  have H5 : Hid (TkAt w b off (ts ++ [⟨E, 0, ⟨#[]⟩⟩])) := h5
  have H6 : Hid ((∀ t_1 ∈ ts, t_1.kd ≠ 0 ∧ t_1.tx.size ≠ 0) ∧ ts.length ≤ 200 ∧ lev + 1 ≤ 12) := h6
  obtain ⟨n, hn⟩ : ∃ n : Int, n = ((lev + 1 : Nat) : Int) := ⟨_, rfl⟩
  have hw : n - 1 = (lev : Int) := by omega
  have hn0 : 1 ≤ n := by omega
  have hn1 : n ≤ 12 := by omega
  have c1 : w.cell? ⟨g, 1, none⟩ = some (.int .i64 n) := by rw [h1.cell 1 (by decide), hn]; rfl
  have fg := h1.soft 1
  have HW : Hid (n - 1 = (lev : Int)) := hw
  clear h1 h5 h6 hn hw
  go_enter Tryz.func133, Tryz.ntmps133
  go_wp2_with fail
  go_end0
  rw [HW.out]
  obtain ⟨hOp, hgp⟩ := HO.out.put 1 (.int .i64 (lev : Int))
  have h6 := H6.out
  exact ⟨rfl, hgp, b, off, cap, hOp, h2, h3, h4, H5.out.grown hgp (fun e => by have := Option.some.inj e; omega), h6.1, h6.2.1, by omega⟩

theorem signRank_any (t : ByteArray) (w : World) : Calls Tryz.prog 90 #[.string t] w fun e w' => e = .returned (.int .i64 (sgn t)) ∧ w' = w := by
  go_enter Tryz.func90, Tryz.ntmps90
  go_wp2
  all_goals go_ret
  all_goals simp_all [xl, sgn, bAnd, bOr, bEq, bNe, bLt, bLe, bGt, bGe, bPlus, bMinus, bCat, bMul, bDiv, bMod]
end Go.Proofs.YtnmelljaangfiaaGreatDoor
