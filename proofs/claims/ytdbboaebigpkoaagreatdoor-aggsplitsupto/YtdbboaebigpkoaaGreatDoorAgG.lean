import Derived.Test.YtdbboaebigpkoaaGreatDoorAgF2
namespace Go.Proofs.YtdbboaebigpkoaaGreatDoor
open Go.RowKit Go.Maps
set_option linter.unusedVariables false
set_option linter.unusedSimpArgs false
set_option maxRecDepth 100000

def nv (l : List Tm) : List V := (nn l).map (·.v)
/-- Way 7: how many different ones. -/
def DSet (D : DataW Unit) (vs : List V) : Prop := Maps.size D = vs.length ∧ ∀ v, Fits v → (Maps.has D (keyV v) = true ↔ v ∈ vs)
def IDst (B : Nat) (w : World) (x : Value) (l : List Tm) : Prop := ∃ g m D, x = .iface 91 (ptr g) ∧ B ≤ g ∧ B ≤ m ∧ m ≠ g ∧ Own w g 94 1 [.map (some m)] ∧ w.ownsMap Tryz.prog 25 (unitElem (H := Unit)) m l.length D ∧ DSet D (dst (nv l)) ∧ l.length ≤ 8796093022200
theorem DSet.put {D : DataW Unit} {vs : List V} {v : V} (h : DSet D vs) (ht : Tidy D) (hv : Fits v) : DSet (D.put (keyV v) (.agg [])) (dstF vs v) := by
  have hk := lawV.key (keyV_of v hv)
  refine ⟨?_, fun u hu => ?_⟩
  · rw [size_put ht]
    unfold dstF
    cases hh : Maps.has D (keyV v) with
    | true =>
      rw [if_pos rfl, if_pos ((any_eqV v vs).2 ((h.2 v hv).1 hh))]; exact h.1
    | false =>
      have : ¬ vs.any (eqV v) = true := fun e => by have := (h.2 v hv).2 ((any_eqV v vs).1 e); rw [hh] at this; cases this
      rw [if_neg (by simp), if_neg this, h.1]; simp
  · rw [dstF_mem]
    by_cases e : u = v
    · subst e
      rw [has_put_same ht.isMap hk]
      exact ⟨fun _ => .inr rfl, fun _ => rfl⟩
    · rw [has_put_other (fun e' => e (keyV_inj u v hu hv e')), h.2 u hu]
      exact ⟨.inl, fun h => h.resolve_right e⟩
theorem nv_snoc (l : List Tm) (o : Tm) : nv (l ++ [o]) = if o.v.k = 0 then nv l else nv l ++ [o.v] := by
  unfold nv
  rw [nn_snoc]
  split <;> simp
set_option maxHeartbeats 1000000 in
theorem dstAdd_0 (g m : Nat) (o : Tm) (w : World) (ho : o.v.k = 0) :
    Calls Tryz.prog 92 #[ptr g, tmv o] w fun e w' => e = .returned (.tuple #[]) ∧ Below w.heap.size w w' := by
  have ho1 : (o.v.k != 0) = false := by simpa using ho
  unfold ptr tmv
  go_enter Tryz.func92, Tryz.ntmps92
  go_wp2
  go_end0
  exact ⟨rfl, bel1 _ _⟩
set_option maxHeartbeats 1000000 in
theorem dstAdd_1 (g m T n : Nat) (o : Tm) (D : DataW Unit) (w : World) (ho : o.v.k ≠ 0) (h : Own w g T 1 [.map (some m)]) (hM : w.ownsMap Tryz.prog 25 (unitElem (H := Unit)) m n D) (hn : n < maxLen) (hf : Fits o.v) :
    Calls Tryz.prog 92 #[ptr g, tmv o] w fun e w' => e = .returned (.tuple #[]) ∧ w'.ownsMap Tryz.prog 25 (unitElem (H := Unit)) m (n + 1) (D.put (keyV o.v) (.agg [])) ∧ w.grownBy w' (some m) := by
  have ho1 : (o.v.k != 0) = true := by simpa using ho
  have c0 : w.cell? ⟨g, 0, none⟩ = some (.map (some m)) := h.cell 0 (by decide)
  have hlt := h.lt
  have hkey := keyV_of o.v hf
  unfold vv at hkey
  clear h
  unfold ptr tmv
  obtain ⟨w1, hrun, hown1, hturn1⟩ := ((hM.alloc (.cells #[.int .i64 o.t, .int .i64 o.v.k, .int .i64 o.v.n, .string o.v.s] 46)).drew).store lawV Tryz.underlying92 hn hkey (unitElem_mk (H := Unit))
  have HO : Hid (w1.ownsMap Tryz.prog 25 (unitElem (H := Unit)) m (n + 1) (D.put (keyV o.v) (.agg []))) := hown1
  have HG : Hid (w.grownBy w1 (some m)) := grown_trans (grown_below (bel1 w _).drew) hturn1.grown
  clear hown1 hturn1 hM hkey
  go_enter Tryz.func92, Tryz.ntmps92
  go_wp2
  go_region
  go_wp2
  go_end0
  exact ⟨rfl, HO.out, HG.out⟩
set_option maxHeartbeats 1000000 in
theorem dstAns_any (g m T n : Nat) (D : DataW Unit) (w : World) (h : Own w g T 1 [.map (some m)]) (hM : w.ownsMap Tryz.prog 25 (unitElem (H := Unit)) m n D) (hn : n ≤ maxLen) :
    Calls Tryz.prog 93 #[ptr g] w fun e w' => e = .returned (vv ⟨1, Maps.size D, ⟨#[]⟩⟩) ∧ Below w.heap.size w w' := by
  have c0 : w.cell? ⟨g, 0, none⟩ = some (.map (some m)) := h.cell 0 (by decide)
  have hlt := h.lt
  have hsz := hM.size_le
  clear h
  unfold maxLen at hn
  unfold ptr vv
  have hw : IntKind.i64.wrap ((Maps.size D : Nat) : Int) = ((Maps.size D : Nat) : Int) := wi64 (by omega) (by omega)
  go_enter Tryz.func93, Tryz.ntmps93
  go_wp2_with (first | (at_len; refine wpList_len_own _ rfl _ 92 rfl 25 169 Tryz.underlying92 _ m n D rfl (hM.alloc _) ?_) | (go_at_call 25; refine (of_at _ _).mono ?_; rintro e w1 ⟨rfl, rfl⟩))
  exact bodyPost_ret (v := .agg #[.int .i64 1, .int .i64 (Maps.size D), .string ⟨#[]⟩]) (by simp [results, Tryz.results93, go_sem]) rfl ⟨rfl, by first | exact bel1 _ _ | exact bel2 _ _ _⟩
theorem meth_dstAdd (g : Nat) : Meth 91 (ptr g) "streamwright/agg.add" 92 (ptr g) := ⟨fun W => by kernel_rfl, fun W => by kernel_rfl, xent Tryz.func92 (by kernel_rfl) (by rfl)⟩
theorem meth_dstAns (g : Nat) : Meth 91 (ptr g) "streamwright/agg.answer" 93 (ptr g) := ⟨fun W => by kernel_rfl, fun W => by kernel_rfl, xent Tryz.func93 (by kernel_rfl) (by rfl)⟩
set_option maxHeartbeats 1000000 in
theorem begun_7 (w : World) : Calls Tryz.prog 16 #[.int .i64 7] w (fun e w' => ∃ x, e = .returned x ∧ IDst w.heap.size w' x [] ∧ Below w.heap.size w w') := by
  have hmm := @run_makeMap Tryz.prog
  go_enter Tryz.func16, Tryz.ntmps16
  go_wp2
  go_ret
  refine ⟨_, rfl, ⟨w.heap.size + 1, w.heap.size, .map [], rfl, Nat.le_succ _, Nat.le_refl _, by omega, ?_, (World.ownsMap_made w Tryz.prog 25 unitElem).alloc _, ⟨rfl, fun v _ => ?_⟩, by simp⟩, bel2 _ _ _⟩
  · have h := Own.new (w.alloc (.map #[] 0)) 94 1 #[.map (some w.heap.size)] rfl
    rw [show (w.alloc (.map #[] 0)).heap.size = w.heap.size + 1 from by simp] at h
    exact h
  · simp [Maps.has, dst, nv, nn]
theorem way_dst : IsWay 7 IDst where
  later B w w' x l h hb := by
    obtain ⟨g, m, D, h1, h2, h3, h4, h5, h6, h7, h8⟩ := h
    exact ⟨g, m, D, h1, h2, h3, h4, h5.later hb, h6.kept (grown_below (r := none) hb) (by simp), h7, h8⟩
  add B w x l o h hf hl := by
    obtain ⟨g, m, D, rfl, h2, h3, h4, h5, h6, h7, h8⟩ := h
    refine ⟨_, _, _, _, rfl, meth_dstAdd g, ?_⟩
    by_cases ho : o.v.k = 0
    · refine (dstAdd_0 g m o w ho).mono fun e w' ⟨he, hb⟩ => ⟨he, ⟨g, m, D, rfl, h2, h3, h4, h5.later hb, (h6.kept (grown_below (r := none) hb) (by simp)).mono (by simp), by rw [nv_snoc, if_pos ho]; exact h7, by simp; omega⟩, hb.mono (by have := h5.lt; omega)⟩
    · have ht := h6.tidy lawV
      refine (dstAdd_1 g m _ _ o D w ho h5 h6 (by unfold maxLen; omega) hf).mono fun e w' ⟨he, hM, hg⟩ => ⟨he, ⟨g, m, _, rfl, h2, h3, h4, h5.grown hg (fun e => h4 (Option.some.inj e).symm), by simpa using hM, ?_, by simp; omega⟩, below_own h3 h6.lt hg⟩
      rw [nv_snoc, if_neg ho, dst_snoc]
      exact h7.put ht hf
  answer B w x l h := by
    obtain ⟨g, m, D, rfl, h2, h3, h4, h5, h6, h7, h8⟩ := h
    refine ⟨_, _, _, _, rfl, meth_dstAns g, (dstAns_any g m _ _ D w h5 h6 (by unfold maxLen; omega)).mono fun e w' ⟨he, hb⟩ => ⟨?_, hb⟩⟩
    rw [he, h7.1]; rfl
  beg := begun_7
/-- Each of the seven ways is one. -/
theorem way_of (kind : Int) (h : 1 ≤ kind ∧ kind ≤ 7) : ∃ I, IsWay kind I := by
  by_cases h1 : kind = 1
  · subst h1; exact ⟨_, way_cnt⟩
  by_cases h2 : kind = 2
  · subst h2; exact ⟨_, way_sum⟩
  by_cases h7 : kind = 7
  · subst h7; exact ⟨_, way_dst⟩
  exact ⟨_, way_pick kind (by omega)⟩
end Go.Proofs.YtdbboaebigpkoaaGreatDoor
