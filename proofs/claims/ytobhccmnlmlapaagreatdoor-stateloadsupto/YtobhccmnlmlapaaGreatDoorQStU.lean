import Derived.Test.YtobhccmnlmlapaaGreatDoorQStT
import Derived.Test.YtobhccmnlmlapaaGreatDoorGo
namespace Go.Proofs.YtobhccmnlmlapaaGreatDoor
open Go.RowKit Go.Maps
set_option linter.unusedVariables false
set_option linter.unusedSimpArgs false
set_option maxRecDepth 100000

abbrev z32 : Obj := .cells #[.slice none 0 0, .slice none 0 0, .slice none 0 0, .slice none 0 0, .slice none 0 0, .slice none 0 0, .slice none 0 0, .slice none 0 0, .slice none 0 0, .slice none 0 0, .slice none 0 0, .slice none 0 0, .slice none 0 0, .slice none 0 0, .slice none 0 0, .slice none 0 0, .slice none 0 0, .slice none 0 0, .slice none 0 0, .slice none 0 0, .slice none 0 0, .slice none 0 0, .slice none 0 0, .slice none 0 0, .slice none 0 0, .slice none 0 0, .slice none 0 0, .slice none 0 0, .slice none 0 0, .slice none 0 0, .slice none 0 0, .slice none 0 0] 75
def zl : List Value := List.replicate 32 (.slice none 0 0)
/-- Where a cell of a shelf lies. -/
def cxOf (s : Sh) (x : Dt) : Cx := ⟨⟨s.key, x.w, x.d⟩, match s.kv with | .slice a _ _ => a | _ => none, match s.kv with | .slice _ _ c => c | _ => 0, x.v⟩
def cxs (ss : List Sh) : List Cx := ss.flatMap fun s => s.ds.map (cxOf s)
theorem gi_start (w : World) : GI ((w.alloc z32).alloc z32) (w.heap.size + 3) (w.heap.size + 1) zl (fun _ => []) ∧ Own ((w.alloc z32).alloc z32) w.heap.size 75 32 zl := by
  have e : zl = (#[.slice none 0 0, .slice none 0 0, .slice none 0 0, .slice none 0 0, .slice none 0 0, .slice none 0 0, .slice none 0 0, .slice none 0 0, .slice none 0 0, .slice none 0 0, .slice none 0 0, .slice none 0 0, .slice none 0 0, .slice none 0 0, .slice none 0 0, .slice none 0 0, .slice none 0 0, .slice none 0 0, .slice none 0 0, .slice none 0 0, .slice none 0 0, .slice none 0 0, .slice none 0 0, .slice none 0 0, .slice none 0 0, .slice none 0 0, .slice none 0 0, .slice none 0 0, .slice none 0 0, .slice none 0 0, .slice none 0 0, .slice none 0 0] : Array Value).toList := rfl
  have h1 := Own.new w 75 32 #[.slice none 0 0, .slice none 0 0, .slice none 0 0, .slice none 0 0, .slice none 0 0, .slice none 0 0, .slice none 0 0, .slice none 0 0, .slice none 0 0, .slice none 0 0, .slice none 0 0, .slice none 0 0, .slice none 0 0, .slice none 0 0, .slice none 0 0, .slice none 0 0, .slice none 0 0, .slice none 0 0, .slice none 0 0, .slice none 0 0, .slice none 0 0, .slice none 0 0, .slice none 0 0, .slice none 0 0, .slice none 0 0, .slice none 0 0, .slice none 0 0, .slice none 0 0, .slice none 0 0, .slice none 0 0, .slice none 0 0, .slice none 0 0] rfl
  have h2 := Own.new (w.alloc z32) 75 32 #[.slice none 0 0, .slice none 0 0, .slice none 0 0, .slice none 0 0, .slice none 0 0, .slice none 0 0, .slice none 0 0, .slice none 0 0, .slice none 0 0, .slice none 0 0, .slice none 0 0, .slice none 0 0, .slice none 0 0, .slice none 0 0, .slice none 0 0, .slice none 0 0, .slice none 0 0, .slice none 0 0, .slice none 0 0, .slice none 0 0, .slice none 0 0, .slice none 0 0, .slice none 0 0, .slice none 0 0, .slice none 0 0, .slice none 0 0, .slice none 0 0, .slice none 0 0, .slice none 0 0, .slice none 0 0, .slice none 0 0, .slice none 0 0] rfl
  rw [← e] at h1 h2
  have hz : ∀ g (hg : g < zl.length), zl[g] = .slice none 0 0 := fun g hg => List.getElem_replicate _
  refine ⟨⟨?_, rfl, fun g hg => by rw [hz g hg]; exact World.ownsRow_nil _ _ _ _, fun g hg g' hg' _ b hb => by (rw [hz g hg] at hb; cases hb), by omega⟩, h1.later (bel1 _ _)⟩
  simpa using h2
theorem row_not_iter {w : World} {b r n : Nat} {D : DataW Value} {left : Lit → Bool} {cnt : Nat} {P : Program} {k : TypeId} {B e size m : Nat} {v : Value} {xs : List Value} (h : w.ranges P k heldE b r n D left cnt) (ho : w.ownsRow B e size v m xs) : ∀ g, v.ownBlock = some g → g ≠ r ∧ g ≠ b := fun g hg => by
  obtain ⟨es, clock, since, seen, c0, q1, q2, q3, q4, q5, q6⟩ := h
  rcases ho.2 with ⟨h1, _⟩ | ⟨g', cap, cur, h1, h2, h3, _⟩
  · rw [h1] at hg; cases hg
  · rw [h1] at hg
    cases hg
    refine ⟨fun e => ?_, fun e => ?_⟩
    · have e' : g' = r := e
      rw [e', q5] at h3; cases h3
    · have e' : g' = b := e
      rw [e', q1] at h3; cases h3
theorem own_not_row {w : World} {b T1 n B T2 size m : Nat} {v : Value} {xs ys : List Value} (h : Own w b T1 n xs) (ho : w.ownsRow B T2 size v m ys) (hne : T1 ≠ T2) : ∀ g, v.ownBlock = some g → g ≠ b := fun g hg e => by
  rcases ho.2 with ⟨h1, _⟩ | ⟨g', cap, cur, h1, h2, h3, _⟩
  · rw [h1] at hg; cases hg
  · rw [h1] at hg
    have e1 : g' = g := Option.some.inj hg
    rcases h.2 with ⟨k1, _⟩ | ⟨g2, cap2, cur2, k1, k2, k3, _⟩
    · cases k1
    · have e2 : b = g2 := by injection k1 with k1; injection k1 with k1; injection k1
      rw [e1, e, e2, k3] at h3
      injection h3 with h3
      injection h3 with _ h4
      exact hne h4
theorem cxs_cons (s : Sh) (ss : List Sh) : cxs (s :: ss) = s.ds.map (cxOf s) ++ cxs ss := rfl
theorem cxs_append (a b : List Sh) : cxs (a ++ b) = cxs a ++ cxs b := List.flatMap_append
theorem idx32 (vs : List Value) (hl : vs.length = 32) (k : Nat) (hk : k < vs.length) (w : World) : (Instr.index 75 (.agg vs.toArray) (.int .i64 (k : Int))).run Tryz.prog w = .ok vs[k] w := by
  have u := Tryz.underlying75
  have a5 := Tryz.isAgg51
  have z5 := Tryz.sizeOf51
  have h1 : (0 : Int) ≤ (k : Int) := by omega
  have h2 : (k : Int) < 32 := by omega
  have h3 : k < 32 := by omega
  simp [Instr.index, asIntOf, run_underlying u, Result.andThen, part, a5, z5, h2, h3, hk, go_sem]
/-- The cells of each group, in order so far. -/
structure GS (w wr : World) (n0 G : Nat) (vs : List Value) (prc : List Cx) (f : Nat → List Cx) (k : Nat) : Prop where
  gi : GI wr n0 G vs f
  prm : ∀ g, (f g).Perm (prc.filter (inG g))
  asc : ∀ g, g < k → AscC ((f g).map (·.c))
  bel : Below w.heap.size w wr
theorem GI.sorted {w w' : World} {n0 G g : Nat} {vs : List Value} {f : Nat → List Cx} {ps : List Cx} (h : GI w n0 G vs f) (hg : g < vs.length) (ho : OC w' n0 vs[g] ps) (hgr : w.grownBy w' vs[g].ownBlock) : GI w' n0 G vs (fun j => if j = g then ps else f j) := by
  have nG : ∀ j (hj : j < vs.length), some G ≠ vs[j].ownBlock := fun j hj e => by
    have := (World.ownsRow.lt (h.row j hj) G e.symm).1
    have := h.lt
    omega
  refine ⟨h.own.grown hgr (nG g hg), h.len, fun j hj => ?_, h.sep, h.lt⟩
  by_cases e : j = g
  · subst e; rw [if_pos rfl]; exact ho
  · rw [if_neg e]
    exact own_grown (h.row j hj) hgr fun b hb e' => h.sep j hj g hg e b hb (by rw [← e'])
theorem grown_setCells (b : Nat) : ∀ (vs : List Value) (o : Nat) (w : World), w.grownBy (w.setCells b o vs) (some b)
  | [], _, w => World.grownBy.refl _ _
  | v :: vs, o, w => grown_trans (grown_set w ⟨b, o, none⟩ v) (grown_setCells b vs (o + 1) _)
theorem results_mid {P : Program} {fn : Func} {p : Tmp} {ty : TypeId} (h : fn.results = #[.cell p ty]) (tmps : Array Value) (w : World) (g : Nat) (cs : List Value) (d : TypeDesc) (hp : tmps.getD p undef = .pointer (some ⟨g, 0, none⟩)) (hg : w.rangeAt g 0 cs) (hu : P.underlying ty = some d) (hd : d.isRow = true) (hi : (P.info? ty).map (·.size) = some cs.length) :
    (results fn tmps).run P w = .ok (.agg cs.toArray) w := by
  have hp' : tmps[p]?.getD undef = .pointer (some ⟨g, 0, none⟩) := by simpa using hp
  simp [results, h, hp', asAddr, run_loadVar_mid w g 0 ty cs d hg hu hd hi]
/-- What byGroup gives. -/
def BGPost (w : World) (ss : List Sh) (e : Ending) (w' : World) : Prop := ∃ (vs : List Value) (f : Nat → List Cx), e = .returned (.agg vs.toArray) ∧ vs.length = 32 ∧ (∀ g (hg : g < vs.length), OC w' w.heap.size vs[g] (f g)) ∧ (∀ g, g < 32 → (f g).Perm ((cxs ss).filter (inG g)) ∧ AscC ((f g).map (·.c))) ∧ Below w.heap.size w w'
/-- How far the shelves have come. -/
structure BG (w wr : World) (mp R G n0 : Nat) (ss : List Sh) (es : List (Lit × DataW Value)) (left : Lit → Bool) (cnt : Nat) (qs : List Sh) (vs : List Value) (prc : List Cx) : Prop where
  rng : wr.ranges Tryz.prog 9 heldE mp (w.heap.size + 2) ss.length (DataW.map es) left cnt
  coll : CollK sk (ss.map entS) left (qs.map entS)
  sub : ∀ q ∈ qs, q ∈ ss
  gi : GI wr n0 G vs (fun g => prc.filter (inG g))
  prm : prc.Perm (cxs qs)
  res : Own wr R 75 32 zl
  bel : Below w.heap.size w wr
theorem key_one {α κ : Type} {k : α → κ} : ∀ {l : List α}, (l.map k).Nodup → ∀ {a b : α}, a ∈ l → b ∈ l → k a = k b → a = b
  | x :: l, hn, a, b, ha, hb, e => by
    simp only [List.map_cons, List.nodup_cons] at hn
    rcases List.mem_cons.1 ha with ea | pa
    · rcases List.mem_cons.1 hb with eb | pb
      · rw [ea, eb]
      · exact absurd (List.mem_map.2 ⟨b, pb, by rw [← e, ea]⟩) hn.1
    · rcases List.mem_cons.1 hb with eb | pb
      · exact absurd (List.mem_map.2 ⟨a, pa, by rw [e, eb]⟩) hn.1
      · exact key_one hn.2 pa pb e
theorem perm_sub {α β κ : Type} {f : α → β} {k : α → κ} (hk : ∀ a b, f a = f b → k a = k b) {ys ds : List α} (hn : (ds.map k).Nodup) (hy : (ys.map k).Nodup) (hs : ∀ y ∈ ys, y ∈ ds) (hp : (ys.map f).Perm (ds.map f)) : ys.Perm ds := by
  refine (List.perm_ext_iff_of_nodup (nodup_of_map hy) (nodup_of_map hn)).2 fun a => ⟨hs a, fun ha => ?_⟩
  obtain ⟨z, hz, e⟩ := List.mem_map.1 (hp.mem_iff.2 (List.mem_map.2 ⟨a, ha, rfl⟩))
  rw [← key_one hn (hs z hz) ha (hk _ _ e)]; exact hz
theorem sum_sub {α : Type} (f : α → Nat) : ∀ (l m : List α), l.Nodup → (∀ p ∈ l, p ∈ m) → (l.map f).sum ≤ (m.map f).sum
  | [], m, _, _ => by simp
  | p :: l, m, hn, hs => by
    obtain ⟨s, t, rfl⟩ := List.append_of_mem (hs p (by simp))
    rw [List.nodup_cons] at hn
    have := sum_sub f l (s ++ t) hn.2 (fun q hq => by
      have h1 := hs q (by simp [hq])
      rw [List.mem_append, List.mem_cons] at h1
      rcases h1 with h1 | rfl | h1
      · exact List.mem_append_left _ h1
      · exact absurd hq hn.1
      · exact List.mem_append_right _ h1)
    simp only [List.map_append, List.map_cons, List.sum_append, List.sum_cons] at this ⊢
    omega
theorem cxs_len (ss : List Sh) : (cxs ss).length = (ss.map fun s => s.ds.length).sum := by
  induction ss with
  | nil => rfl
  | cons s ss ih => rw [cxs_cons, List.length_append, ih]; simp
theorem ces_len (ss : List Sh) : (ces ss).length = (ss.map fun s => s.ds.length).sum := by
  induction ss with
  | nil => rfl
  | cons s ss ih =>
    have e : ces (s :: ss) = cesS s ++ ces ss := rfl
    rw [e, List.length_append, ih]; simp [cesS]
theorem PQ.cells_few {w : World} {B t mp : Nat} {lo hi nc nw : Int} {ss : List Sh} (h : PQ w B t mp lo hi nc nw ss) : (ces ss).length ≤ 2097152 := by
  have h1 := wt_len (ces ss)
  have h2 := h.wl
  omega
theorem filt_add (prc : List Cx) (q : Cx) (g : Nat) (hq : inG g q = true) : (fun j => (prc ++ [q]).filter (inG j)) = fun j => if j = g then prc.filter (inG g) ++ [q] else prc.filter (inG j) := by
  funext j
  rw [List.filter_append]
  by_cases e : j = g
  · subst e
    simp [hq]
  · have hf : inG j q = false := by
      unfold inG at hq ⊢
      simp only [beq_iff_eq] at hq
      simp only [beq_eq_false_iff_ne, ne_eq]
      exact fun h => e (h.symm.trans hq)
    simp [e, hf]
/-- How far one shelf has come. -/
structure IG (w wr : World) (mp R G n0 r2 b1 : Nat) (ss : List Sh) (es : List (Lit × DataW Value)) (left : Lit → Bool) (cnt : Nat) (qs : List Sh) (s : Sh) (ka : Option Addr) (kc : Nat) (es1 : List (Lit × DataW Value)) (left1 : Lit → Bool) (cnt1 : Nat) (ys : List Dt) (vs : List Value) (prc : List Cx) : Prop where
  rng : wr.ranges Tryz.prog 9 heldE mp (w.heap.size + 2) ss.length (DataW.map es) left cnt
  rng1 : wr.ranges Tryz.prog 38 heldE s.mb r2 s.ds.length (DataW.map es1) left1 cnt1
  coll : CollK wk (s.ds.map entD) left1 (ys.map entD)
  sub : ∀ y ∈ ys, y ∈ s.ds
  gi : GI wr n0 G vs (fun g => prc.filter (inG g))
  prm : prc.Perm (cxs qs ++ ys.map (cxOf s))
  res : Own wr R 75 32 zl
  bel : Below w.heap.size w wr
  one : Own wr b1 87 2 [.slice ka s.key.length kc, .map (some s.mb)]
  two : n0 ≤ b1 ∧ n0 ≤ r2 ∧ b1 ≠ r2
set_option maxHeartbeats 2000000 in
theorem byGroup_any (w : World) (B t mp : Nat) (lo hi : Int) (ss : List Sh) (h : PS w B t mp lo hi ss) (ht : Vl.Tab w) :
    Calls Tryz.prog 31 #[.pointer (some ⟨t, 0, none⟩)] w (BGPost w ss) := by
  have HP := hidMk h
  have HT := hidMk ht
  obtain ⟨es, ho, hp, hok, hn⟩ := h.mpo
  obtain ⟨-, -, c2, -, -⟩ := h.cells
  have htl : t < w.heap.size := (h.lt (.inl (.inl rfl))).2
  have hne : t ≠ w.heap.size := by omega
  have hne2 : t ≠ w.heap.size + 1 := by omega
  have HPM := hidMk hp
  have HOK := hidMk hok
  have HN := hidMk hn
  have HST := hidMk (CollK.start (kd := sk) K9 hp hok hn)
  obtain ⟨g1, g2⟩ := gi_start w
  have HG1 := hidMk g1
  have HG2 := hidMk g2
  have HB0 : Hid (Below w.heap.size w ((w.alloc z32).alloc z32)) := (bel1 w z32).alloc (by simp) _
  clear h ht hp hok hn g1 g2
  go_enter Tryz.func31, Tryz.ntmps31
  go_wp2_with (first
    | (at_range; refine wpList_range_own _ rfl _ 80 rfl 9 _ K9 Tryz.underlying80 _ mp _ _ rfl ((ho.alloc _).alloc _) ?_; intro w0 hrg0 hg0 hs0)
    | fail)
  have hsz : ((w.alloc z32).alloc z32).heap.size = w.heap.size + 2 := by simp
  generalize hW2 : (w.alloc (.cells #[.slice none 0 0, .slice none 0 0, .slice none 0 0, .slice none 0 0, .slice none 0 0, .slice none 0 0, .slice none 0 0, .slice none 0 0, .slice none 0 0, .slice none 0 0, .slice none 0 0, .slice none 0 0, .slice none 0 0, .slice none 0 0, .slice none 0 0, .slice none 0 0, .slice none 0 0, .slice none 0 0, .slice none 0 0, .slice none 0 0, .slice none 0 0, .slice none 0 0, .slice none 0 0, .slice none 0 0, .slice none 0 0, .slice none 0 0, .slice none 0 0, .slice none 0 0, .slice none 0 0, .slice none 0 0, .slice none 0 0, .slice none 0 0] 75)).alloc (.cells #[.slice none 0 0, .slice none 0 0, .slice none 0 0, .slice none 0 0, .slice none 0 0, .slice none 0 0, .slice none 0 0, .slice none 0 0, .slice none 0 0, .slice none 0 0, .slice none 0 0, .slice none 0 0, .slice none 0 0, .slice none 0 0, .slice none 0 0, .slice none 0 0, .slice none 0 0, .slice none 0 0, .slice none 0 0, .slice none 0 0, .slice none 0 0, .slice none 0 0, .slice none 0 0, .slice none 0 0, .slice none 0 0, .slice none 0 0, .slice none 0 0, .slice none 0 0, .slice none 0 0, .slice none 0 0, .slice none 0 0, .slice none 0 0] 75) = W2 at *
  rw [show (w.alloc z32).alloc z32 = W2 from hW2] at *
  rw [hsz] at hrg0 hs0 ⊢
  have HS0 : Hid (BG w w0 mp w.heap.size (w.heap.size + 1) (w.heap.size + 3) ss es (Maps.has (DataW.map es)) (Maps.size (DataW.map es)) [] zl []) := by
    have hb0 : Below W2.heap.size W2 w0 := ⟨hg0.os, hg0.tape, hg0.output, hg0.size, fun i hi => hg0.block i hi (by simp)⟩
    rw [List.length_map] at hrg0
    exact ⟨hrg0, HST.out, fun q hq => by (cases hq), HG1.out.later hb0, List.Perm.refl _, HG2.out.later hb0, HB0.out.trans (hb0.mono HB0.out.size)⟩
  clear hW2 ho hrg0 hg0 hs0 HG1 HG2 HST
  go_frame
  go_loopw [16] (fun _ wr => ∃ left cnt qs vs prc, BG w wr mp w.heap.size (w.heap.size + 1) (w.heap.size + 3) ss es left cnt qs vs prc) (fun _ wr => wr.rangeLeft mp (w.heap.size + 2))
  case atStart => exact ⟨_, _, _, _, _, HS0.out⟩
  case round =>
    obtain ⟨left, cnt, qs, vs, prc, hbg⟩ := hrel
    have HBG := hidMk hbg
    have hrg := hbg.rng
    clear hbg HS0
    go_wp2_with (first
      | (at_next; refine wpList_next_ranges _ rfl _ rfl 9 K9 heldE (fun s => .string s) id (fun key kl hk => by obtain ⟨x, hx, _⟩ := str_inv hk; exact ⟨x, hx⟩) (fun v _ _ => ⟨v, rfl⟩) mp (w.heap.size + 2) ss.length _ _ _ rfl hrg ?_ ?_)
      | go_in)
    · intro hc0 hl0
      have hpq : qs.Perm ss := by
        have hp := HBG.out.coll.all HN.out hl0
        have hy := HBG.out.coll.1
        rw [List.map_map] at hy
        have hn := HN.out
        rw [List.map_map] at hn
        exact perm_sub (f := entS) (k := fun x => nameOf x.key) (fun a b e => by injection e) hn hy HBG.out.sub hp
      have HE : Hid (prc.Perm (cxs ss)) := HBG.out.prm.trans (hpq.flatMap_right _)
      have hrgG : wr.rangeAt (w.heap.size + 1) 0 vs := fun j v hj => by
        have := HBG.out.gi.own.cell j (by have := (List.getElem?_eq_some_iff.1 hj).1; rw [HBG.out.gi.len] at this; exact this)
        rw [Nat.zero_add, this]; exact hj
      have hl32 := HBG.out.gi.len
      clear hl0 hpq hrg
      go_wp2_with (refine wpList_load_mid (by rfl) 75 _ (by rfl) (w.heap.size + 1) 0 (by rfl) vs _ hrgG Tryz.underlying75 (by rfl) (by rw [hl32]; kernel_rfl) ?_)
      have HS0 : Hid (GS w wr (w.heap.size + 3) (w.heap.size + 1) vs prc (fun g => prc.filter (inG g)) 0) := ⟨HBG.out.gi, fun g => List.Perm.refl _, fun g hg => by omega, HBG.out.bel⟩
      have HRes := hidMk HBG.out.res
      have HCL : Hid (∀ g (hg : g < vs.length) f W, GS w W (w.heap.size + 3) (w.heap.size + 1) vs prc f g → Calls Tryz.prog 42 #[vs[g], .func (.func 43) #[] #[]] W fun e w' => e = .returned (.tuple #[]) ∧ ∃ f', GS w w' (w.heap.size + 3) (w.heap.size + 1) vs prc f' (g + 1) ∧ W.grownBy w' vs[g].ownBlock) := fun g hg f W hgs => by
        have hr := hgs.gi.row g hg
        have hmem : ∀ q ∈ f g, ∃ s ∈ ss, ∃ y ∈ s.ds, q = cxOf s y := fun q hq => by
          have h1 := (List.mem_filter.1 ((hgs.prm g).mem_iff.1 hq)).1
          have h2 := HE.out.mem_iff.1 h1
          obtain ⟨s, hs, h3⟩ := List.mem_flatMap.1 h2
          obtain ⟨y, hy, rfl⟩ := List.mem_map.1 h3
          exact ⟨s, hs, y, hy, rfl⟩
        refine (sortsC W _ vs[g] (f g) hr (fun q hq => ?_) ?_).mono ?_
        · obtain ⟨s, hs, y, hy, rfl⟩ := hmem q hq
          have hk := HP.out.sho s hs
          obtain ⟨a, c, e, l, b⟩ := hk.key.form
          have ea : (cxOf s y).ka = a := by unfold cxOf; rw [e]
          refine ⟨by rw [ea]; exact l.later hgs.bel, fun z hz e' => ?_, vk_len hk.val, ?_⟩
          · rw [ea] at hz
            have h1 := (b z hz).2
            have h2 := (World.ownsRow.lt hr _ e'.symm).1
            omega
          · obtain ⟨a', c', e'⟩ := row_form (hk.dat y hy).1
            exact ⟨a', _, c', e'⟩
        · have h1 := (hgs.prm g).length_eq
          have h2 : (prc.filter (inG g)).length ≤ prc.length := List.length_filter_le _ _
          have h3 := HE.out.length_eq
          rw [cxs_len, ← ces_len] at h3
          have h4 := HP.out.cells_few
          omega
        · rintro e w' ⟨rfl, ps, p1, p2, p3, p4⟩
          refine ⟨rfl, _, ⟨hgs.gi.sorted hg p3 p4, fun j => ?_, fun j hj => ?_, hgs.bel.grown p4 hgs.bel.size (fun b hb => by have := (World.ownsRow.lt hr b hb).1; omega)⟩, p4⟩
          · by_cases e : j = g
            · subst e; simp only [if_true]; exact p1.trans (hgs.prm j)
            · simp only [if_neg e]; exact hgs.prm j
          · by_cases e : j = g
            · subst e; simp only [if_true]; exact p2
            · simp only [if_neg e]; exact hgs.asc j (by omega)
      have HNR : Hid (∀ g (hg : g < vs.length), some w.heap.size ≠ vs[g].ownBlock) := fun g hg e => by
        have := (World.ownsRow.lt (HBG.out.gi.row g hg) _ e.symm).1
        omega
      clear hrgG
      go_loopw [44] (fun i wr => ∃ (k : Nat) (f : Nat → List Cx), i = .int .i64 (k : Int) ∧ k ≤ 32 ∧ GS w wr (w.heap.size + 3) (w.heap.size + 1) vs prc f k ∧ Own wr w.heap.size 75 32 zl) (fun i _ => 32 - (intOf i).toNat)
      case atStart => exact ⟨0, _, rfl, by omega, HS0.out, HRes.out⟩
      case round =>
        obtain ⟨k, f, rfl, hk, hgs, hres⟩ := hrel
        have HGS := hidMk hgs
        have HRS := hidMk hres
        clear hgs hres HS0 HRes
        by_cases hlt : k < 32
        · have hkl : k < vs.length := by omega
          have hix := fun W => idx32 vs hl32 k hkl W
          have hki : (k : Int) < 32 := by omega
          go_wp2_with fail
          refine (HCL.out k hkl f _ HGS.out).mono ?_
          rintro e w2 ⟨rfl, f', h1, h2⟩
          have HG2 := hidMk h1
          have HR2 := hidMk (HRS.out.grown h2 (HNR.out k hkl))
          clear h1 h2
          go_wp2_with fail
          go_roundw
          case rel => exact ⟨k + 1, f', by go_num, by omega, HG2.out, HR2.out⟩
          case measure => simp [intOf]; omega
        · obtain rfl : k = 32 := by omega
          have hrgG : wr.rangeAt (w.heap.size + 1) 0 vs := fun j v hj => by
            have := HGS.out.gi.own.cell j (by have := (List.getElem?_eq_some_iff.1 hj).1; omega)
            rw [Nat.zero_add, this]; exact hj
          have hth : wr.there w.heap.size 0 vs.toArray.size := fun j hj => by
            have hj' : j < 32 := by simp at hj; omega
            rw [Nat.zero_add]
            refine ⟨?_, HRS.out.soft j⟩
            rw [HRS.out.cell j hj']
            simp [zl, hj']
          have hone : ∀ v ∈ vs, v.oneCell' = true := fun v hv => by
            obtain ⟨j, hj, rfl⟩ := List.getElem_of_mem hv
            obtain ⟨a, c, e⟩ := row_form (HGS.out.gi.row j hj)
            rw [e]; rfl
          have HFin : Hid ((wr.setCells w.heap.size 0 vs).rangeAt w.heap.size 0 vs ∧ (∀ g (hg : g < vs.length), OC (wr.setCells w.heap.size 0 vs) w.heap.size vs[g] (f g)) ∧ Below w.heap.size w (wr.setCells w.heap.size 0 vs)) := by
            have hg := grown_setCells w.heap.size vs 0 wr
            refine ⟨World.rangeAt_setCells_same _ _ _ _ ?_, fun g hgl => ?_, HGS.out.bel.grown hg HGS.out.bel.size (fun j e => by cases e; exact Nat.le_refl _)⟩
            · simpa using hth
            · have r := HGS.out.gi.row g hgl
              have r2 := own_grown r hg (fun b hb e => HNR.out g hgl (by rw [hb, e]))
              refine ⟨r2.1, ?_⟩
              rcases r2.2 with q | ⟨g', cap, cur, q1, q2, q3⟩
              · exact .inl q
              · exact .inr ⟨g', cap, cur, q1, by omega, q3⟩
          go_wp2_with (first
            | refine wpList_load_mid (by rfl) 75 _ (by rfl) (w.heap.size + 1) 0 (by rfl) vs _ hrgG Tryz.underlying75 (by rfl) (by rw [hl32]; kernel_rfl) ?_
            | refine wpList_store_mid (by rfl) 75 _ _ (by rfl) w.heap.size 0 vs.toArray (by rfl) (by rfl) hth (by simp only [List.size_toArray]; rw [hl32]; kernel_rfl) (all_oneCell_toArray hone) ?_)
          exact bodyPost_ret (results_mid rfl _ _ w.heap.size vs _ (by rfl) HFin.out.1 Tryz.underlying75 (by rfl) (by rw [hl32]; kernel_rfl)) rfl ⟨vs, f, rfl, hl32, HFin.out.2.1, fun g hg => ⟨(HGS.out.prm g).trans (HE.out.filter _), HGS.out.asc g hg⟩, HFin.out.2.2⟩
    · intro x c kl yd yp w2 cnt2 hkey hlk hv hat hrg2 hlt hg2 hs2 hen
      obtain ⟨x', ex, hfx, rfl⟩ := str_inv hkey
      obtain rfl : x = x' := by simpa using ex
      simp only [heldE, id, Option.some.injEq, Prod.mk.injEq] at hv
      obtain ⟨rfl, rfl⟩ := hv
      have hxc := mem_atK (kd := sk) K9 HPM.out HOK.out HN.out hfx hat
      obtain ⟨s, hs, ent⟩ := List.mem_map.1 hxc
      obtain ⟨rfl, rfl⟩ : nameOf s.key = x ∧ Value.agg #[s.kv, .map (some s.mb)] = c := by simpa [entS] using ent
      obtain ⟨ka, kc, hkv, -⟩ := (HP.out.sho s hs).key.form
      have hlr := hrg.lt
      have g2 : Gs (fun i => i = w.heap.size + 2) wr w2 := Gs.one hg2 (fun k e => (Option.some.inj e).symm)
      have HI2 : Hid (w2.ranges Tryz.prog 9 heldE mp (w.heap.size + 2) ss.length (DataW.map es) (fun z => left z && !z.sameKey (sk.kl (nameOf s.key))) cnt2 ∧ GI w2 (w.heap.size + 3) (w.heap.size + 1) vs (fun g => prc.filter (inG g)) ∧ Own w2 w.heap.size 75 32 zl ∧ Below w.heap.size w w2) :=
        ⟨hrg2, HBG.out.gi.kept g2 (fun e => by have e' : w.heap.size + 1 = w.heap.size + 2 := e; omega) (fun i h1 _ e => by have e' : i = w.heap.size + 2 := e; omega), g2.own HBG.out.res (fun g hg e => by have e' : g = w.heap.size + 2 := e; have e2 : w.heap.size = g := Option.some.inj hg; omega), HBG.out.bel.grown hg2 HBG.out.bel.size (fun j e => by cases e; omega)⟩
      have HC2 : Hid (CollK sk (ss.map entS) (fun z => left z && !z.sameKey (sk.kl (nameOf s.key))) ((qs ++ [s]).map entS)) := by
        rw [Hid, List.map_append]
        exact CollK.step (kd := sk) K9 HBG.out.coll HN.out HOK.out hxc hlk
      have HLT : Hid (w2.rangeLeft mp (w.heap.size + 2) < wr.rangeLeft mp (w.heap.size + 2)) := by rw [Hid, hrg2.left_eq, hrg.left_eq]; exact hlt
      have HSS := hidMk hs
      have h2 := HP.out.later HI2.out.2.2.2
      have HGr := hidMk (fun W (hb : Below w.heap.size w W) => groupP_any s.key ka kc W ((show VLies w ka s.key from by have := (HP.out.sho s hs).key.form; obtain ⟨a', c', e', l', -⟩ := this; rw [hkv] at e'; cases e'; exact l').later hb) (HP.out.sho s hs).good (by have := vk_len (HP.out.sho s hs).val; omega) (HT.out.later hb))
      have HKV := hidMk hkv
      simp only [hkv, id] at hen ⊢
      have hrl2 := hrg2.lt
      clear hrg hrg2 hlt hg2 hs2 hat hlk hkey hxc ent hs g2 h2 hkv ex hfx
      have HB2 : Hid (Below w.heap.size w (w2.alloc (.cells #[.slice ka s.key.length kc, .map (some s.mb)] 87))) := HI2.out.2.2.2.alloc HI2.out.2.2.2.size _
      have HO1 := hidMk (Own.new w2 87 2 #[.slice ka s.key.length kc, .map (some s.mb)] rfl)
      go_wp2_with fail
      refine (HGr.out _ HB2.out).mono ?_
      rintro e w3 ⟨rfl, hb3⟩
      have HB3 := hidMk (HB2.out.trans (hb3.mono HB2.out.size))
      have HO3 := hidMk (HO1.out.later hb3)
      have hb23 : Below w2.heap.size w2 w3 := (bel1 w2 _).trans (hb3.mono (by simp))
      have HI3 : Hid (w3.ranges Tryz.prog 9 heldE mp (w.heap.size + 2) ss.length (DataW.map es) (fun z => left z && !z.sameKey (sk.kl (nameOf s.key))) cnt2 ∧ GI w3 (w.heap.size + 3) (w.heap.size + 1) vs (fun g => prc.filter (inG g)) ∧ Own w3 w.heap.size 75 32 zl) :=
        ⟨ranges_gs HI2.out.1 (Gs.below (S := fun _ => False) hb23) (fun s => s) (fun s => s), HI2.out.2.1.later hb23, HI2.out.2.2.1.later hb23⟩
      have h3 := HP.out.later HB3.out
      obtain ⟨es1, ho1, hp1, hok1, hn1⟩ := (h3.sho s HSS.out).map
      have HP1 := hidMk hp1
      have HOK1 := hidMk hok1
      have HN1 := hidMk hn1
      have HST1 := hidMk (CollK.start (kd := wk) lawV hp1 hok1 hn1)
      obtain ⟨o0, o1, -, -⟩ := HO3.out.two
      have hl3 := hb23.size
      have hb1l := HO3.out.lt
      clear hb3 hb23 HB2 HO1 HGr h3 hp1 hok1 hn1
      rw [List.length_map] at ho1
      go_wp2_with (first
        | (at_range; refine wpList_range_own _ rfl _ 85 rfl 38 _ lawV Tryz.underlying85 _ s.mb _ _ rfl ho1 ?_; intro w4 hrg4 hg4 hs4)
        | fail)
      have HS4 : Hid (IG w w4 mp w.heap.size (w.heap.size + 1) (w.heap.size + 3) w3.heap.size w2.heap.size ss es (fun z => left z && !z.sameKey (sk.kl (nameOf s.key))) cnt2 qs s ka kc es1 (Maps.has (DataW.map es1)) (Maps.size (DataW.map es1)) [] vs prc) := by
        have hb4 : Below w3.heap.size w3 w4 := ⟨hg4.os, hg4.tape, hg4.output, hg4.size, fun i hi => hg4.block i hi (by simp)⟩
        exact ⟨ranges_gs HI3.out.1 (Gs.below (S := fun _ => False) hb4) (fun s => s) (fun s => s), hrg4, HST1.out, fun q hq => by (cases hq), HI3.out.2.1.later hb4, by simpa using HBG.out.prm, HI3.out.2.2.later hb4, HB3.out.trans (hb4.mono HB3.out.size), HO3.out.later hb4, by omega, by omega, by omega⟩
      clear hrg4 hg4 hs4 ho1 o0 o1 HST1
      go_frame
      go_loopw [26] (fun _ wr' => ∃ left1 cnt1 ys vs' prc', IG w wr' mp w.heap.size (w.heap.size + 1) (w.heap.size + 3) w3.heap.size w2.heap.size ss es (fun z => left z && !z.sameKey (sk.kl (nameOf s.key))) cnt2 qs s ka kc es1 left1 cnt1 ys vs' prc') (fun _ wr' => wr'.rangeLeft s.mb w3.heap.size)
      case atStart => exact ⟨_, _, _, _, _, HS4.out⟩
      case round =>
        obtain ⟨left1, cnt1, ys, vs', prc', hig⟩ := hrel
        have HIG := hidMk hig
        have hrgi := hig.rng1
        clear hig HS4
        go_wp2_with (first
          | (at_next; refine wpList_next_ranges _ rfl _ rfl 38 lawV heldE vv id (fun key kl hk => by obtain ⟨x, hx, _⟩ := keyV_inv hk; exact ⟨x, hx⟩) (fun v _ _ => ⟨v, rfl⟩) s.mb w3.heap.size s.ds.length _ _ _ rfl hrgi ?_ ?_)
          | go_in)
        · intro hc0 hl0
          have hpy : ys.Perm s.ds := by
            have hp := HIG.out.coll.all HN1.out hl0
            have hy := HIG.out.coll.1
            rw [List.map_map] at hy
            have hn := HN1.out
            rw [List.map_map] at hn
            exact perm_sub (f := entD) (k := fun x => x.w) (fun a b e => by injection e) hn hy HIG.out.sub hp
          have HF : Hid (BG w wr mp w.heap.size (w.heap.size + 1) (w.heap.size + 3) ss es (fun z => left z && !z.sameKey (sk.kl (nameOf s.key))) cnt2 (qs ++ [s]) vs' prc') := by
            refine ⟨HIG.out.rng, HC2.out, fun q hq => ?_, HIG.out.gi, HIG.out.prm.trans ?_, HIG.out.res, HIG.out.bel⟩
            · rcases List.mem_append.1 hq with hq | hq
              · exact HBG.out.sub q hq
              · rw [List.mem_singleton.1 hq]; exact HSS.out
            · rw [cxs_append, show cxs [s] = s.ds.map (cxOf s) by simp [cxs]]
              exact (hpy.map _).append_left _
          clear hl0 hrgi hpy
          go_wp2_with fail
          go_roundw
          case rel => exact ⟨_, _, _, _, _, HF.out⟩
          case measure => rw [HF.out.rng.left_eq, ← HI2.out.1.left_eq]; exact HLT.out
        · intro x c kl yd yp w5 cnt5 hkey hlk hv hat hrg5 hlt5 hg5 hs5 hen5
          obtain ⟨x', ex, hfx, rfl⟩ := keyV_inv hkey
          obtain rfl : x = x' := vv_inj ex
          simp only [heldE, id, Option.some.injEq, Prod.mk.injEq] at hv
          obtain ⟨rfl, rfl⟩ := hv
          have hxc := mem_atK (kd := wk) lawV HP1.out HOK1.out HN1.out hfx hat
          obtain ⟨y, hy, ent⟩ := List.mem_map.1 hxc
          obtain ⟨rfl, rfl⟩ : y.w = x ∧ y.v = c := by simpa [entD] using ent
          have hlr1 := hrgi.lt
          have g5 : Gs (fun i => i = w3.heap.size) wr w5 := Gs.one hg5 (fun k e => (Option.some.inj e).symm)
          have hgrpl := grp_lt s.key
          have hlen := HIG.out.gi.len
          have hgl : grp s.key < vs'.length := by rw [hlen]; exact hgrpl
          obtain ⟨ax, cx, hrow⟩ := row_form (HIG.out.gi.row _ hgl)
          obtain ⟨ya, yc, hyv⟩ : ∃ ya yc, y.v = .slice ya y.d.length yc := row_form ((HP.out.sho s HSS.out).dat y hy).1
          have g5' : Gs (fun i => i = w3.heap.size) wr w5 := g5
          obtain ⟨t1, t2, t3⟩ := HIG.out.two
          have hgi5 : GI w5 (w.heap.size + 3) (w.heap.size + 1) vs' (fun g => prc'.filter (inG g)) := by
            refine ⟨g5.own HIG.out.gi.own (fun g hg e => by have e' : g = w3.heap.size := e; have e2 : w.heap.size + 1 = g := Option.some.inj hg; omega), hlen, fun g hg => g5.own (HIG.out.gi.row g hg) (fun b hb e => (row_not_iter hrgi (HIG.out.gi.row g hg) b hb).1 e), HIG.out.gi.sep, HIG.out.gi.lt⟩
          have HGI5 := hidMk hgi5
          have wG : w5.cell? ⟨w.heap.size + 1, grp s.key, none⟩ = some (.slice ax (prc'.filter (inG (grp s.key))).length cx) := by
            have := hgi5.own.cell (grp s.key) hgrpl
            rw [this, List.getElem?_eq_getElem hgl, hrow]
          have hO5 : Own w5 w2.heap.size 87 2 [.slice ka s.key.length kc, .map (some s.mb)] := g5.own HIG.out.one (fun g hg e => by have e' : g = w3.heap.size := e; have e2 : w2.heap.size = g := Option.some.inj hg; omega)
          have wO := hO5.two.1
          have HO5 := hidMk hO5
          have hk : (prc'.filter (inG (grp s.key))).length ≤ 4194304 := by
            have h1 : (prc'.filter (inG (grp s.key))).length ≤ prc'.length := List.length_filter_le _ _
            have h2 := HIG.out.prm.length_eq
            rw [List.length_append, List.length_map, cxs_len] at h2
            have h3 := sum_sub (fun s => s.ds.length) qs ss (nodup_of_map HBG.out.coll.1 |> fun h => nodup_of_map h) HBG.out.sub
            have h4 := sum_sub (fun _ => 1) ys s.ds (nodup_of_map HIG.out.coll.1 |> fun h => nodup_of_map h) HIG.out.sub
            simp only [List.map_const', List.sum_replicate_nat, Nat.mul_one] at h4
            have h5 := HP.out.cells_few
            rw [ces_len] at h5
            have h6 : s.ds.length ≤ (ss.map fun s => s.ds.length).sum := by
              obtain ⟨p, q, e⟩ := List.append_of_mem HSS.out
              rw [e]; simp; omega
            omega
          have hqin : inG (grp s.key) (cxOf s y) = true := by unfold inG cxOf; simp
          have HQC : Hid (cellsC (cxOf s y) = [.slice ka s.key.length kc, .int .i64 y.w.f, .int .i64 y.w.t, .slice ya y.d.length yc]) := by
            unfold Hid cellsC cxOf
            rw [HKV.out, hyv]
          have hsz5 : w.heap.size + 3 ≤ w5.heap.size := by have := g5.size; omega
          have hcur : w.heap.size + 1 ≠ w5.heap.size := by omega
          have hcur2 : w2.heap.size ≠ w5.heap.size := by have := g5.size; have := World.block_lt_of_cell? _ _ wO; simp only at this; omega
          have hb8 : Below w5.heap.size w5 ((w5.alloc (.cells #[.int .i64 y.w.f, .int .i64 y.w.t] 38)).alloc (.cells #[.slice ka s.key.length kc, .int .i64 y.w.f, .int .i64 y.w.t, .slice ya y.d.length yc] 55)).drew := below_drewN ((bel1 _ _).alloc (by simp) _) 1
          have HGI8 := hidMk (hgi5.later hb8)
          have HB8 := hidMk hb8
          have hrow8 := HGI8.out.row _ hgl
          rw [hrow] at hrow8
          have HR8 := hidMk hrow8
          obtain ⟨i0, hi0, hz0, hz1, hz2⟩ := info_parts infoC
          have wG1 := cell_later (bel1 w5 (.cells #[.int .i64 y.w.f, .int .i64 y.w.t] 38)) wG
          have wO1 := cell_later (bel1 w5 (.cells #[.int .i64 y.w.f, .int .i64 y.w.t] 38)) wO
          have wG2 := cell_later (bel1 (w5.alloc (.cells #[.int .i64 y.w.f, .int .i64 y.w.t] 38)) (.cells #[.slice ka s.key.length kc, .int .i64 y.w.f, .int .i64 y.w.t, .slice ya y.d.length yc] 55)) wG1
          have wO2 := cell_later (bel1 (w5.alloc (.cells #[.int .i64 y.w.f, .int .i64 y.w.t] 38)) (.cells #[.slice ka s.key.length kc, .int .i64 y.w.f, .int .i64 y.w.t, .slice ya y.d.length yc] 55)) wO1
          have hg32 : ((grp s.key : Nat) : Int) < 32 := by omega
          have HNG : Hid (∀ w9, World.grownBy ((w5.alloc (.cells #[.int .i64 y.w.f, .int .i64 y.w.t] 38)).alloc (.cells #[.slice ka s.key.length kc, .int .i64 y.w.f, .int .i64 y.w.t, .slice ya y.d.length yc] 55)).drew w9 (Value.slice ax (prc'.filter (inG (grp s.key))).length cx).ownBlock → w9.cell? ⟨w.heap.size + 1, grp s.key, none⟩ = some (.slice ax (prc'.filter (inG (grp s.key))).length cx) ∧ w9.frozen? ⟨w.heap.size + 1, grp s.key, none⟩ = false) := fun w9 hg9 => by
            have ho9 : Own w9 (w.heap.size + 1) 75 32 vs' := HGI8.out.own.grown hg9 (fun e => by
              have h1 := (World.ownsRow.lt HR8.out _ e.symm).1
              omega)
            refine ⟨?_, ho9.soft _⟩
            rw [ho9.cell _ hgrpl, List.getElem?_eq_getElem hgl, hrow]
          have HNX : Hid (∀ gg cap w9, w9.ownsRow (w.heap.size + 3) 55 4 (.slice (some ⟨gg, 0, none⟩) ((prc'.filter (inG (grp s.key))).length + 1) cap) ((prc'.filter (inG (grp s.key))).length + 1) ((prc'.filter (inG (grp s.key))).flatMap cellsC ++ [.slice ka s.key.length kc, .int .i64 y.w.f, .int .i64 y.w.t, .slice ya y.d.length yc]) → World.grownBy ((w5.alloc (.cells #[.int .i64 y.w.f, .int .i64 y.w.t] 38)).alloc (.cells #[.slice ka s.key.length kc, .int .i64 y.w.f, .int .i64 y.w.t, .slice ya y.d.length yc] 55)).drew w9 (Value.slice ax (prc'.filter (inG (grp s.key))).length cx).ownBlock → ((Value.slice ax (prc'.filter (inG (grp s.key))).length cx).ownBlock = some gg ∨ gg = w5.heap.size + 2) →
              IG w (w9.setCell ⟨w.heap.size + 1, grp s.key, none⟩ (.slice (some ⟨gg, 0, none⟩) ((prc'.filter (inG (grp s.key))).length + 1) cap)) mp w.heap.size (w.heap.size + 1) (w.heap.size + 3) w3.heap.size w2.heap.size ss es (fun z => left z && !z.sameKey (sk.kl (nameOf s.key))) cnt2 qs s ka kc es1 (fun z => left1 z && !z.sameKey (wk.kl y.w)) cnt5 (ys ++ [y]) (vs'.set (grp s.key) (.slice (some ⟨gg, 0, none⟩) ((prc'.filter (inG (grp s.key))).length + 1) cap)) (prc' ++ [cxOf s y])) := fun gg cap w9 hown9 hgrow9 hat9 => by
            have hb8 := HB8.out
            have hsz8 : ((w5.alloc (.cells #[.int .i64 y.w.f, .int .i64 y.w.t] 38)).alloc (.cells #[.slice ka s.key.length kc, .int .i64 y.w.f, .int .i64 y.w.t, .slice ya y.d.length yc] 55)).drew.heap.size = w5.heap.size + 2 := by simp
            have hmore := HGI8.out.more (g := grp s.key) (v' := .slice (some ⟨gg, 0, none⟩) ((prc'.filter (inG (grp s.key))).length + 1) cap) (q := cxOf s y) hgrpl (by rw [HQC.out]; exact hown9) (by rw [hrow]; exact hgrow9) (by
              rw [hrow]
              rcases hat9 with e | e
              · exact .inl e.symm
              · exact .inr (by rw [hsz8, ← e]; rfl))
            rw [← filt_add prc' (cxOf s y) (grp s.key) hqin] at hmore
            have gs9 : Gs (fun i => i = w.heap.size + 1 ∨ (Value.slice ax (prc'.filter (inG (grp s.key))).length cx).ownBlock = some i) w5 (w9.setCell ⟨w.heap.size + 1, grp s.key, none⟩ (.slice (some ⟨gg, 0, none⟩) ((prc'.filter (inG (grp s.key))).length + 1) cap)) :=
              ((Gs.below hb8).trans (Gs.one hgrow9 (fun k e => .inr e))).trans (Gs.one hmore.2 (fun k e => .inl (Option.some.inj e).symm))
            have r5 : w5.ranges Tryz.prog 9 heldE mp (w.heap.size + 2) ss.length (DataW.map es) (fun z => left z && !z.sameKey (sk.kl (nameOf s.key))) cnt2 := ranges_gs HIG.out.rng g5 (fun e => by
              have e' : mp = w3.heap.size := e
              have := (HP.out.lt (.inl (.inr (.inl rfl)))).2
              omega) (fun e => by have e' : w.heap.size + 2 = w3.heap.size := e; omega)
            have hmpl := (HP.out.lt (.inl (.inr (.inl rfl)))).2
            have hmbl := (HP.out.lt (.inl (.inr (.inr ⟨s, HSS.out, rfl⟩)))).2
            have hrow5 : OC w5 (w.heap.size + 3) (.slice ax (prc'.filter (inG (grp s.key))).length cx) (prc'.filter (inG (grp s.key))) := by rw [← hrow]; exact HGI5.out.row _ hgl
            have hge : ∀ i, (Value.slice ax (prc'.filter (inG (grp s.key))).length cx).ownBlock = some i → w.heap.size + 3 ≤ i := fun i hi => (World.ownsRow.lt hrow5 i hi).1
            refine ⟨ranges_gs r5 gs9 ?_ ?_, ranges_gs hrg5 gs9 ?_ ?_, ?_, fun q hq => ?_, hmore.1, ?_, gs9.own (g5.own HIG.out.res ?_) ?_, ?_, gs9.own HO5.out ?_, HIG.out.two⟩
            · rintro (e | e)
              · omega
              · have := hge _ e; omega
            · rintro (e | e)
              · omega
              · have := hge _ e; omega
            · rintro (e | e)
              · omega
              · have := hge _ e; omega
            · rintro (e | e)
              · omega
              · exact (row_not_iter hrg5 hrow5 _ e).1 rfl
            · rw [List.map_append]
              exact CollK.step (kd := wk) lawV HIG.out.coll HN1.out HOK1.out hxc hlk
            · rcases List.mem_append.1 hq with hq | hq
              · exact HIG.out.sub q hq
              · rw [List.mem_singleton.1 hq]; exact hy
            · rw [List.map_append, ← List.append_assoc]
              exact HIG.out.prm.append_right _
            · intro g hg e
              have e' : g = w3.heap.size := e
              have e2 : w.heap.size = g := Option.some.inj hg
              omega
            · rintro g hg (e | e)
              · have e2 : w.heap.size = g := Option.some.inj hg
                omega
              · have e2 : w.heap.size = g := Option.some.inj hg
                have := hge _ e
                omega
            · have b5 : Below w.heap.size w w5 := HIG.out.bel.grown hg5 HIG.out.bel.size (fun j e => by cases e; omega)
              have := gs9.toBelow (B := w.heap.size) b5.size (fun i hi => by
                rcases hi with e | e
                · omega
                · have := hge _ e; omega)
              exact b5.trans this
            · rintro g hg (e | e)
              · have e2 : w2.heap.size = g := Option.some.inj hg
                omega
              · have e2 : w2.heap.size = g := Option.some.inj hg
                exact own_not_row HO5.out hrow5 (by decide) g e e2.symm
          simp only [vv, id, hyv] at hen5 ⊢
          have HHS := hidMk hs5
          have HRG5 := hidMk hrg5
          have HLT5 := hidMk hlt5
          have HG5 := hidMk g5
          have HSTEP := hidMk (CollK.step (kd := wk) lawV HIG.out.coll HN1.out HOK1.out hxc hlk)
          clear hrow8 hb8 hgi5 g5' hlk hat hkey hxc ent hrg5 hfx ex hs5 hg5 g5 hrgi
          go_wp2_with fail
          go_region_law
            ((refine step_append_lies _ (by rfl) _ _ _ (by rfl) (w.heap.size + 3) 55 i0 _ 4 64 Tryz.underlying51 hi0 hz0 hz1 hz2 rfl (by omega) (.slice ax (prc'.filter (inG (grp s.key))).length cx) (prc'.filter (inG (grp s.key))).length ((prc'.filter (inG (grp s.key))).flatMap cellsC) (by rfl) HR8.out
                ⟨w5.heap.size + 1, 0, none⟩ 1 1 [.slice ka s.key.length kc, .int .i64 y.w.f, .int .i64 y.w.t, .slice ya y.d.length yc] (by rfl) (by rfl) (World.news_of_block (cs := #[.slice ka s.key.length kc, .int .i64 y.w.f, .int .i64 y.w.t, .slice ya y.d.length yc]) (t := 55) (fr := (0, 0)) (heap_alloc2_new w5 _ _)) (by intro u hu; simp at hu; rcases hu with rfl | rfl | rfl | rfl <;> rfl)
                (by omega) (by unfold maxLen; omega) (by omega) (by simp; omega) (w5.heap.size + 2) (by simp) ?_; intro gg cap w9 hown9 hgrow9 hat9 hlt9
              have c9 : w9.cell? ⟨w.heap.size + 1, grp s.key, none⟩ = some (.slice ax (prc'.filter (inG (grp s.key))).length cx) := HNG.out _ hgrow9 |>.1
              have f9 : w9.frozen? ⟨w.heap.size + 1, grp s.key, none⟩ = false := HNG.out _ hgrow9 |>.2))
          all_goals
            have HF := hidMk (HNX.out gg cap w9 hown9 hgrow9 hat9)
            clear hown9 hgrow9 hat9 hlt9 c9 f9
            go_wp2_with fail
            go_roundw
            case rel => exact ⟨_, _, _, _, _, HF.out⟩
            case measure => rw [HF.out.rng1.left_eq, HIG.out.rng1.left_eq]; exact HLT5.out
end Go.Proofs.YtobhccmnlmlapaaGreatDoor
