import Derived.Test.YtobhccmnlmlapaaGreatDoorGl
import Derived.Test.YtobhccmnlmlapaaGreatDoorGm
import Derived.Test.YtobhccmnlmlapaaGreatDoorQRdV
import Derived.Test.YtobhccmnlmlapaaGreatDoorGc
import Derived.Maps.RangeWalk
namespace Go.Proofs.YtobhccmnlmlapaaGreatDoor
open Go.RowKit Go.Maps
set_option linter.unusedVariables false
set_option linter.unusedSimpArgs false

/-- Data that are kept of a window, and where. -/
structure Dt where
  w : Wn
  v : Value
  d : List UInt8
/-- What is kept of a key, and where. -/
structure Sh where
  key : List V
  kv : Value
  mb : Nat
  ds : List Dt
def nameOf (vs : List V) : ByteArray := ⟨(encKey vs).toArray⟩
def entD (x : Dt) : Wn × Value := (x.w, x.v)
def entS (s : Sh) : ByteArray × Value := (nameOf s.key, .agg #[s.kv, .map (some s.mb)])
def ceOf (k : List V) (x : Dt) : Ce := ⟨k, x.w, x.d⟩
def cesS (s : Sh) : List Ce := s.ds.map (ceOf s.key)
def ces (ss : List Sh) : List Ce := ss.flatMap cesS
theorem mem_ces {ss : List Sh} {c : Ce} : c ∈ ces ss ↔ ∃ s ∈ ss, ∃ x ∈ s.ds, c = ⟨s.key, x.w, x.d⟩ := by
  unfold ces cesS ceOf
  simp only [List.mem_flatMap, List.mem_map]
  constructor
  · rintro ⟨s, hs, x, hx, rfl⟩; exact ⟨s, hs, x, hx, rfl⟩
  · rintro ⟨s, hs, x, hx, rfl⟩; exact ⟨s, hs, x, hx, rfl⟩
theorem enc_inj {vs us : List V} (hv : vk vs = true) (hu : vk us = true) (h : nameOf vs = nameOf us) : vs = us := by
  have h1 : encKey vs = encKey us := by
    unfold nameOf at h
    injection h with h
    simpa using h
  have fv : ∀ v ∈ vs, Wr.FormV v := fun v hv' => Wr.form_of_valid ((vk_iff vs).1 hv |>.1 v hv')
  have fu : ∀ v ∈ us, Wr.FormV v := fun v hv' => Wr.form_of_valid ((vk_iff us).1 hu |>.1 v hv')
  clear hv hu h
  unfold encKey at h1
  induction vs generalizing us with
  | nil =>
    cases us with
    | nil => rfl
    | cons u us => simp [Wr.encVal] at h1
  | cons v vs ih =>
    cases us with
    | nil => simp [Wr.encVal] at h1
    | cons u us =>
      rw [List.flatMap_cons, List.flatMap_cons] at h1
      obtain ⟨e1, e2⟩ := Wr.encVal_pf (fv v (by simp)) (fu u (by simp)) h1
      rw [e1, ih e2 (fun x hx => fv x (List.mem_cons_of_mem _ hx)) (fun x hx => fu x (List.mem_cons_of_mem _ hx))]
/-- The store's blocks that turn. -/
def Tb (t mp : Nat) (ss : List Sh) (i : Nat) : Prop := i = t ∨ i = mp ∨ ∃ s ∈ ss, i = s.mb
/-- Its blocks that stay as they are. -/
def Fx (ss : List Sh) (i : Nat) : Prop := ∃ s ∈ ss, s.kv.ownBlock = some i ∨ ∃ x ∈ s.ds, x.v.ownBlock = some i
def Bl (t mp : Nat) (ss : List Sh) (i : Nat) : Prop := Tb t mp ss i ∨ Fx ss i
/-- Values of 64 bits, texts that can be. -/
def GoodK (vs : List V) : Prop := ∀ v ∈ vs, Wr.GoodV v
/-- A shelf in memory. -/
structure ShOk (w : World) (B : Nat) (lo hi : Int) (s : Sh) : Prop where
  key : OV w B s.kv s.key
  good : GoodK s.key
  val : vk s.key = true
  gl : lo ≤ (grp s.key : Int)
  gh : (grp s.key : Int) < hi
  map : MP w wk s.mb (s.ds.map entD)
  ge : B ≤ s.mb
  ne : s.ds ≠ []
  dat : ∀ x ∈ s.ds, Wr.OL w B x.v x.d ∧ kp x.w = true
/-- The store in memory. -/
structure PQ (w : World) (B t mp : Nat) (lo hi : Int) (nc nw : Int) (ss : List Sh) : Prop where
  own : Own w t 82 5 [.int .i64 lo, .int .i64 hi, .map (some mp), .int .i64 nc, .int .i64 nw]
  mpo : MP w sk mp (ss.map entS)
  sho : ∀ s ∈ ss, ShOk w B lo hi s
  ge : B ≤ t ∧ B ≤ mp
  ne : t ≠ mp ∧ ∀ s ∈ ss, s.mb ≠ t ∧ s.mb ≠ mp
  ds : (ss.map (·.mb)).Nodup
  fx : ∀ i, Fx ss i → ¬ Tb t mp ss i
  wl : wt (ces ss) ≤ 67108864
  rg : 0 ≤ lo ∧ lo ≤ hi ∧ hi ≤ 32
/-- It tells what it has. -/
abbrev PS (w : World) (B t mp : Nat) (lo hi : Int) (ss : List Sh) : Prop := PQ w B t mp lo hi ((ces ss).length : Int) (wt (ces ss) : Int) ss
theorem ShOk.kept {S : Nat → Prop} {w w' : World} {B : Nat} {lo hi : Int} {s : Sh} (h : ShOk w B lo hi s) (hg : Gs S w w') (h1 : ¬ S s.mb) (h2 : ∀ i, (s.kv.ownBlock = some i ∨ ∃ x ∈ s.ds, x.v.ownBlock = some i) → ¬ S i) : ShOk w' B lo hi s :=
  ⟨hg.own h.key fun g hg' => h2 g (.inl hg'), h.good, h.val, h.gl, h.gh, hg.map h.map h1, h.ge, h.ne, fun x hx => ⟨hg.own (h.dat x hx).1 fun g hg' => h2 g (.inr ⟨x, hx, hg'⟩), (h.dat x hx).2⟩⟩
theorem PQ.kept {S : Nat → Prop} {w w' : World} {B t mp : Nat} {lo hi nc nw : Int} {ss : List Sh} (h : PQ w B t mp lo hi nc nw ss) (hg : Gs S w w') (hS : ∀ i, Bl t mp ss i → ¬ S i) : PQ w' B t mp lo hi nc nw ss :=
  ⟨hg.own h.own fun g hg' => hS g (.inl (.inl (by cases hg'; rfl))), hg.map h.mpo (hS mp (.inl (.inr (.inl rfl)))),
   fun s hs => (h.sho s hs).kept hg (hS s.mb (.inl (.inr (.inr ⟨s, hs, rfl⟩)))) fun i hi => hS i (.inr ⟨s, hs, hi⟩), h.ge, h.ne, h.ds, h.fx, h.wl, h.rg⟩
theorem PQ.later {w w' : World} {B t mp : Nat} {lo hi nc nw : Int} {ss : List Sh} (h : PQ w B t mp lo hi nc nw ss) (hb : Below w.heap.size w w') : PQ w' B t mp lo hi nc nw ss :=
  h.kept (S := fun _ => False) (Gs.below hb) (fun _ _ s => s.elim)
theorem PQ.drew {w : World} {B t mp : Nat} {lo hi nc nw : Int} {ss : List Sh} (h : PQ w B t mp lo hi nc nw ss) : PQ w.drew B t mp lo hi nc nw ss := h.later ⟨rfl, rfl, rfl, Nat.le_refl _, fun _ _ => rfl⟩
theorem PQ.lt {w : World} {B t mp : Nat} {lo hi nc nw : Int} {ss : List Sh} (h : PQ w B t mp lo hi nc nw ss) {i : Nat} (hi' : Bl t mp ss i) : B ≤ i ∧ i < w.heap.size := by
  rcases hi' with (rfl | rfl | ⟨s, hs, rfl⟩) | ⟨s, hs, h' | ⟨x, hx, h'⟩⟩
  · exact ⟨h.ge.1, h.own.lt⟩
  · exact ⟨h.ge.2, h.mpo.lt⟩
  · exact ⟨(h.sho s hs).ge, (h.sho s hs).map.lt⟩
  · exact World.ownsRow.lt (h.sho s hs).key i h'
  · exact World.ownsRow.lt ((h.sho s hs).dat x hx).1 i h'
theorem PQ.cells {w : World} {B t mp : Nat} {lo hi nc nw : Int} {ss : List Sh} (h : PQ w B t mp lo hi nc nw ss) : w.cell? ⟨t, 0, none⟩ = some (.int .i64 lo) ∧ w.cell? ⟨t, 1, none⟩ = some (.int .i64 hi) ∧ w.cell? ⟨t, 2, none⟩ = some (.map (some mp)) ∧ w.cell? ⟨t, 3, none⟩ = some (.int .i64 nc) ∧ w.cell? ⟨t, 4, none⟩ = some (.int .i64 nw) :=
  ⟨h.own.cell 0 (by decide), h.own.cell 1 (by decide), h.own.cell 2 (by decide), h.own.cell 3 (by decide), h.own.cell 4 (by decide)⟩
theorem PQ.names {w : World} {B t mp : Nat} {lo hi nc nw : Int} {ss : List Sh} (h : PQ w B t mp lo hi nc nw ss) : (ss.map fun s => nameOf s.key).Nodup := by
  have := h.mpo.nodup
  rw [List.map_map] at this
  exact this
theorem PQ.keys {w : World} {B t mp : Nat} {lo hi nc nw : Int} {ss : List Sh} (h : PQ w B t mp lo hi nc nw ss) : (ss.map (·.key)).Nodup := by
  have := h.names
  rw [show (fun s : Sh => nameOf s.key) = nameOf ∘ (·.key) from rfl, ← List.map_map] at this
  exact (List.pairwise_map.1 this).imp (fun hne e => hne (congrArg _ e))
theorem wins {w : World} {B : Nat} {lo hi : Int} {s : Sh} (h : ShOk w B lo hi s) : (s.ds.map (·.w)).Nodup := by
  have := h.map.nodup
  rw [List.map_map] at this
  exact this
theorem PQ.apart {w : World} {B t mp : Nat} {lo hi nc nw : Int} {ss : List Sh} (h : PQ w B t mp lo hi nc nw ss) : Apart (ces ss) := by
  have hk := h.keys
  have hw : ∀ s ∈ ss, (s.ds.map (·.w)).Nodup := fun s hs => wins (h.sho s hs)
  clear h
  unfold Apart ces
  induction ss with
  | nil => exact List.Pairwise.nil
  | cons s ss ih =>
    rw [List.flatMap_cons, List.pairwise_append]
    simp only [List.map_cons, List.nodup_cons] at hk
    refine ⟨?_, ih hk.2 fun x hx => hw x (by simp [hx]), fun a ha b hb e => ?_⟩
    · unfold cesS
      rw [List.pairwise_map]
      have := hw s (by simp)
      exact (List.pairwise_map.1 this).imp (fun hne e => hne e.2)
    · obtain ⟨x, hx, rfl⟩ := List.mem_map.1 ha
      obtain ⟨s', hs', hb⟩ := List.mem_flatMap.1 hb
      obtain ⟨y, hy, rfl⟩ := List.mem_map.1 hb
      exact hk.1 (List.mem_map.2 ⟨s', hs', e.1.symm⟩)
theorem PQ.okC {w : World} {B t mp : Nat} {lo hi nc nw : Int} {ss : List Sh} (h : PQ w B t mp lo hi nc nw ss) : ∀ c ∈ ces ss, okC lo hi c := fun c hc => by
  obtain ⟨s, hs, x, hx, rfl⟩ := mem_ces.1 hc
  have := h.sho s hs
  exact ⟨this.val, (this.dat x hx).2, this.gl, this.gh⟩
theorem PQ.good {w : World} {B t mp : Nat} {lo hi nc nw : Int} {ss : List Sh} (h : PQ w B t mp lo hi nc nw ss) : ∀ c ∈ ces ss, GoodK c.key := fun c hc => by
  obtain ⟨s, hs, x, hx, rfl⟩ := mem_ces.1 hc
  exact (h.sho s hs).good
/-- Where a key's shelf is. -/
def shOf (ss : List Sh) (k : List V) : Option Sh := ss.find? fun s => decide (s.key = k)
def dtOf (ds : List Dt) (w : Wn) : Option Dt := ds.find? fun x => decide (x.w = w)
def look (ss : List Sh) (k : List V) (w : Wn) : Option Dt := (shOf ss k).bind fun s => dtOf s.ds w
theorem shOf_some {ss : List Sh} {k : List V} {s : Sh} (h : shOf ss k = some s) : s ∈ ss ∧ s.key = k := ⟨List.mem_of_find?_eq_some h, by have := List.find?_some h; simpa using this⟩
theorem shOf_none {ss : List Sh} {k : List V} (h : shOf ss k = none) : ∀ s ∈ ss, s.key ≠ k := fun s hs => by have := List.find?_eq_none.1 h s hs; simpa using this
theorem dtOf_some {ds : List Dt} {w : Wn} {x : Dt} (h : dtOf ds w = some x) : x ∈ ds ∧ x.w = w := ⟨List.mem_of_find?_eq_some h, by have := List.find?_some h; simpa using this⟩
theorem dtOf_none {ds : List Dt} {w : Wn} (h : dtOf ds w = none) : ∀ x ∈ ds, x.w ≠ w := fun s hs => by have := List.find?_eq_none.1 h s hs; simpa using this
theorem fnd_entD (ds : List Dt) (w : Wn) : fnd (ds.map entD) w = (dtOf ds w).map (·.v) := by
  unfold fnd dtOf
  rw [List.find?_map, Option.map_map]
  rfl
theorem fnd_entS {ss : List Sh} {k : List V} (hk : vk k = true) (hv : ∀ s ∈ ss, vk s.key = true) : fnd (ss.map entS) (nameOf k) = (shOf ss k).map fun s => .agg #[s.kv, .map (some s.mb)] := by
  unfold fnd shOf
  induction ss with
  | nil => rfl
  | cons s ss ih =>
    rw [List.map_cons, List.find?_cons, List.find?_cons]
    by_cases h : s.key = k
    · have : (entS s).1 = nameOf k := by unfold entS; rw [h]
      simp only [this, h, decide_true]; rfl
    · have : ¬ (entS s).1 = nameOf k := fun e => h (enc_inj (hv s (by simp)) hk e)
      simp only [this, h, decide_false]
      exact ih fun s hs => hv s (by simp [hs])
end Go.Proofs.YtobhccmnlmlapaaGreatDoor
namespace Go.Proofs.YtobhccmnlmlapaaGreatDoor
open Go.RowKit Go.Maps
set_option linter.unusedVariables false
set_option linter.unusedSimpArgs false
set_option maxRecDepth 100000

theorem tput_any (w0 w : World) (a : Option Addr) (cap : Nat) (vs : List V) (v : Value) (l : List UInt8) (hl : VLies w0 a vs) (hg : GoodK vs) (hvl : vs.length ≤ 549755813888) (hb0 : Below w0.heap.size w0 w) (hown : Wr.OL w w0.heap.size v l) (hlen : l.length + (encKey vs).length ≤ 549755813888) :
    Calls Tryz.prog 81 #[v, .slice a vs.length cap] w fun e w' => ∃ v', e = .returned v' ∧ Wr.OL w' w0.heap.size v' (l ++ encKey vs) ∧ Below w0.heap.size w w' := by
  have HV : Hid (VLies w0 a vs) := hl
  have HGV : Hid (∀ v ∈ vs, Wr.GoodV v) := hg
  have HO : Hid (Wr.OL w w0.heap.size v l) := hown
  have HB0 : Hid (Below w0.heap.size w0 w) := hb0
  have hs0 := hb0.size
  unfold encKey at *
  clear hl hg hown hb0
  go_enter Tryz.func81, Tryz.ntmps81
  go_wp2
  go_loopw [0, 9] (fun v i w' => ∃ j : Nat, j ≤ vs.length ∧ i = .int .i64 j ∧ Wr.OL w' w0.heap.size v (l ++ (vs.take j).flatMap Wr.encVal) ∧ Below w0.heap.size w w' ∧ w0.heap.size ≤ w'.heap.size) (fun _ i _ => vs.length - (intOf i).toNat)
  case atStart => exact ⟨0, Nat.zero_le _, rfl, by simpa using HO.out, Below.refl _ _, hs0⟩
  case round =>
    obtain ⟨j, hj, rfl, ho, hb, hsz'⟩ := hrel
    have HBJ : Hid (Below w0.heap.size w wr) := hb
    have HOJ : Hid (Wr.OL wr w0.heap.size u0 (l ++ (vs.take j).flatMap Wr.encVal)) := ho
    clear ho hb HO
    by_cases hjt : j < vs.length
    · obtain ⟨b', off', rfl, e1, e2, e3⟩ := HV.out j hjt
      replace e1 := cell_later (HB0.out.trans HBJ.out) e1
      replace e2 := cell_later (HB0.out.trans HBJ.out) e2
      replace e3 := cell_later (HB0.out.trans HBJ.out) e3
      have hgv := HGV.out _ (List.getElem_mem hjt)
      have HGJ : Hid (Wr.GoodV vs[j]) := hgv
      have hji : (j : Int) < (vs.length : Int) := by omega
      have hfj := Wr.flat_lt Wr.encVal vs j hjt
      have hmj : (l ++ (vs.take j).flatMap Wr.encVal).length = l.length + ((vs.take j).flatMap Wr.encVal).length := List.length_append
      have HFJ : Hid (l ++ (vs.take (j + 1)).flatMap Wr.encVal = l ++ (vs.take j).flatMap Wr.encVal ++ Wr.encVal vs[j]) := by unfold Hid; rw [Wr.take_flat Wr.encVal vs j hjt, List.append_assoc]
      clear hgv
      go_wp2_with fail
      refine (Wr.putValue_ol u0 (l ++ (vs.take j).flatMap Wr.encVal) vs[j] w0.heap.size _ (HOJ.out.later (bel1 wr _)) (by simp; omega) HGJ.out (by omega)).mono ?_
      rintro e w5 ⟨v5, rfl, ho5, hb5⟩
      have HB5 : Hid (Below w0.heap.size w w5) := (HBJ.out.alloc hsz' _).trans hb5
      have H5 := hidMk ho5
      clear ho5 hb5
      go_wp2
      go_roundw
      case rel => exact ⟨j + 1, by omega, by go_num, by rw [HFJ.out]; exact H5.out, HB5.out, Nat.le_trans hs0 HB5.out.size⟩
      case measure => simp [intOf]; omega
    · obtain rfl : j = vs.length := by omega
      go_wp2
      go_ret
      refine ⟨u0, rfl, ?_, HBJ.out⟩
      have := HOJ.out
      rwa [List.take_of_length_le (Nat.le_refl _)] at this
end Go.Proofs.YtobhccmnlmlapaaGreatDoor
namespace Go.Proofs.YtobhccmnlmlapaaGreatDoor
open Go.RowKit Go.Maps Go.WideShapes
set_option linter.unusedVariables false
set_option linter.unusedSimpArgs false
set_option linter.unusedSectionVars false
set_option maxRecDepth 100000

section
variable {P : Program} {k : TypeId} {κ : Type} [DecidableEq κ] {kd : KeyKind P k κ}
theorem same_kd (kd : KeyKind P k κ) (K : Keyed P k) (a b : κ) (ha : kd.ok a) (hb : kd.ok b) : (kd.kl a).sameKey (kd.kl b) = true ↔ a = b := by
  constructor
  · intro h
    exact kd.inj _ _ ha hb (WideAt.sameKey_eq h)
  · rintro rfl; exact WideAt.sameKey_self (K.key (kd.key a ha))
theorem nodup_of_map {α β : Type} {f : α → β} {l : List α} (h : (l.map f).Nodup) : l.Nodup := (List.pairwise_map.1 h).imp (fun hne e => hne (congrArg _ e))
/-- What has come of a map, and what is left of it. -/
def CollK (kd : KeyKind P k κ) (m : List (κ × Value)) (left : Lit → Bool) (cs : List (κ × Value)) : Prop := (cs.map (·.1)).Nodup ∧ (∀ p ∈ cs, p ∈ m) ∧ ∀ p ∈ m, (p ∈ cs ↔ left (kd.kl p.1) = false)
theorem CollK.start {m : List (κ × Value)} {es : List (Lit × DataW Value)} (K : Keyed P k) (hp : es.Perm (mpOf kd m)) (hok : ∀ p ∈ m, kd.ok p.1) (hn : (m.map (·.1)).Nodup) : CollK kd m (Maps.has (DataW.map es)) [] := by
  refine ⟨List.nodup_nil, (fun p h => by cases h), fun p hpm => ?_⟩
  have hf := find_mp (kd := kd) K hp hok hn (hok p hpm)
  have : Maps.has (DataW.map es) (kd.kl p.1) = true := by
    rw [has_eq, List.any_eq_true, ← List.find?_isSome, hf, Option.isSome_map, fnd_of hn (show (p.1, p.2) ∈ m from hpm)]; rfl
  rw [this]; simp
theorem CollK.step {m cs : List (κ × Value)} {left : Lit → Bool} {x : κ} {c : Value} (K : Keyed P k) (h : CollK kd m left cs) (hn : (m.map (·.1)).Nodup) (hok : ∀ p ∈ m, kd.ok p.1) (hx : (x, c) ∈ m) (hl : left (kd.kl x) = true) : CollK kd m (fun z => left z && !z.sameKey (kd.kl x)) (cs ++ [(x, c)]) := by
  have hfx := hok _ hx
  have hnew : (x, c) ∉ cs := fun hc => by have := (h.2.2 _ hx).1 hc; rw [hl] at this; cases this
  have uniq : ∀ p ∈ m, p.1 = x → p = (x, c) := fun p hp e => by
    have h1 := fnd_of hn (show (x, p.2) ∈ m by rw [← e]; exact hp)
    have h2 := fnd_of hn hx
    rw [h1] at h2
    rw [← e]
    exact Prod.ext rfl (Option.some.inj h2)
  refine ⟨?_, fun p hp => ?_, fun p hp => ?_⟩
  · rw [List.map_append, List.nodup_append]
    refine ⟨h.1, by simp, fun a ha b hb e => ?_⟩
    simp at hb
    obtain ⟨p, hp, rfl⟩ := List.mem_map.1 ha
    have := uniq p (h.2.1 p hp) (by rw [e, hb])
    exact hnew (this ▸ hp)
  · rcases List.mem_append.1 hp with hp | hp
    · exact h.2.1 p hp
    · rw [List.mem_singleton.1 hp]; exact hx
  · by_cases e : p.1 = x
    · have := uniq p hp e
      subst this
      have hs : (kd.kl x).sameKey (kd.kl x) = true := (same_kd kd K x x hfx hfx).2 rfl
      simp [hs]
    · have hs : (kd.kl p.1).sameKey (kd.kl x) = false := by
        cases hh : (kd.kl p.1).sameKey (kd.kl x) with
        | false => rfl
        | true => exact absurd ((same_kd kd K _ _ (hok p hp) hfx).1 hh) e
      have hne : p ≠ (x, c) := fun e' => e (by rw [e'])
      simp [h.2.2 p hp, hs, hne]
theorem CollK.all {m cs : List (κ × Value)} {left : Lit → Bool} (h : CollK kd m left cs) (hn : (m.map (·.1)).Nodup) (hl : ∀ kl, left kl = false) : cs.Perm m := by
  have n1 : cs.Nodup := nodup_of_map h.1
  have n2 : m.Nodup := nodup_of_map hn
  exact (List.perm_ext_iff_of_nodup n1 n2).2 fun p => ⟨fun hp => h.2.1 p hp, fun hp => (h.2.2 p hp).2 (hl _)⟩
theorem mem_atK {m : List (κ × Value)} {es : List (Lit × DataW Value)} (K : Keyed P k) (hes : es.Perm (mpOf kd m)) (hok : ∀ p ∈ m, kd.ok p.1) (hn : (m.map (·.1)).Nodup) {x : κ} {c : Value} (hx : kd.ok x) (hat : ∀ zd, (DataW.map es).atKey (kd.kl x) zd = .held c) : (x, c) ∈ m := by
  have hf := find_mp (kd := kd) K hes hok hn hx
  have h1 := hat .nil
  simp only [DataW.atKey, hf] at h1
  cases hq : fnd m x with
  | none => rw [hq] at h1; simp at h1
  | some v =>
    rw [hq] at h1
    simp at h1
    rw [← h1]; exact fnd_mem hq
theorem ranges_gs {S : Nat → Prop} {w w' : World} {b r n : Nat} {D : DataW Value} {left : Lit → Bool} {cnt : Nat} (h : w.ranges P k heldE b r n D left cnt) (hg : Gs S w w') (hb : ¬ S b) (hr : ¬ S r) : w'.ranges P k heldE b r n D left cnt := by
  have l1 : b < w.heap.size := h.owns.lt
  have l2 := h.lt
  obtain ⟨es, clock, since, seen, c0, q1, q2, q3, q4, q5, q6⟩ := h
  exact ⟨es, clock, since, seen, c0, (hg.block b l1 hb).trans q1, q2, q3, q4, (hg.block r l2 hr).trans q5, q6⟩
end
theorem str_inv {key : Value} {kl : Lit} (h : keyOf Tryz.prog 9 key = some kl) : ∃ s : ByteArray, key = .string s ∧ sk.ok s ∧ kl = sk.kl s := by
  unfold keyOf at h
  rw [Tryz.underlying9] at h
  cases key <;> simp [mapKey] at h
  obtain ⟨h1, rfl⟩ := h
  exact ⟨_, rfl, h1, rfl⟩
end Go.Proofs.YtobhccmnlmlapaaGreatDoor
namespace Go.Proofs.YtobhccmnlmlapaaGreatDoor
open Go.RowKit Go.Maps
set_option linter.unusedVariables false
set_option linter.unusedSimpArgs false
set_option maxRecDepth 100000

theorem validKey_any (vs : List V) (a : Option Addr) (c : Nat) (w : World) (hl : VLies w a vs) (hg : GoodK vs) (hvl : vs.length ≤ 549755813888) :
    Calls Tryz.prog 57 #[.slice a vs.length c] w fun e w' => e = .returned (.bool (vk vs)) ∧ Below w.heap.size w w' := by
  have HC := hidMk (Wr.validRow_any ⟨0, vs⟩ a c w hl ⟨by simp, by simp, hvl, hg⟩)
  unfold vk
  clear hl hg
  go_enter Tryz.func57, Tryz.ntmps57
  go_wp2_with fail
  refine HC.out.mono ?_
  rintro e w1 ⟨rfl, hb⟩
  have HB1 := hidMk hb
  clear hb
  go_wp2_with fail
  go_ret
  exact ⟨rfl, HB1.out⟩
theorem has_any (g : Nat) (w : World) (t : Nat) (lo hi : Int) (c0 : w.cell? ⟨t, 0, none⟩ = some (.int .i64 lo)) (c1 : w.cell? ⟨t, 1, none⟩ = some (.int .i64 hi)) :
    Calls Tryz.prog 58 #[.pointer (some ⟨t, 0, none⟩), .int .i64 (g : Int)] w fun e w' => e = .returned (.bool (decide (lo ≤ (g : Int)) && decide ((g : Int) < hi))) ∧ w' = w := by
  by_cases h1 : lo ≤ (g : Int)
  · by_cases h2 : (g : Int) < hi
    · go_enter Tryz.func58, Tryz.ntmps58
      go_wp2
      go_ret
      exact ⟨ret_bool (by simp [h1, h2]), rfl⟩
    · go_enter Tryz.func58, Tryz.ntmps58
      go_wp2
      go_ret
      exact ⟨ret_bool (by simp [h1, h2]), rfl⟩
  · go_enter Tryz.func58, Tryz.ntmps58
    go_wp2
    go_ret
    exact ⟨ret_bool (by simp [h1]; omega), rfl⟩
theorem vat_at (vs : List V) (i : Nat) (hi : i < vs.length) : vat vs i = vs[i] := by simp [vat, hi]
theorem goodF {vs : List V} (h : GoodK vs) : Vl.GoodF (vat vs) vs.length := fun i hi => by
  rw [vat_at vs i hi]
  have := h vs[i] (List.getElem_mem hi)
  exact ⟨by unfold maxLen; have := this.2.2; omega, this.1, this.2.1⟩
theorem groupP_any (vs : List V) (a : Option Addr) (c : Nat) (w : World) (hl : VLies w a vs) (hg : GoodK vs) (hvl : vs.length ≤ 549755813888) (ht : Vl.Tab w) :
    Calls Tryz.prog 59 #[.slice a vs.length c] w fun e w' => e = .returned (.int .i64 (grp vs : Int)) ∧ Below w.heap.size w w' := by
  have := Vl.group_any a vs.length c (vat vs) w hl.lies (goodF hg) (by unfold maxLen; omega) ht
  rw [grp_int]; exact this
theorem groupD_any (vs : List V) (a : Option Addr) (c : Nat) (w : World) (hl : VLies w a vs) (hg : GoodK vs) (hvl : vs.length ≤ 549755813888) :
    Calls Tryz.prog 14 #[.slice a vs.length c] w fun e w' => e = .returned (.int .i64 (grp vs : Int)) ∧ Below w.heap.size w w' := by
  have := Vl.refGroup_any a vs.length c (vat vs) w hl.lies (goodF hg) (by unfold maxLen; omega)
  rw [grp_int]; exact this
/-- A key that is one, of the groups. -/
def ow (lo hi : Int) (vs : List V) : Bool := vk vs && (decide (lo ≤ (grp vs : Int)) && decide ((grp vs : Int) < hi))
set_option maxHeartbeats 1000000 in
theorem owns_any (vs : List V) (a : Option Addr) (c : Nat) (w : World) (t : Nat) (lo hi : Int) (c0 : w.cell? ⟨t, 0, none⟩ = some (.int .i64 lo)) (c1 : w.cell? ⟨t, 1, none⟩ = some (.int .i64 hi)) (hl : VLies w a vs) (hg : GoodK vs) (hvl : vs.length ≤ 549755813888) (ht : Vl.Tab w) :
    Calls Tryz.prog 29 #[.pointer (some ⟨t, 0, none⟩), .slice a vs.length c] w fun e w' => e = .returned (.bool (ow lo hi vs)) ∧ Below w.heap.size w w' := by
  have HV := hidMk (validKey_any vs a c w hl hg hvl)
  have HG := hidMk (fun W (hb : Below w.heap.size w W) => groupP_any vs a c W (hl.later hb) hg hvl (ht.later hb))
  have HC : Hid (∀ W, Below w.heap.size w W → W.cell? ⟨t, 0, none⟩ = some (.int .i64 lo) ∧ W.cell? ⟨t, 1, none⟩ = some (.int .i64 hi)) := fun W hb => ⟨cell_later hb c0, cell_later hb c1⟩
  unfold ow
  clear hl hg ht c0 c1
  go_enter Tryz.func29, Tryz.ntmps29
  go_wp2_with fail
  refine HV.out.mono ?_
  rintro e w1 ⟨rfl, hb⟩
  have HB1 := hidMk hb
  clear hb
  cases hv : vk vs with
  | false =>
    go_wp2_with fail
    go_ret
    exact ⟨ret_bool (by simp [hv]), HB1.out⟩
  | true =>
    go_wp2_with fail
    refine (HG.out _ HB1.out).mono ?_
    rintro e w2 ⟨rfl, hb⟩
    have HB2 := hidMk (HB1.out.trans (hb.mono HB1.out.size))
    clear hb
    obtain ⟨c0, c1⟩ := HC.out _ HB2.out
    go_wp2_with fail
    refine (has_any (grp vs) w2 t lo hi c0 c1).mono ?_
    rintro e w3 ⟨rfl, rfl⟩
    go_wp2_with fail
    go_ret
    exact ⟨ret_bool (by simp [hv]), HB2.out⟩
theorem keepable_any (x : Wn) (w : World) :
    Calls Tryz.prog 34 #[vv x] w fun e w' => e = .returned (.bool (kp x)) ∧ Below w.heap.size w w' := by
  have HK := hidMk (kp_iff x)
  have HB := hidMk (bel1 w (.cells #[.int .i64 x.f, .int .i64 x.t] 38))
  generalize hk : kp x = k at *
  clear hk
  obtain ⟨f, t⟩ := x
  simp only at HK HB
  unfold vv
  by_cases h1 : -1048576 ≤ f
  · by_cases h2 : f < t
    · by_cases h3 : t ≤ 1099512676353
      · have H : Hid (k = true) := HK.out.2 ⟨h1, h2, h3⟩
        go_enter Tryz.func34, Tryz.ntmps34
        go_wp2
        go_ret
        exact ⟨ret_bool (by rw [H.out]), HB.out⟩
      · have H : Hid (k = false) := by cases k; rfl; exact absurd (HK.out.1 rfl).2.2 h3
        go_enter Tryz.func34, Tryz.ntmps34
        go_wp2
        go_ret
        exact ⟨ret_bool (by rw [H.out]), HB.out⟩
    · have H : Hid (k = false) := by cases k; rfl; exact absurd (HK.out.1 rfl).2.1 h2
      go_enter Tryz.func34, Tryz.ntmps34
      go_wp2
      go_ret
      exact ⟨ret_bool (by rw [H.out]), HB.out⟩
  · have H : Hid (k = false) := by cases k; rfl; exact absurd (HK.out.1 rfl).1 h1
    go_enter Tryz.func34, Tryz.ntmps34
    go_wp2
    go_ret
    exact ⟨ret_bool (by rw [H.out]), HB.out⟩
theorem weigh_any (a1 : Option Addr) (n1 c1 : Nat) (a2 : Option Addr) (n2 c2 : Nat) (w : World) (h1 : n1 ≤ 549755813888) (h2 : n2 ≤ 1099511627776) :
    Calls Tryz.prog 35 #[.slice a1 n1 c1, .slice a2 n2 c2] w fun e w' => e = .returned (.int .i64 ((n2 + 64 * n1 + 32 : Nat) : Int)) ∧ w' = w := by
  go_enter Tryz.func35, Tryz.ntmps35
  go_wp2
  go_ret
  exact ⟨ret_int (by omega), rfl⟩
end Go.Proofs.YtobhccmnlmlapaaGreatDoor
