import Derived.Test.YtobhccmnlmlapaaGreatDoorGn
import Derived.Test.YtobhccmnlmlapaaGreatDoorQRdD
namespace Go.Proofs.YtobhccmnlmlapaaGreatDoor
open Go.RowKit Go.Maps
set_option linter.unusedVariables false
set_option linter.unusedSimpArgs false
set_option maxRecDepth 100000

theorem encKey_len (vs : List V) (hk : vk vs = true) (hg : GoodK vs) : (encKey vs).length ≤ 71 * vs.length := by
  have h := ((vk_iff vs).1 hk).1
  clear hk
  unfold encKey
  induction vs with
  | nil => simp
  | cons v vs ih =>
    rw [List.flatMap_cons, List.length_append, List.length_cons]
    have h1 := encVal_len v (h v (by simp)) (hg v (by simp)).1 (hg v (by simp)).2.1
    have h2 := ih (fun v hv => hg v (by simp [hv])) (fun v hv => h v (by simp [hv]))
    omega
theorem vk_len {vs : List V} (hk : vk vs = true) : vs.length ≤ 8 := ((vk_iff vs).1 hk).2
theorem name_size (vs : List V) (hk : vk vs = true) (hg : GoodK vs) : sk.ok (nameOf vs) := by
  show (nameOf vs).size ≤ maxLen
  have h1 := encKey_len vs hk hg
  have h2 := vk_len hk
  unfold nameOf maxLen
  simp [ByteArray.size]
  omega
theorem name_any (vs : List V) (a : Option Addr) (c : Nat) (w : World) (hl : VLies w a vs) (hg : GoodK vs) (hk : vk vs = true) :
    Calls Tryz.prog 52 #[.slice a vs.length c] w fun e w' => e = .returned (.string (nameOf vs)) ∧ Below w.heap.size w w' := by
  have h1 := encKey_len vs hk hg
  have h2 := vk_len hk
  have HC := hidMk (tput_any w w a c vs (.slice none 0 0) [] hl hg (by omega) (Below.refl _ _) (World.ownsRow_nil _ _ _ _) (by simp; omega))
  clear hl hg hk
  go_enter Tryz.func52, Tryz.ntmps52
  go_wp2_with fail
  refine HC.out.mono ?_
  rintro e w1 ⟨v', rfl, ho, hb⟩
  have HB := hidMk hb
  rw [List.nil_append] at ho
  obtain ⟨a', c', rfl, hB, hc1, hc2⟩ := ho.conv
  have V1 := Wr.conv_bytes w1 a' (encKey vs).length c' (Wr.lat (encKey vs)) hB
  have HE : Hid (Wr.bstr (Wr.lat (encKey vs)) (encKey vs).length = nameOf vs) := by
    unfold Hid
    apply ByteArray.ext
    apply Array.toList_inj.1
    rw [Wr.bstr_take _ _ (Nat.le_refl _), List.take_of_length_le (Nat.le_refl _)]
    rfl
  clear ho hB hb HC
  generalize Wr.bstr (Wr.lat (encKey vs)) (encKey vs).length = S at *
  go_wp2_with fail
  go_ret
  rw [HE.out]
  exact ⟨rfl, HB.out⟩
/-- What is held of a key. -/
def shV : Option Sh → Value
  | some s => .agg #[s.kv, .map (some s.mb)]
  | none => .agg #[.slice none 0 0, .map none]
theorem zShelf (w : World) : (zeroValue 87).run Tryz.prog w = .ok (.agg #[.slice none 0 0, .map none]) w := Tryz.zeroValue87 w
theorem Own.two {w : World} {g t : Nat} {x y : Value} (h : Own w g t 2 [x, y]) : w.cell? ⟨g, 0, none⟩ = some x ∧ w.cell? ⟨g, 1, none⟩ = some y ∧ w.frozen? ⟨g, 0, none⟩ = false ∧ w.frozen? ⟨g, 1, none⟩ = false := ⟨h.cell 0 (by decide), h.cell 1 (by decide), h.soft 0, h.soft 1⟩
theorem below_two {w w1 : World} (h : Below w.heap.size w w1) (x y : Value) : Below w.heap.size w ((w1.setCell ⟨w.heap.size, 0, none⟩ x).setCell ⟨w.heap.size, 1, none⟩ y) := (h.grown (grown_set _ _ _) h.size (fun j e => by cases e; exact Nat.le_refl _)).grown (grown_set _ _ _) (by simp; exact h.size) (fun j e => by cases e; exact Nat.le_refl _)
theorem shV_form {w : World} {B t mp : Nat} {lo hi nc nw : Int} {ss : List Sh} (h : PQ w B t mp lo hi nc nw ss) (vs : List V) : ∃ a n c m, shV (shOf ss vs) = .agg #[.slice a n c, .map m] := by
  cases hs : shOf ss vs with
  | none => exact ⟨_, _, _, _, rfl⟩
  | some s =>
    obtain ⟨a, c, e, -⟩ := (h.sho s (shOf_some hs).1).key.form
    exact ⟨a, _, c, some s.mb, by simp only [shV]; rw [e]⟩
set_option maxHeartbeats 1000000 in
theorem shelfOf_any (vs : List V) (a : Option Addr) (c : Nat) (w : World) (B t mp : Nat) (lo hi : Int) {nc nw : Int} (ss : List Sh) (h : PQ w B t mp lo hi nc nw ss) (hl : VLies w a vs) (hg : GoodK vs) (hvl : vs.length ≤ 549755813888) :
    Calls Tryz.prog 51 #[.pointer (some ⟨t, 0, none⟩), .slice a vs.length c] w fun e w' => e = .returned (shV (if vk vs = true then shOf ss vs else none)) ∧ Below w.heap.size w w' := by
  have HB0 := hidMk (bel1 w (.cells #[.slice none 0 0, .map none] 87))
  have HO := hidMk (Own.new w 87 2 #[.slice none 0 0, .map none] rfl)
  have HV := hidMk (validKey_any vs a c _ (hl.later HB0.out) hg hvl)
  have HP := hidMk h
  have HL := hidMk hl
  have HG := hidMk hg
  clear hl hg h
  generalize hR : shV (if vk vs = true then shOf ss vs else none) = R
  have HRR := hidMk hR
  clear hR
  go_enter Tryz.func51, Tryz.ntmps51
  go_wp2_with fail
  refine HV.out.mono ?_
  rintro e w1 ⟨rfl, hb⟩
  have HO1 := hidMk (HO.out.later hb)
  have HB1 := hidMk (HB0.out.trans (hb.mono HB0.out.size))
  clear hb HB0 HO
  cases hv : vk vs with
  | false =>
    rw [hv] at HRR
    obtain rfl : R = .agg #[.slice none 0 0, .map none] := HRR.out.symm
    obtain ⟨e0, e1, f0, f1⟩ := HO1.out.two
    have HX := hidMk (below_two HB1.out (.slice none 0 0) (.map none))
    go_wp2_with fail
    have hO2 := ((HO1.out.put 0 (.slice none 0 0)).1.put 1 (.map none)).1.two
    exact bodyPost_ret (v := .agg #[.slice none 0 0, .map none]) (by have g0 := hO2.1; have g1 := hO2.2.1; simp [results, Tryz.results51, go_sem] at g0 g1 ⊢; simp [g0, g1]) rfl ⟨rfl, HX.out⟩
  | true =>
    have HK := hidMk hv
    rw [hv, if_pos rfl] at HRR
    clear hv
    have HF : Hid (∀ w2, Below w1.drew.heap.size w1.drew w2 → w2.cell? ⟨t, 2, none⟩ = some (.map (some mp)) ∧ (Instr.lookup 80 (.map (some mp)) (.string (nameOf vs)) false).run Tryz.prog w2 = .ok R w2 ∧ Below w.heap.size w w2 ∧ Own w2 w.heap.size 87 2 [.slice none 0 0, .map none]) := fun w2 hb => by
      have hB2 : Below w.heap.size w w2 := (below_drewN HB1.out 1).trans (hb.mono HB1.out.size)
      have h2 := HP.out.later hB2
      have hL := h2.mpo.look1 K9 Tryz.underlying80 (zShelf w2) (nameOf vs) (name_size vs HK.out HG.out)
      rw [fnd_entS HK.out (fun s hs => (h2.sho s hs).val)] at hL
      refine ⟨h2.cells.2.2.1, ?_, hB2, (show Own w1.drew _ _ _ _ from HO1.out).later hb⟩
      rw [← HRR.out]
      cases hs : shOf ss vs with
      | none => rw [hs] at hL; exact hL
      | some s => rw [hs] at hL; exact hL
    have HN := hidMk (name_any vs a c w1.drew (HL.out.later (below_drewN HB1.out 1)) HG.out HK.out)
    have c2 := (HF.out _ (Below.refl _ _)).1
    have hts : t ≠ w.heap.size := fun e => by have := (HP.out.lt (.inl (.inl rfl))).2; omega
    obtain ⟨ra, rn, rc, rm, rfl⟩ : ∃ a n c m, R = .agg #[.slice a n c, .map m] := by rw [← HRR.out]; exact shV_form HP.out vs
    clear HV HP HL HG HRR
    go_wp2_with fail
    go_region_with (first | (go_at_call 52; refine HN.out.mono ?_; rintro e w2 ⟨rfl, hb⟩; obtain ⟨c2', hL, hB2, hO2⟩ := HF.out _ hb; obtain ⟨e0, e1, f0, f1⟩ := hO2.two; have HB2 := hidMk hB2; have HO2 := hidMk hO2; clear hb hB2 hO2))
    all_goals
      have HX := hidMk (below_two HB2.out (.slice ra rn rc) (.map rm))
      go_wp2_with fail
      have hO3 := ((HO2.out.put 0 (.slice ra rn rc)).1.put 1 (.map rm)).1.two
      exact bodyPost_ret (v := .agg #[.slice ra rn rc, .map rm]) (by have g0 := hO3.1; have g1 := hO3.2.1; simp [results, Tryz.results51, go_sem] at g0 g1 ⊢; simp [g0, g1]) rfl ⟨rfl, HX.out⟩
end Go.Proofs.YtobhccmnlmlapaaGreatDoor
namespace Go.Proofs.YtobhccmnlmlapaaGreatDoor
open Go.RowKit Go.Maps
set_option linter.unusedVariables false
set_option linter.unusedSimpArgs false
set_option maxRecDepth 100000

/-- Data that were found. -/
def dV : Option Dt → Value
  | some x => x.v
  | none => .slice none 0 0
/-- What is found of a key and a window. -/
def lookV (ss : List Sh) (k : List V) (x : Wn) : Option Dt := if vk k = true then look ss k x else none
theorem zBytes (w : World) : (zeroValue 39).run Tryz.prog w = .ok (.slice none 0 0) w := Tryz.zeroValue39 w
theorem dV_form {w : World} {B t mp : Nat} {lo hi nc nw : Int} {ss : List Sh} (h : PQ w B t mp lo hi nc nw ss) (vs : List V) (x : Wn) : ∃ a n c, dV (lookV ss vs x) = .slice a n c := by
  unfold lookV
  split
  · unfold look
    cases hs : shOf ss vs with
    | none => exact ⟨_, _, _, rfl⟩
    | some s =>
      simp only [Option.bind_some]
      cases hd : dtOf s.ds x with
      | none => exact ⟨_, _, _, rfl⟩
      | some y =>
        obtain ⟨a, c, e⟩ := row_form ((h.sho s (shOf_some hs).1).dat y (dtOf_some hd).1).1
        exact ⟨a, _, c, e⟩
  · exact ⟨_, _, _, rfl⟩
theorem look_nil {P : Program} {k t e : TypeId} {w : World} (K : Keyed P k) (ht : P.underlying t = some (.map k e)) {z : Value} (hz : (zeroValue e).run P w = .ok z w) {key : Value} {kl : Lit} (hkey : keyOf P k key = some kl) :
    (Instr.lookup t (.map none) key true).run P w = .ok (.tuple #[z, .bool false]) w := by
  rcases K.find w hkey [] (fun e he => by cases he) with ⟨h1, _⟩ | ⟨j, e0, h1, h2, h3⟩
  · simp [Instr.lookup, run_underlying ht, K.check w _ hkey, h1, hz, Result.andThen]
  · simp at h2
/-- A window in the map of a shelf. -/
theorem look_sh {w : World} {B t mp : Nat} {lo hi nc nw : Int} {ss : List Sh} (h : PQ w B t mp lo hi nc nw ss) (vs : List V) (x : Wn) (hx : Fits x) {a : Option Addr} {n c : Nat} {m : Option Nat} (hR : shV (if vk vs = true then shOf ss vs else none) = .agg #[.slice a n c, .map m]) :
    (Instr.lookup 85 (.map m) (vv x) true).run Tryz.prog w = .ok (.tuple #[dV (lookV ss vs x), .bool (lookV ss vs x).isSome]) w := by
  have nil : shV none = .agg #[.slice a n c, .map m] → (Instr.lookup 85 (.map m) (vv x) true).run Tryz.prog w = .ok (.tuple #[.slice none 0 0, .bool false]) w := fun e => by
    simp [shV] at e
    rw [← e.2]
    exact look_nil lawV Tryz.underlying85 (zBytes w) (keyV_of x hx)
  unfold lookV
  by_cases hv : vk vs = true
  · rw [if_pos hv] at hR ⊢
    unfold look
    cases hs : shOf ss vs with
    | none =>
      rw [hs] at hR
      exact nil hR
    | some s =>
      rw [hs] at hR
      simp [shV] at hR
      rw [← hR.2]
      have hL := (h.sho s (shOf_some hs).1).map.look lawV Tryz.underlying85 (zBytes w) x hx
      rw [fnd_entD] at hL
      simp only [Option.bind_some]
      cases hd : dtOf s.ds x with
      | none => rw [hd] at hL; exact hL
      | some y => rw [hd] at hL; exact hL
  · rw [if_neg hv] at hR ⊢
    exact nil hR
theorem fld1 (k : Value) (m : Option Nat) (w : World) : (Instr.field 87 (.agg #[k, .map m]) 1).run Tryz.prog w = .ok (.map m) w := by
  have u := Tryz.underlying87
  have a5 := Tryz.isAgg85
  have z5 := Tryz.sizeOf85
  simp [Instr.field, run_underlying u, Result.andThen, asAgg, part, a5, z5, go_sem]
theorem fld0 (a : Option Addr) (n c : Nat) (m : Value) (w : World) : (Instr.field 87 (.agg #[.slice a n c, m]) 0).run Tryz.prog w = .ok (.slice a n c) w := by
  have u := Tryz.underlying87
  have a5 := Tryz.isAgg36
  have z5 := Tryz.sizeOf36
  simp [Instr.field, run_underlying u, Result.andThen, asAgg, part, a5, z5, go_sem]
attribute [local go_sem] fld0 fld1
set_option maxHeartbeats 1000000 in
theorem find_any (vs : List V) (a : Option Addr) (c : Nat) (x : Wn) (w : World) (B t mp : Nat) (lo hi : Int) {nc nw : Int} (ss : List Sh) (h : PQ w B t mp lo hi nc nw ss) (hl : VLies w a vs) (hg : GoodK vs) (hvl : vs.length ≤ 549755813888) (hx : Fits x) :
    Calls Tryz.prog 36 #[.pointer (some ⟨t, 0, none⟩), .slice a vs.length c, vv x] w fun e w' => e = .returned (.tuple #[dV (lookV ss vs x), .bool (lookV ss vs x).isSome]) ∧ Below w.heap.size w w' := by
  have hB0 := bel1 w (.cells #[.int .i64 x.f, .int .i64 x.t] 38)
  have hB1 := below_drewN hB0 1
  have HS := hidMk (shelfOf_any vs a c (w.alloc (.cells #[.int .i64 x.f, .int .i64 x.t] 38)).drew B t mp lo hi ss (h.later hB1) (hl.later hB1) hg hvl)
  obtain ⟨ra, rn, rc, rm, hR⟩ : ∃ a n c m, shV (if vk vs = true then shOf ss vs else none) = .agg #[.slice a n c, .map m] := by
    split
    · exact shV_form h vs
    · exact ⟨_, _, _, _, rfl⟩
  rw [hR] at HS
  obtain ⟨da, dn, dc, hD⟩ := dV_form h vs x
  have HF : Hid (∀ w2, Below (w.alloc (.cells #[.int .i64 x.f, .int .i64 x.t] 38)).drew.heap.size (w.alloc (.cells #[.int .i64 x.f, .int .i64 x.t] 38)).drew w2 → w2.cell? ⟨w.heap.size, 0, none⟩ = some (.int .i64 x.f) ∧ w2.cell? ⟨w.heap.size, 1, none⟩ = some (.int .i64 x.t) ∧ (Instr.lookup 85 (.map rm) (.agg #[.int .i64 x.f, .int .i64 x.t]) true).run Tryz.prog w2 = .ok (.tuple #[.slice da dn dc, .bool (lookV ss vs x).isSome]) w2 ∧ Below w.heap.size w w2) := fun w2 hb => by
    have hB2 : Below w.heap.size w w2 := hB1.trans (hb.mono hB1.size)
    have := look_sh (h.later hB2) vs x hx hR
    rw [hD] at this
    exact ⟨cell_later hb (by simp), cell_later hb (by simp), this, hB2⟩
  obtain ⟨d0, d1, -, -⟩ := HF.out _ (Below.refl _ _)
  rw [hD]
  generalize (lookV ss vs x).isSome = bb at *
  clear hl hg h hR hD hB0 hB1
  unfold vv
  go_enter Tryz.func36, Tryz.ntmps36
  go_wp2_with fail
  go_region_held3 (fun W => W.cell? ⟨w.heap.size, 0, none⟩ = some (.int .i64 x.f) ∧ W.cell? ⟨w.heap.size, 1, none⟩ = some (.int .i64 x.t))
    (first | exact ⟨d0, d1⟩ | exact ⟨d0', d1'⟩ | go_keep)
    ((go_at_call 51; refine HS.out.mono ?_; rintro e w2 ⟨rfl, hb⟩; obtain ⟨d0', d1', hL, hB2⟩ := HF.out _ hb; have HB2 := hidMk hB2; clear hb hB2))
  all_goals
    go_wp2_with fail
    go_ret2
    exact ⟨rfl, HB2.out⟩
end Go.Proofs.YtobhccmnlmlapaaGreatDoor
namespace Go.Proofs.YtobhccmnlmlapaaGreatDoor
open Go.RowKit Go.Maps
attribute [local go_sem] fld0 fld1
set_option linter.unusedVariables false
set_option linter.unusedSimpArgs false
set_option maxRecDepth 100000

theorem look_for {w : World} {B t mp : Nat} {lo hi nc nw : Int} {ss : List Sh} (h : PQ w B t mp lo hi nc nw ss) (vs : List V) (hg : GoodK vs) (hk : vk vs = true) :
    (Instr.lookup 80 (.map (some mp)) (.string (nameOf vs)) true).run Tryz.prog w = .ok (.tuple #[shV (shOf ss vs), .bool (shOf ss vs).isSome]) w := by
  have hL := h.mpo.look K9 Tryz.underlying80 (zShelf w) (nameOf vs) (name_size vs hk hg)
  rw [fnd_entS hk (fun s hs => (h.sho s hs).val)] at hL
  cases hs : shOf ss vs with
  | none => rw [hs] at hL; exact hL
  | some s => rw [hs] at hL; exact hL
abbrev zSh : Obj := .cells #[.slice none 0 0, .map none] 87
theorem below_four {w w1 : World} (h : Below w.heap.size w w1) (k : Nat) (hk : w.heap.size ≤ k) (x y z u : Value) : Below w.heap.size w ((((w1.setCell ⟨k, 0, none⟩ x).setCell ⟨k, 1, none⟩ y).setCell ⟨w.heap.size, 0, none⟩ z).setCell ⟨w.heap.size, 1, none⟩ u) :=
  below_two ((h.grown (grown_set _ _ _) h.size (fun j e => by cases e; exact hk)).grown (grown_set _ _ _) (by simp; exact h.size) (fun j e => by cases e; exact hk)) z u
theorem own_four {w1 : World} {g T : Nat} {p q : Value} (h : Own w1 g T 2 [p, q]) (k : Nat) (hk : k ≠ g) (x y z u : Value) : Own ((((w1.setCell ⟨k, 0, none⟩ x).setCell ⟨k, 1, none⟩ y).setCell ⟨g, 0, none⟩ z).setCell ⟨g, 1, none⟩ u) g T 2 [z, u] := by
  have h1 := (h.grown (grown_set w1 ⟨k, 0, none⟩ x) (by simp; exact fun e => hk e.symm)).grown (grown_set _ ⟨k, 1, none⟩ y) (by simp; exact fun e => hk e.symm)
  exact ((h1.put 0 z).1.put 1 u).1
set_option maxHeartbeats 1000000 in
theorem shelfFor_old (vs : List V) (a : Option Addr) (c : Nat) (w : World) (B t mp : Nat) (lo hi : Int) {nc nw : Int} (ss : List Sh) (s : Sh) (h : PQ w B t mp lo hi nc nw ss) (hl : VLies w a vs) (hg : GoodK vs) (hk : vk vs = true) (hs : shOf ss vs = some s) :
    Calls Tryz.prog 38 #[.pointer (some ⟨t, 0, none⟩), .slice a vs.length c] w fun e w' => e = .returned (.agg #[s.kv, .map (some s.mb)]) ∧ Below w.heap.size w w' := by
  obtain ⟨ra, rc, hkv, -⟩ := (h.sho s (shOf_some hs).1).key.form
  generalize s.key.length = rn at hkv
  have HF : Hid (∀ W, Below w.heap.size w W → W.cell? ⟨t, 2, none⟩ = some (.map (some mp)) ∧ (Instr.lookup 80 (.map (some mp)) (.string (nameOf vs)) true).run Tryz.prog W = .ok (.tuple #[.agg #[.slice ra rn rc, .map (some s.mb)], .bool true]) W) := fun W hb => by
    have := look_for (h.later hb) vs hg hk
    rw [hs] at this
    simp only [shV, hkv] at this
    exact ⟨(h.later hb).cells.2.2.1, this⟩
  have HN : Hid (∀ W, Below w.heap.size w W → Calls Tryz.prog 52 #[.slice a vs.length c] W fun e w' => e = .returned (.string (nameOf vs)) ∧ Below W.heap.size W w') := fun W hb => name_any vs a c W (hl.later hb) hg hk
  have HB1 := hidMk (below_drewN (bel1 w zSh) 1)
  have c2 := (HF.out _ HB1.out).1
  have c2a := (HF.out _ (HB1.out.alloc HB1.out.size zSh)).1
  have c2w := (HF.out _ (Below.refl _ _)).1
  have htl : t < w.heap.size := (h.lt (.inl (.inl rfl))).2
  have hne : t ≠ w.heap.size := by omega
  have hne2 : t ≠ w.heap.size + 1 := by omega
  have HO := hidMk (show Own (w.alloc zSh).drew w.heap.size 87 2 [.slice none 0 0, .map none] from Own.new w 87 2 #[.slice none 0 0, .map none] rfl)
  rw [hkv]
  clear hl hg hk h hs hkv
  go_enter Tryz.func38, Tryz.ntmps38
  go_wp2_with fail
  go_region_with (first | (go_at_call 52; refine (HN.out _ (by first | exact HB1.out | exact HB1.out.alloc HB1.out.size _)).mono ?_; rintro e w2 ⟨rfl, hb⟩; have hB2 : Below w.heap.size w w2 := (by first | exact HB1.out.trans (hb.mono HB1.out.size) | exact (HB1.out.alloc HB1.out.size _).trans (hb.mono (HB1.out.alloc HB1.out.size _).size)); obtain ⟨c2q, hL⟩ := HF.out _ hB2; have hL3 := (HF.out _ (hB2.alloc hB2.size zSh)).2; have c2r := (HF.out _ (hB2.alloc hB2.size zSh)).1; have HB2 := hidMk hB2; try (have hO := (Own.new (w.alloc zSh).drew 87 2 #[.slice none 0 0, .map none] rfl).later hb; rw [show (w.alloc zSh).drew.heap.size = w.heap.size + 1 by simp] at hO; obtain ⟨e0, e1, f0, f1⟩ := Own.two hO)))
  all_goals
    have hOw := HO.out.later (w' := w2) (by first | exact hb | exact ((Below.refl _ _).alloc (Nat.le_refl _) _).trans (hb.mono (by simp)))
    obtain ⟨r0, r1, q0, q1⟩ := hOw.two
    have hlw : w.heap.size < w2.heap.size := (by have := hb.size; simp at this; omega)
    have hnw : w.heap.size ≠ w2.heap.size := by omega
    have g1 : ∀ o, (w2.alloc o).cell? ⟨w.heap.size, 0, none⟩ = some (.slice none 0 0) := fun o => cell_later (bel1 w2 o) r0
    have g2 : ∀ o, (w2.alloc o).cell? ⟨w.heap.size, 1, none⟩ = some (.map none) := fun o => cell_later (bel1 w2 o) r1
    have g3 : ∀ o, (w2.alloc o).frozen? ⟨w.heap.size, 0, none⟩ = false := fun o => by rw [← q0]; exact World.frozen?_alloc_old _ _ _ (Nat.ne_of_lt hlw)
    have g4 : ∀ o, (w2.alloc o).frozen? ⟨w.heap.size, 1, none⟩ = false := fun o => by rw [← q1]; exact World.frozen?_alloc_old _ _ _ (Nat.ne_of_lt hlw)
    have HA := hidMk (((hOw.put 0 (.slice ra rn rc)).1.put 1 (.map (some s.mb))).1.later (bel1 _ (.cells #[.slice ra rn rc, .map (some s.mb)] 87)))
    have HA2 := hidMk ((below_two HB2.out (.slice ra rn rc) (.map (some s.mb))).alloc (by simp; omega) (.cells #[.slice ra rn rc, .map (some s.mb)] 87))
    have HD := hidMk (own_four hOw (w.heap.size + 1) (by omega) (.slice ra rn rc) (.map (some s.mb)) (.slice ra rn rc) (.map (some s.mb)))
    have HD2 := hidMk (below_four HB2.out (w.heap.size + 1) (by omega) (.slice ra rn rc) (.map (some s.mb)) (.slice ra rn rc) (.map (some s.mb)))
    clear HF HN HO HB1 c2 c2a c2w c2q c2r hL hL3 hb hB2 hOw
    go_wp2_with fail
    first
    | exact bodyPost_ret (v := .agg #[.slice ra rn rc, .map (some s.mb)]) (by have g0 := HA.out.two.1; have g1 := HA.out.two.2.1; simp [results, Tryz.results38, go_sem] at g0 g1 ⊢; simp [g0, g1]) rfl ⟨rfl, HA2.out⟩
    | exact bodyPost_ret (v := .agg #[.slice ra rn rc, .map (some s.mb)]) (by have g0 := HD.out.two.1; have g1 := HD.out.two.2.1; simp [results, Tryz.results38, go_sem] at g0 g1 ⊢; simp [g0, g1]) rfl ⟨rfl, HD2.out⟩
end Go.Proofs.YtobhccmnlmlapaaGreatDoor
