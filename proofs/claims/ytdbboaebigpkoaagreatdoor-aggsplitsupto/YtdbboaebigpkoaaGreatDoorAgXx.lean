import Derived.Test.YtdbboaebigpkoaaGreatDoorAgV
import Derived.Test.YtdbboaebigpkoaaGreatDoorRdF
import Derived.Deep.LoopGhost
import Derived.Deep.RegionLaw
import Derived.Deep.AppendLies
import Derived.Test.YtdbboaebigpkoaaGreatDoorVaR
namespace Go.Proofs.YtdbboaebigpkoaaGreatDoor
open Go.RowKit
set_option linter.unusedVariables false
set_option linter.unusedSimpArgs false
set_option maxRecDepth 100000

/-- A part as a row. -/
def tw (v : V) : Wr.V := ⟨v.k, v.n, v.s⟩
def rowOf (p : Tm) : Wr.Rw := ⟨0, [⟨1, p.t, ⟨#[]⟩⟩, tw p.v]⟩
def InN (x : Int) : Prop := -9223372036854775808 ≤ x ∧ x ≤ 9223372036854775807
/-- What can be written. -/
def FineP (p : Tm) : Prop := InN p.t ∧ InN p.v.n ∧ p.v.s.size ≤ 60 ∧ validV p.v = true
theorem one_cellsR (q : Wr.Q) : ∀ u ∈ Wr.cellsR q, u.oneCell' = true := by intro u hu; simp [Wr.cellsR] at hu; rcases hu with rfl | rfl <;> rfl
theorem infoR : (Tryz.prog.info? 74).map (fun i => (i.zero, i.size, i.bytes)) = some (some (.agg #[.int .i64 0, .slice none 0 0]), 2, 32) := by kernel_rfl

theorem Wr.OL.base {w : World} {B B' : Nat} {x : Value} {l : List UInt8} (h : Wr.OL w B x l) (hb : B' ≤ B) : Wr.OL w B' x l := by
  refine ⟨h.1, ?_⟩
  rcases h.2 with h2 | ⟨g, cap, cur, h1, h2, h3⟩
  · exact .inl h2
  · exact .inr ⟨g, cap, cur, h1, Nat.le_trans hb h2, h3⟩
set_option maxHeartbeats 4000000 in
theorem written_any (ps : List Tm) (a : Option Addr) (c : Nat) (w : World) (hl : TLies w a ps) (hf : ∀ p ∈ ps, FineP p) (hm : ps.length ≤ 1048577) (hlen : (Wr.encRows (ps.map rowOf)).length ≤ 549755813888) :
    Calls Tryz.prog 15 #[.slice a ps.length c] w fun e w' => ∃ y, e = .returned y ∧ Wr.OL w' w.heap.size y (Wr.encRows (ps.map rowOf)) ∧ Below w.heap.size w w' := by
  obtain ⟨i0, hi0, hz0, hz1, hz2⟩ := info_parts infoR
  have HL := hidMk hl
  have HF := hidMk hf
  clear hl hf
  go_enter Tryz.func15, Tryz.ntmps15
  go_wp2_with fail
  go_loopg [3, 8] ps.length (fun gk x i wr => ∃ (k : Nat) (qs : List Wr.Q), gk + k = ps.length ∧ i = .int .i64 k ∧ Wr.OR wr w.heap.size x qs ∧ qs.map (·.r) = (ps.take k).map rowOf ∧ Below w.heap.size w wr)
  case atStart => exact ⟨0, [], by omega, rfl, Wr.OR.nil _ _, rfl, Below.refl _ _⟩
  case round =>
    obtain ⟨k, qs, hgk, rfl, hO, hqs, hb⟩ := hrel
    have hql : qs.length = k := by have := congrArg List.length hqs; rw [List.length_map, List.length_map, List.length_take] at this; omega
    obtain ⟨ax, cx, rfl, hRL⟩ := hO.form
    have HO := hidMk hO
    have HQS := hidMk hqs
    have HB := hidMk hb
    have HRL := hidMk hRL
    have hsz := hb.size
    have HQL := hidMk hql
    clear hO hqs hb hRL hql
    by_cases hlt : k < ps.length
    · obtain ⟨b, off, rfl, e0, e1, e2, e3⟩ := HL.out k hlt
      replace e0 := cell_later HB.out e0
      replace e1 := cell_later HB.out e1
      replace e2 := cell_later HB.out e2
      replace e3 := cell_later HB.out e3
      have hki : (k : Int) < (ps.length : Int) := by omega
      have HTK : Hid ((ps.take (k + 1)).map rowOf = (ps.take k).map rowOf ++ [rowOf ps[k]]) := by rw [Hid, List.take_succ_eq_append_getElem hlt, List.map_append]; rfl
      generalize ps[k] = o at *
      have hB4 : Below wr.heap.size wr ((((wr.alloc (.cells #[.int .i64 o.t, .int .i64 o.v.k, .int .i64 o.v.n, .string o.v.s] 46)).alloc (.cells #[.int .i64 1, .int .i64 o.t, .string ⟨#[]⟩] 25)).alloc (.cells #[.int .i64 1, .int .i64 o.t, .string ⟨#[]⟩, .int .i64 o.v.k, .int .i64 o.v.n, .string o.v.s] 25)).alloc (.cells #[.int .i64 0, .slice (some ⟨wr.heap.size + 2, 0, none⟩) 2 2] 74)).drew := (((((Below.refl _ wr).alloc (Nat.le_refl _) _).alloc (by simp) _).alloc (by simp; omega) _).alloc (by simp; omega) _).drew
      have HB4 := hidMk hB4
      have HOWN : Hid (((((wr.alloc (.cells #[.int .i64 o.t, .int .i64 o.v.k, .int .i64 o.v.n, .string o.v.s] 46)).alloc (.cells #[.int .i64 1, .int .i64 o.t, .string ⟨#[]⟩] 25)).alloc (.cells #[.int .i64 1, .int .i64 o.t, .string ⟨#[]⟩, .int .i64 o.v.k, .int .i64 o.v.n, .string o.v.s] 25)).alloc (.cells #[.int .i64 0, .slice (some ⟨wr.heap.size + 2, 0, none⟩) 2 2] 74)).drew.ownsRow w.heap.size 74 2 (.slice ax qs.length cx) qs.length (qs.flatMap Wr.cellsR)) := (HO.out.later hB4).own
      have HNEWS : Hid (∀ j u, (Wr.cellsR ⟨rowOf o, some ⟨wr.heap.size + 2, 0, none⟩, 2⟩)[j]? = some u → ((((wr.alloc (.cells #[.int .i64 o.t, .int .i64 o.v.k, .int .i64 o.v.n, .string o.v.s] 46)).alloc (.cells #[.int .i64 1, .int .i64 o.t, .string ⟨#[]⟩] 25)).alloc (.cells #[.int .i64 1, .int .i64 o.t, .string ⟨#[]⟩, .int .i64 o.v.k, .int .i64 o.v.n, .string o.v.s] 25)).alloc (.cells #[.int .i64 0, .slice (some ⟨wr.heap.size + 2, 0, none⟩) 2 2] 74)).drew.cell? ((⟨wr.heap.size + 3, 0, none⟩ : Addr).add j) = some u) := by
        have h := World.news_of_block (cs := #[.int .i64 0, .slice (some ⟨wr.heap.size + 2, 0, none⟩) 2 2]) (t := 74) (fr := (0, 0)) (heap_alloc_new (((wr.alloc (.cells #[.int .i64 o.t, .int .i64 o.v.k, .int .i64 o.v.n, .string o.v.s] 46)).alloc (.cells #[.int .i64 1, .int .i64 o.t, .string ⟨#[]⟩] 25)).alloc (.cells #[.int .i64 1, .int .i64 o.t, .string ⟨#[]⟩, .int .i64 o.v.k, .int .i64 o.v.n, .string o.v.s] 25)) _)
        rw [show (((wr.alloc (.cells #[.int .i64 o.t, .int .i64 o.v.k, .int .i64 o.v.n, .string o.v.s] 46)).alloc (.cells #[.int .i64 1, .int .i64 o.t, .string ⟨#[]⟩] 25)).alloc (.cells #[.int .i64 1, .int .i64 o.t, .string ⟨#[]⟩, .int .i64 o.v.k, .int .i64 o.v.n, .string o.v.s] 25)).heap.size = wr.heap.size + 3 from by simp] at h
        exact h
      have HVL : Hid (Wr.VLies ((((wr.alloc (.cells #[.int .i64 o.t, .int .i64 o.v.k, .int .i64 o.v.n, .string o.v.s] 46)).alloc (.cells #[.int .i64 1, .int .i64 o.t, .string ⟨#[]⟩] 25)).alloc (.cells #[.int .i64 1, .int .i64 o.t, .string ⟨#[]⟩, .int .i64 o.v.k, .int .i64 o.v.n, .string o.v.s] 25)).alloc (.cells #[.int .i64 0, .slice (some ⟨wr.heap.size + 2, 0, none⟩) 2 2] 74)).drew (some ⟨wr.heap.size + 2, 0, none⟩) (rowOf o).vs) := by
        intro i hi
        match i, hi with
        | 0, _ => exact ⟨wr.heap.size + 2, 0, rfl, by go_simp; rfl, by go_simp; rfl, by go_simp; rfl⟩
        | 1, _ => exact ⟨wr.heap.size + 2, 0, rfl, by go_simp; rfl, by go_simp; rfl, by go_simp; rfl⟩
      clear hB4
      go_wp2_with fail
      go_region_law (first
        | (refine step_append_lies _ (by rfl) _ _ _ (by rfl) w.heap.size 74 i0 _ 2 32 Tryz.underlying69 hi0 hz0 hz1 hz2 rfl (by omega) (.slice ax qs.length cx) qs.length (qs.flatMap Wr.cellsR) (by rfl) HOWN.out ⟨wr.heap.size + 3, 0, none⟩ 1 1 (Wr.cellsR ⟨rowOf o, some ⟨wr.heap.size + 2, 0, none⟩, 2⟩) (by rfl) (by rfl) HNEWS.out (one_cellsR _) (by omega) (by unfold maxLen; have := HQL.out; omega) (by have := HQL.out; omega) (by simp; omega) (wr.heap.size + 4) (by simp) ?_; intro gg cap w4 hown4 hgrow hat hlt4)
        | (go_simp; go_at_call 25; refine (of_at _ _).mono ?_; rintro e w3 ⟨rfl, rfl⟩))
      all_goals
        have hs4 : ((((wr.alloc (.cells #[.int .i64 o.t, .int .i64 o.v.k, .int .i64 o.v.n, .string o.v.s] 46)).alloc (.cells #[.int .i64 1, .int .i64 o.t, .string ⟨#[]⟩] 25)).alloc (.cells #[.int .i64 1, .int .i64 o.t, .string ⟨#[]⟩, .int .i64 o.v.k, .int .i64 o.v.n, .string o.v.s] 25)).alloc (.cells #[.int .i64 0, .slice (some ⟨wr.heap.size + 2, 0, none⟩) 2 2] 74)).drew.heap.size = wr.heap.size + 4 := by simp
        have hne : ∀ kk, Value.ownBlock (.slice ax qs.length cx) = some kk → w.heap.size ≤ kk := fun kk hkk => (World.ownsRow.lt HO.out.own kk hkk).1
        have HOR4 : Hid (Wr.OR w4 w.heap.size (.slice (some ⟨gg, 0, none⟩) (qs.length + 1) cap) (qs ++ [⟨rowOf o, some ⟨wr.heap.size + 2, 0, none⟩, 2⟩])) := by
          refine Wr.OR.more (w0 := wr) (w := ((((wr.alloc (.cells #[.int .i64 o.t, .int .i64 o.v.k, .int .i64 o.v.n, .string o.v.s] 46)).alloc (.cells #[.int .i64 1, .int .i64 o.t, .string ⟨#[]⟩] 25)).alloc (.cells #[.int .i64 1, .int .i64 o.t, .string ⟨#[]⟩, .int .i64 o.v.k, .int .i64 o.v.n, .string o.v.s] 25)).alloc (.cells #[.int .i64 0, .slice (some ⟨wr.heap.size + 2, 0, none⟩) 2 2] 74)).drew) (q := ⟨rowOf o, some ⟨wr.heap.size + 2, 0, none⟩, 2⟩) HO.out (HO.out.later HB4.out) hown4 hgrow ?_ hsz HVL.out (fun y hy => by cases hy; rw [hs4]; simp)
          rcases hat with h | h
          · exact .inl h.symm
          · right; rw [hs4, h]; rfl
        have HB5 : Hid (Below w.heap.size w w4) := (HB.out.trans (HB4.out.mono hsz)).grown hgrow (by rw [hs4]; omega) (fun j ej => hne j ej)
        clear hown4 hgrow hat HOWN HNEWS HVL HB4 HO HRL HB hne hs4 e0 e1 e2 e3
        have HQ5 : Hid ((qs ++ [(⟨rowOf o, some ⟨wr.heap.size + 2, 0, none⟩, 2⟩ : Wr.Q)]).map (·.r) = (ps.take (k + 1)).map rowOf) := by rw [Hid, List.map_append, HQS.out, HTK.out]; rfl
        go_wp2
        go_roundg (gk - 1)
        case measure => omega
        case rel => exact ⟨k + 1, _, by omega, by go_num, HOR4.out, HQ5.out, HB5.out⟩
    · obtain rfl : k = ps.length := by omega
      rw [List.take_of_length_le (Nat.le_refl _)] at HQS
      have HPR : Hid (∀ W, Below wr.heap.size wr W → (Wr.encRows (ps.map rowOf)).length ≤ 549755813888 → Calls Tryz.prog 26 #[.slice none 0 0, .slice ax qs.length cx] W fun e w' => ∃ v', e = .returned v' ∧ Wr.OL w' wr.heap.size v' (Wr.encRows (ps.map rowOf)) ∧ Below wr.heap.size W w') := fun W hW hlen => by
        have h := Wr.putRows_any wr W ax cx (qs.map (·.r)) (.slice none 0 0) [] HRL.out (fun r hr => ?g1) (by rw [List.length_map, HQL.out]; omega) hW (World.ownsRow_nil _ _ _ _) (by rw [HQS.out]; simpa using hlen)
        case g1 =>
          rw [HQS.out] at hr
          obtain ⟨p, hp, rfl⟩ := List.mem_map.1 hr
          have h1 := HF.out p hp
          refine ⟨by simp [rowOf], by simp [rowOf], by simp [rowOf], fun v hv => ?_⟩
          simp [rowOf] at hv
          rcases hv with rfl | rfl
          · exact ⟨h1.1.1, h1.1.2, by show (0 : Nat) ≤ _; omega⟩
          · exact ⟨h1.2.1.1, h1.2.1.2, by have := h1.2.2.1; simp [tw]; omega⟩
        rw [HQS.out, List.nil_append, List.length_map] at h
        rw [HQL.out]
        exact h
      have hlen : (Wr.encRows (ps.map rowOf)).length ≤ 549755813888 := hlen
      go_wp2_with fail
      refine (HPR.out _ (Below.refl _ _) hlen).mono ?_
      rintro e w5 ⟨y, rfl, hy, hb5⟩
      have HY := hidMk hy
      have HB5 : Hid (Below w.heap.size w w5) := HB.out.trans (hb5.mono hsz)
      clear hy hb5
      go_wp2
      go_ret
      exact ⟨y, rfl, HY.out.base hsz, HB5.out⟩
end Go.Proofs.YtdbboaebigpkoaaGreatDoor
namespace Go.Proofs.YtdbboaebigpkoaaGreatDoor
open Go.RowKit
set_option linter.unusedVariables false
set_option linter.unusedSimpArgs false
set_option maxRecDepth 100000

/-- Bytes of one's own show themselves. -/
theorem shows_ol {w : World} {B : Nat} {y : Value} {L : List UInt8} (h : Wr.OL w B y L) (h0 : L ≠ []) (hl : L.length ≤ 549755813888) : ∃ a c, y = .slice a L.length c ∧ Wr.Shows w a c L w.heap.size := by
  rcases h.2 with ⟨h1, h2⟩ | ⟨g, c, cur, h1, h2, h3, h4, h5, h6⟩
  · exact absurd (List.eq_nil_of_length_eq_zero h2) h0
  · refine ⟨some ⟨g, 0, none⟩, c, h1, ?_, h4, by have := h5; unfold maxLen at this; omega, fun x hx => ?_, ⟨g, 0, rfl⟩, by omega⟩
    · intro i hi
      refine ⟨g, 0, rfl, ?_⟩
      have ho := h
      unfold Wr.OL at ho
      rw [h1] at ho
      have := World.ownsRow.cellAt ho i (by omega)
      rw [Nat.zero_add, this, List.getElem?_map, List.getElem?_eq_getElem hi]
      simp [Wr.lat, Wr.u8v, hi]
    · cases hx
      rcases Nat.lt_or_ge g w.heap.size with h | h
      · exact h
      · rw [Array.getElem?_eq_none h] at h3; cases h3
theorem encRows_ne (rs : List Wr.Rw) : Wr.encRows rs ≠ [] := fun e => by
  have := congrArg List.length e
  unfold Wr.encRows at this
  rw [List.length_append, List.length_nil] at this
  have h2 := Wr.encInt_pos (rs.length : Int)
  omega
theorem validV_tw (v : V) : Wr.validV (tw v) = validV v := by
  have h : validV v = validW v := validB_V v
  rw [h]
  rfl
theorem fine_row (p : Tm) (h : FineP p) : Wr.Fine (rowOf p) := by
  refine ⟨?_, ?_⟩
  · have hv : Wr.validV (tw p.v) = true := (validV_tw p.v).trans h.2.2.2
    have h1 : Wr.validV ⟨1, p.t, ⟨#[]⟩⟩ = true := rfl
    simp [Wr.validR, rowOf, hv, h1]
  · refine ⟨by simp [rowOf], by simp [rowOf], by simp [rowOf], fun v hv => ?_⟩
    simp [rowOf] at hv
    rcases hv with rfl | rfl
    · exact ⟨h.1.1, h.1.2, by show (0 : Nat) ≤ _; omega⟩
    · exact ⟨h.2.1.1, h.2.1.2, by have := h.2.2.1; simp [tw]; omega⟩
set_option maxHeartbeats 4000000 in
theorem read_any (ps : List Tm) (y : Value) (B : Nat) (w : World) (hy : Wr.OL w B y (Wr.encRows (ps.map rowOf))) (hf : ∀ p ∈ ps, FineP p) (hm : ps.length ≤ 1048577) (hlen : (Wr.encRows (ps.map rowOf)).length ≤ 549755813888) :
    Calls Tryz.prog 14 #[y] w fun e w' => ∃ z, e = .returned (.tuple #[z, .nilIface]) ∧ OT w' w.heap.size z ps ∧ Below w.heap.size w w' := by
  obtain ⟨i0, hi0, hz0, hz1, hz2⟩ := info_parts infoT
  obtain ⟨a, c, rfl, hS⟩ := shows_ol hy (encRows_ne _) hlen
  have HW : Hid (Calls Tryz.prog 24 #[.slice a (Wr.encRows (ps.map rowOf)).length c] w fun e w' => ∃ a' c', e = .returned (.tuple #[.slice a' ps.length c', .nilIface]) ∧ Below w.heap.size w w' ∧ Wr.RLies w' a' (ps.map rowOf)) := by
    refine (Wr.wireRows_any a c _ w hS hlen).mono fun e w' ⟨a', n, c', E, e1, e2, e3⟩ => ?_
    rcases e3 with ⟨rfl, rs, h1, h2, h3, h4⟩ | ⟨-, -, -, -, h5⟩
    · obtain ⟨h6, -⟩ := Wr.encRows_pf (r := []) (s := []) (fun x hx => by obtain ⟨p, hp, rfl⟩ := List.mem_map.1 hx; exact Wr.formR_of_valid (fine_row p (hf p hp)).1) (fun y hy => Wr.formR_of_valid (h2 y hy).1) (by rw [List.append_nil, List.append_nil]; exact h3)
      rw [← h6] at h1 h4
      rw [List.length_map] at h1
      subst h1
      exact ⟨a', c', e1, e2, h4⟩
    · exact absurd rfl (h5 (ps.map rowOf) (fun r hr => by obtain ⟨p, hp, rfl⟩ := List.mem_map.1 hr; exact fine_row p (hf p hp)) ⟨by omega, by rw [List.length_map]; omega⟩)
  clear hS hy hf
  go_enter Tryz.func14, Tryz.ntmps14
  go_wp2_with fail
  refine HW.out.mono ?_
  rintro e w1 ⟨a', c', rfl, hb1, hR⟩
  have HB1 := hidMk hb1
  have HR := hidMk hR
  have hs1 := hb1.size
  clear hb1 hR HW
  go_wp2_with fail
  go_loopg [6, 19] ps.length (fun gk x i wr => ∃ k : Nat, gk + k = ps.length ∧ i = .int .i64 k ∧ OT wr w1.heap.size x (ps.take k) ∧ Below w1.heap.size w1 wr)
  case atStart => exact ⟨0, by omega, rfl, World.ownsRow_nil _ _ _ _, Below.refl _ _⟩
  case round =>
    obtain ⟨k, hgk, rfl, hO, hb⟩ := hrel
    obtain ⟨ax, cx, rfl, hT⟩ := hO.form
    have hsl : (ps.take k).length = min k ps.length := List.length_take
    have HO := hidMk hO
    have HB := hidMk hb
    have hsz := hb.size
    clear hO hb hT
    by_cases hlt : k < ps.length
    · obtain ⟨b, off, av, cv, e, e0, e1, e2⟩ := HR.out k (by rw [List.length_map]; exact hlt)
      subst e
      have hki : (k : Int) < (ps.length : Int) := by omega
      rw [List.getElem_map] at e0 e1 e2
      have HTK : Hid (ps.take (k + 1) = ps.take k ++ [ps[k]]) := List.take_succ_eq_append_getElem hlt
      generalize ps[k] = o at *
      have e1' : w1.cell? ⟨b, off + k * 2 + 1, none⟩ = some (.slice av 2 cv) := e1
      have e0' : w1.cell? ⟨b, off + k * 2, none⟩ = some (.int .i64 0) := e0
      obtain ⟨b2, o2, e', f0, f1, f2⟩ := e2 0 (by simp [rowOf])
      obtain ⟨b3, o3, e'', g0, g1, g2⟩ := e2 1 (by simp [rowOf])
      subst e'
      cases e''
      have f1' : w1.cell? ⟨b2, o2 + 1, none⟩ = some (.int .i64 o.t) := by simpa [rowOf] using f1
      have f0' : w1.cell? ⟨b2, o2, none⟩ = some (.int .i64 1) := by simpa [rowOf] using f0
      have f2' : w1.cell? ⟨b2, o2 + 2, none⟩ = some (.string ⟨#[]⟩) := by simpa [rowOf] using f2
      have g0' : w1.cell? ⟨b2, o2 + 3, none⟩ = some (.int .i64 o.v.k) := by simpa [rowOf, tw] using g0
      have g1' : w1.cell? ⟨b2, o2 + 4, none⟩ = some (.int .i64 o.v.n) := by simpa [rowOf, tw, Nat.add_assoc] using g1
      have g2' : w1.cell? ⟨b2, o2 + 5, none⟩ = some (.string o.v.s) := by simpa [rowOf, tw, Nat.add_assoc] using g2
      replace e0' := cell_later HB.out e0'
      replace e1' := cell_later HB.out e1'
      replace f0' := cell_later HB.out f0'
      replace f1' := cell_later HB.out f1'
      replace f2' := cell_later HB.out f2'
      replace g0' := cell_later HB.out g0'
      replace g1' := cell_later HB.out g1'
      replace g2' := cell_later HB.out g2'
      have hb2l : b2 < wr.heap.size := World.block_lt_of_cell? _ _ f1'
      clear e0 e1 e2 f0 f1 f2 g0 g1 g2
      have htk : (ps.take k).length ≤ 1048577 := by omega
      generalize ps.take k = s at *
      have HSL := hidMk hsl
      clear hsl
      have hB4 : Below wr.heap.size wr ((wr.alloc (.cells #[.int .i64 0, .slice (some ⟨b2, o2, none⟩) 2 cv] 74)).alloc (.cells #[.int .i64 o.t, .int .i64 o.v.k, .int .i64 o.v.n, .string o.v.s] 46)).drew := (((Below.refl _ wr).alloc (Nat.le_refl _) _).alloc (by simp) _).drew
      have HB4 := hidMk hB4
      have HOWN : Hid (((wr.alloc (.cells #[.int .i64 0, .slice (some ⟨b2, o2, none⟩) 2 cv] 74)).alloc (.cells #[.int .i64 o.t, .int .i64 o.v.k, .int .i64 o.v.n, .string o.v.s] 46)).drew.ownsRow w1.heap.size 46 4 (.slice ax s.length cx) s.length (s.flatMap cellsT)) := HO.out.later hB4
      have HNEWS : Hid (∀ j u, (cellsT o)[j]? = some u → ((wr.alloc (.cells #[.int .i64 0, .slice (some ⟨b2, o2, none⟩) 2 cv] 74)).alloc (.cells #[.int .i64 o.t, .int .i64 o.v.k, .int .i64 o.v.n, .string o.v.s] 46)).drew.cell? ((⟨wr.heap.size + 1, 0, none⟩ : Addr).add j) = some u) := by
        have h := World.news_of_block (cs := #[.int .i64 o.t, .int .i64 o.v.k, .int .i64 o.v.n, .string o.v.s]) (t := 46) (fr := (0, 0)) (heap_alloc_new (wr.alloc (.cells #[.int .i64 0, .slice (some ⟨b2, o2, none⟩) 2 cv] 74)) _)
        rw [show (wr.alloc (.cells #[.int .i64 0, .slice (some ⟨b2, o2, none⟩) 2 cv] 74)).heap.size = wr.heap.size + 1 from by simp] at h
        exact h
      clear hB4
      go_wp2_with fail
      go_region_law (first
        | (refine step_append_lies _ (by rfl) _ _ _ (by rfl) w1.heap.size 46 i0 _ 4 40 Tryz.underlying22 hi0 hz0 hz1 hz2 rfl (by omega) (.slice ax s.length cx) s.length (s.flatMap cellsT) (by rfl) HOWN.out ⟨wr.heap.size + 1, 0, none⟩ 1 1 (cellsT o) (by rfl) (by rfl) HNEWS.out (one_cellsT _) (by omega) (by unfold maxLen; omega) (by omega) (by simp; omega) (wr.heap.size + 2) (by simp) ?_; intro gg cap w4 hown4 hgrow hat hlt4))
      all_goals
        have hs4 : ((wr.alloc (.cells #[.int .i64 0, .slice (some ⟨b2, o2, none⟩) 2 cv] 74)).alloc (.cells #[.int .i64 o.t, .int .i64 o.v.k, .int .i64 o.v.n, .string o.v.s] 46)).drew.heap.size = wr.heap.size + 2 := by simp
        have hne : ∀ kk, Value.ownBlock (.slice ax s.length cx) = some kk → w1.heap.size ≤ kk := fun kk hkk => (World.ownsRow.lt HO.out kk hkk).1
        have HO4 : Hid (OT w4 w1.heap.size (.slice (some ⟨gg, 0, none⟩) (s.length + 1) cap) (s ++ [o])) := OT.more hown4
        have HB5 : Hid (Below w1.heap.size w1 w4) := (HB.out.trans (HB4.out.mono hsz)).grown hgrow (by rw [hs4]; omega) (fun j ej => hne j ej)
        clear hown4 hgrow hat HOWN HNEWS HB4 HO HB hne hs4 e0' e1' f0' f1' f2' g0' g1' g2'
        go_wp2
        go_roundg (gk - 1)
        case measure => omega
        case rel => exact ⟨k + 1, by omega, by go_num, by rw [HTK.out]; exact HO4.out, HB5.out⟩
    · obtain rfl : k = ps.length := by omega
      have htk : ps.take ps.length = ps := List.take_of_length_le (Nat.le_refl _)
      rw [htk] at HO
      rw [htk]
      have HO2 : Hid (OT wr w.heap.size (.slice ax ps.length cx) ps) := by
        refine ⟨HO.out.1, ?_⟩
        rcases HO.out.2 with h2 | ⟨g, cap, cur, h1, h2, h3⟩
        · exact .inl h2
        · exact .inr ⟨g, cap, cur, h1, Nat.le_trans hs1 h2, h3⟩
      have HB5 : Hid (Below w.heap.size w wr) := HB1.out.trans (HB.out.mono hs1)
      clear htk hsl
      go_wp2
      go_ret2
      exact ⟨_, rfl, HO2.out, HB5.out⟩
end Go.Proofs.YtdbboaebigpkoaaGreatDoor
