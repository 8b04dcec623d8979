import Derived.Test.YtafighjlciglpaaDoorBkS
import Derived.Test.YtafighjlciglpaaDoorBkO
import Derived.Test.YtafighjlciglpaaDoorRdF
namespace Go.Proofs.YtafighjlciglpaaDoor
open Go.RowKit
set_option linter.unusedVariables false
set_option maxRecDepth 100000

theorem seal_pos (l : List UInt8) : 0 < (sealed l).length := by rw [sealed_len]; omega
theorem xor_byte (x y : Nat) (hx : x < 256) (hy : y < 256) (h0 : 0 < y) : ∃ z : UInt8, bits .xor .u8 (x : Int) (y : Int) = (z.toNat : Int) ∧ z.toNat ≠ x := by
  refine ⟨UInt8.ofNat (x ^^^ y), ?_, ?_⟩
  · rw [u8_xor_nat x y hx hy, UInt8.toNat_ofNat', Nat.mod_eq_of_lt (Nat.xor_lt_two_pow (n := 8) (by omega) (by omega))]
  · rw [UInt8.toNat_ofNat', Nat.mod_eq_of_lt (Nat.xor_lt_two_pow (n := 8) (by omega) (by omega))]
    intro h
    have : y = 0 := by
      have := congrArg (x ^^^ ·) h
      simpa [← Nat.xor_assoc] using this
    omega

theorem encRows_pos' (rs : List Rw) : 0 < (encRows rs).length := by
  unfold encRows; rw [List.length_append]; have := encInt_pos (rs.length : Int); omega
theorem fine_len' {r : Rw} (h : Fine r) : r.vs.length ≤ 8 := by have := h.1; unfold validR at this; simp at this; exact this.2.2
/-- 'append(b, more...)': the first is one's own, the other any bytes. -/
theorem wpList_append_bytes {w : World} {ops : Array Oper} {rest : List Oper} {o : Oper} {a : Act} {Q : Exit → Act → World → Prop} (hgd : o.guard = none) (s x : Operand)
    (ho : o.op = .call { callee := .builtin .append, args := #[s, x], argTypes := #[22, 22] })
    (B : Nat) (v : Value) (l : List UInt8) (hs : a.eval s = v) (hown : OL w B v l) (a3 : Option Addr) (l3 p3 : Nat) (f3 : Nat → UInt8) (hx : a.eval x = .slice a3 l3 p3) (hb : Bytes w a3 l3 f3) (hn : a3 = none → p3 = 0)
    (hlen : l.length + l3 ≤ 140737488355328) (hbase : B ≤ w.heap.size)
    (h : ∀ v' w', OL w' B v' (l ++ blist f3 l3) → w.grownBy w' v.ownBlock → wpList Tryd.prog ops Q rest (a.put o.dst v') w') : wpList Tryd.prog ops Q (o :: rest) a w := by
  obtain ⟨i0, hi0, hz0, hz1, hz2⟩ := info_parts info5
  cases a3 with
  | none =>
    have h0 : l3 = 0 := by
      rcases Nat.eq_zero_or_pos l3 with h0 | h0
      · exact h0
      · obtain ⟨b, o, e, _⟩ := hb 0 h0; cases e
    have hp := hn rfl
    subst h0 hp
    refine wpList_append_own_none hgd s x 22 ho B 5 i0 1 Tryd.underlying22 hi0 v l.length (l.map u8v) hs hown hx ?_
    exact h v w (by rw [show blist f3 0 = [] by simp [blist], List.append_nil]; exact hown) (World.grownBy.refl _ _)
  | some ad =>
    refine wpList_append_own_at _ hgd s x 22 ho B 5 i0 (.int .u8 0) 1 1 Tryd.underlying22 hi0 hz0 hz1 hz2 rfl (by decide) v l.length (l.map u8v) hs hown ad l3 p3 ((blist f3 l3).map u8v) hx (by rw [List.length_map, blist_len]; omega) ?_ ?_ (by unfold maxLen; omega) (by omega) hbase ?_
    · intro j u hj
      have hj' : j < l3 := by
        have := (List.getElem?_eq_some_iff.1 hj).1
        rw [List.length_map, blist_len] at this
        exact this
      obtain ⟨b', o', e, hc⟩ := hb j hj'
      cases e
      rw [WideShapes.add_plain, hc]
      rw [← hj]
      simp [blist, hj', u8v]
    · intro u hu; obtain ⟨z, _, rfl⟩ := List.mem_map.1 hu; rfl
    · intro v' w' h3 h4 _ h5
      refine h v' w' ?_ h4
      unfold OL
      rw [List.length_append, blist_len, List.map_append]
      exact h3

set_option maxHeartbeats 16000000 in
theorem back_walk (a1 a2 a3 : Option Addr) (l1 p1 l2 p2 l3 p3 : Nat) (f1 f2 f3 : Nat → UInt8) (at_ turn : Int) (ar : Option Addr) (capr : Nat) (rs : List Rw) (w : World)
    (h1 : Bytes w a1 l1 f1) (h2 : Bytes w a2 l2 f2) (h3 : Bytes w a3 l3 f3) (hn3 : a3 = none → p3 = 0) (b1 : l1 ≤ 1048576) (b2 : l2 ≤ 1048576) (b3 : l3 ≤ 1048576)
    (ha1 : -9223372036854775808 ≤ at_) (ha2 : at_ ≤ 9223372036854775807) (ht1 : -9223372036854775808 ≤ turn) (ht2 : turn ≤ 9223372036854775807)
    (hr : RLies w ar rs) (hg : ∀ r ∈ rs, GoodR r) (hrl : rs.length ≤ 1048576) (hE : (encRows rs).length ≤ 1073741824) (hq : Quart w) (he : Ety w) :
    Calls Tryd.prog 4 #[.slice a1 l1 p1, .slice a2 l2 p2, .slice a3 l3 p3, .int .i64 at_, .int .i64 turn, .slice ar rs.length capr] w fun e w' => e = .returned (.bool true) ∧ Below w.heap.size w w' := by
  obtain ⟨i0, hi0, hz0, hz1, hz2⟩ := info_parts info5
  have H1 : Hid (Bytes w a1 l1 f1) := h1
  have H2 : Hid (Bytes w a2 l2 f2) := h2
  have H3 : Hid (Bytes w a3 l3 f3) := h3
  have HRR : Hid (RLies w ar rs) := hr
  have HGG : Hid (∀ r ∈ rs, GoodR r) := hg
  have HQ : Hid (Quart w) := hq
  have HE : Hid (Ety w) := he
  have HN3 : Hid (a3 = none → p3 = 0) := hn3
  have hsl := sealed_len (blist f1 l1)
  rw [blist_len] at hsl
  clear h1 h2 h3 hr hg hq he hn3
  go_enter Tryd.func4, Tryd.ntmps4
  go_wp2_with fail
  refine (copied_any a1 l1 p1 f1 w H1.out (by omega)).mono ?_
  rintro e w1 ⟨rfl, hy1, hb1, hlt1⟩
  have HB1 : Hid (Below w.heap.size w w1) := hb1
  have HY1 : Hid (Bytes w1 (some ⟨w.heap.size, 0, none⟩) l1 f1) := hy1
  clear hy1 hb1
  go_wp2_with fail
  refine (seal_any w.heap.size 0 l1 l1 f1 w1 HY1.out (by omega) (HQ.out.later HB1.out)).mono ?_
  rintro e w2 ⟨hb2, hcase⟩
  have HB2 : Hid (Below w.heap.size w w2) := HB1.out.trans (hb2.mono (Nat.le_of_lt hlt1))
  have hs2 := HB2.out.size
  obtain ⟨vs, rfl, ho2⟩ : ∃ v', e = .returned (.tuple #[v', .nilIface]) ∧ OL w2 w1.heap.size v' (sealed (blist f1 l1)) := by
    rcases hcase with ⟨h, -⟩ | ⟨-, h⟩
    · omega
    · exact h
  obtain ⟨gs, cs, rfl, hcs1, hcs2⟩ : ∃ g c, vs = .slice (some ⟨g, 0, none⟩) (l1 + 8) c ∧ l1 + 8 ≤ c ∧ c ≤ maxLen := by
    rcases ho2.form with ⟨-, h⟩ | ⟨g, c, h1, h2, h3⟩
    · have := congrArg List.length h; rw [hsl, List.length_nil] at this; omega
    · rw [hsl] at h1 h2; exact ⟨g, c, h1, h2, h3⟩
  have HO2 : Hid (OL w2 w1.heap.size (.slice (some ⟨gs, 0, none⟩) (l1 + 8) cs) (sealed (blist f1 l1))) := ho2
  have hgs : gs < w2.heap.size := (World.ownsRow.lt ho2 gs rfl).2
  clear hb2 hcase ho2 HY1 HB1
  have hbi : ¬ (134217728 : Int) < (l1 : Int) := by omega
  have hl8 : ((l1 + 8 : Nat) : Int) = (l1 : Int) + 8 := by omega
  go_wp2_with fail
  refine (copied_ol a2 l2 p2 f2 w2 (H2.out.later HB2.out) (by omega)).mono ?_
  rintro e w3 ⟨rfl, ho3, hb3, hlt3⟩
  have HO3 : Hid (OL w3 w2.heap.size (.slice (some ⟨w2.heap.size, 0, none⟩) l2 l2) (blist f2 l2)) := ho3
  have HS3 : Hid (OL w3 w1.heap.size (.slice (some ⟨gs, 0, none⟩) (l1 + 8) cs) (sealed (blist f1 l1))) := HO2.out.later hb3
  have HB3 : Hid (Below w.heap.size w w3) := HB2.out.trans (hb3.mono hs2)
  clear ho3 hb3 HO2 HB2
  have hbl2 := blist_len f2 l2
  have hbl3 := blist_len f3 l3
  go_wp2_with (first
    | (at_builtin; refine wpList_append_ol rfl _ _ rfl w2.heap.size _ (blist f2 l2) rfl HO3.out w1.heap.size _ (sealed (blist f1 l1)) rfl HS3.out (seal_pos _) ?c1 ?c2 ?_))
  case c1 => omega
  case c2 => omega
  intro v4 w4 ho4 hg4 hat4
  have HO4 : Hid (OL w4 w2.heap.size v4 (blist f2 l2 ++ sealed (blist f1 l1))) := ho4
  have HS4 : Hid (OL w4 w1.heap.size (.slice (some ⟨gs, 0, none⟩) (l1 + 8) cs) (sealed (blist f1 l1))) := HS3.out.grown hg4 (fun g hg e => by cases hg; have := Option.some.inj e; simp at this; omega)
  have HB4 : Hid (Below w.heap.size w w4) := HB3.out.grown hg4 (by omega) (fun k hk => by cases hk; omega)
  have hs4 := hg4.size
  have hl4 : (blist f2 l2 ++ sealed (blist f1 l1)).length = l2 + (l1 + 8) := by rw [List.length_append, hsl, hbl2]
  clear ho4 hg4 hat4 HO3 HS3
  have HH3 : Hid (Bytes w4 a3 l3 f3) := H3.out.later HB4.out
  go_wp2_with (first
    | (at_builtin; refine wpList_append_bytes rfl _ _ rfl w2.heap.size _ (blist f2 l2 ++ sealed (blist f1 l1)) rfl HO4.out a3 l3 p3 f3 rfl HH3.out HN3.out ?c1 ?c2 ?_))
  case c1 => omega
  case c2 => omega
  intro v5 w5 ho5 hg5
  have hne5 : ∀ k, v4.ownBlock = some k → w2.heap.size ≤ k := fun k hk => (World.ownsRow.lt HO4.out k hk).1
  have HS5 : Hid (OL w5 w1.heap.size (.slice (some ⟨gs, 0, none⟩) (l1 + 8) cs) (sealed (blist f1 l1))) := HS4.out.grown hg5 (fun g hg e => by cases hg; have := hne5 _ e.symm; simp at this; omega)
  have HB5 : Hid (Below w.heap.size w w5) := HB4.out.grown hg5 (by omega) (fun k hk => by have := hne5 k hk; omega)
  have hs5 := hg5.size
  have hl5 : ((blist f2 l2 ++ sealed (blist f1 l1)) ++ blist f3 l3).length = l2 + (l1 + 8) + l3 := by rw [List.length_append, hl4, hbl3]
  rw [List.append_assoc] at hl5
  obtain ⟨g5, c5, rfl, hc51, hc52⟩ : ∃ g c, v5 = .slice (some ⟨g, 0, none⟩) (l2 + (l1 + 8) + l3) c ∧ l2 + (l1 + 8) + l3 ≤ c ∧ c ≤ maxLen := by
    rcases ho5.form with ⟨-, h⟩ | ⟨g, c, h1, h2, h3⟩
    · have := congrArg List.length h; rw [hl5, List.length_nil] at this; omega
    · rw [hl5] at h1 h2; exact ⟨g, c, h1, h2, h3⟩
  have hby5 := ho5.bytes.2
  obtain ⟨oe, ow, ob⟩ := open_sealed (blist f2 l2) (blist f1 l1) (blist f3 l3) (by rw [blist_len]; omega)
  rw [hl5] at hby5 oe
  rw [hbl2] at oe ow ob
  rw [blist_len] at ow ob
  have HBY5 : Hid (Bytes w5 (some ⟨g5, 0, none⟩) (l2 + (l1 + 8) + l3) (lat (blist f2 l2 ++ (sealed (blist f1 l1) ++ blist f3 l3)))) := hby5
  have HOE : Hid (opnE (lat (blist f2 l2 ++ (sealed (blist f1 l1) ++ blist f3 l3))) (l2 + (l1 + 8) + l3) (l2 : Int) = 0) := oe
  have HON : Hid (opnN (lat (blist f2 l2 ++ (sealed (blist f1 l1) ++ blist f3 l3))) (l2 + (l1 + 8) + l3) (l2 : Int) = l1) := by unfold Hid opnN; rw [oe, if_pos rfl]; simpa using ow
  have HOB : Hid (∀ i, i < l1 → opnF (lat (blist f2 l2 ++ (sealed (blist f1 l1) ++ blist f3 l3))) (l2 : Int) i = f1 i) := fun i hi => by
    unfold opnF
    rw [Int.toNat_natCast, ob i hi]
    simp [lat, blist, hi]
  clear ho5 hg5 hne5 HO4 HS4 HH3 HB4 hby5 oe ow ob
  unfold maxLen at hc52 hcs2
  go_wp2_with fail
  refine (open_any2 (some ⟨g5, 0, none⟩) (l2 + (l1 + 8) + l3) c5 (lat (blist f2 l2 ++ (sealed (blist f1 l1) ++ blist f3 l3))) (l2 : Int) w5 HBY5.out hc51 (by omega) (by omega) (by omega) (by omega) (HQ.out.later HB5.out)).mono ?_
  rintro e w6 ⟨hb6, v6, rfl, ho6⟩
  rw [HON.out] at ho6
  have hT : opnT (lat (blist f2 l2 ++ (sealed (blist f1 l1) ++ blist f3 l3))) (l2 + (l1 + 8) + l3) (l2 : Int) = (l2 : Int) + 8 + (l1 : Int) := by unfold opnT; rw [if_pos HOE.out, HON.out]
  rw [hT]
  rw [HOE.out]
  have HS6 : Hid (OL w6 w1.heap.size (.slice (some ⟨gs, 0, none⟩) (l1 + 8) cs) (sealed (blist f1 l1))) := HS5.out.later hb6
  have HB6 : Hid (Below w.heap.size w w6) := HB5.out.trans (hb6.mono HB5.out.size)
  have hs6 := HB6.out.size
  obtain ⟨ag, cg, rfl, hbyg⟩ : ∃ a c, v6 = .slice a l1 c ∧ Bytes w6 a l1 f1 := by
    rcases ho6.2 with ⟨h1, h2⟩ | ⟨g, c, _, h1, _⟩
    · exact ⟨none, 0, by rw [h1, h2], fun i hi => absurd hi (by omega)⟩
    · refine ⟨_, c, h1, ?_⟩
      rw [h1] at ho6
      intro i hi
      obtain ⟨b, o, e, hc⟩ := bytes_of_own (f := opnF (lat (blist f2 l2 ++ (sealed (blist f1 l1) ++ blist f3 l3))) (l2 : Int)) ho6 i hi
      exact ⟨b, o, e, by rw [HOB.out i hi] at hc; exact hc⟩
  have V1 := conv_bytes w6 ag l1 cg f1 hbyg
  have V2 := conv_bytes w6 a1 l1 p1 f1 (H1.out.later HB6.out)
  have hSS := beq_str (rfl : bstr f1 l1 = bstr f1 l1)
  have herr : errV 0 = .nilIface := rfl
  rw [herr]
  clear hb6 ho6 hbyg hT HBY5 HOE HON HOB HS5 HB5 herr
  generalize bstr f1 l1 = S at *
  have hTT : ((l2 : Int) + 8 + (l1 : Int) == (l2 : Int) + ((l1 : Int) + 8)) = true := by rw [beq_iff_eq]; omega
  have hpk : ((l1 + 8 : Nat) : Int) - 4 = ((l1 + 4 : Nat) : Int) := by omega
  go_wp2_with fail
  clear V1 V2 hSS hTT hpk
  rw [show (l1 : Int) + 8 - 4 = ((l1 + 4 : Nat) : Int) by omega]
  refine (pick_any at_ (l1 + 4) w6 ha1 ha2 (by omega) (by omega)).mono ?_
  rintro e w7 ⟨rfl, rfl⟩
  have hr0 := Int.emod_nonneg at_ (show ((l1 + 4 : Nat) : Int) ≠ 0 by omega)
  have hr1 := Int.emod_lt_of_pos at_ (show (0 : Int) < ((l1 + 4 : Nat) : Int) by omega)
  obtain ⟨r, hre⟩ : ∃ r : Nat, at_ % ((l1 + 4 : Nat) : Int) = (r : Int) := ⟨(at_ % ((l1 + 4 : Nat) : Int)).toNat, by omega⟩
  rw [hre] at hr1 ⊢
  have hrl4 : r < l1 + 4 := by omega
  have hsb := HS6.out.bytes.2
  rw [hsl] at hsb
  have HSB : Hid (Bytes w7 (some ⟨gs, 0, none⟩) (l1 + 8) (lat (sealed (blist f1 l1)))) := hsb
  clear hr0 hr1 hre hsb
  go_wp2_with fail
  refine (copied_ol (some ⟨gs, 0, none⟩) (l1 + 8) cs (lat (sealed (blist f1 l1))) w7 HSB.out (by omega)).mono ?_
  rintro e w8 ⟨rfl, ho8, hb8, hlt8⟩
  obtain ⟨K, hK⟩ : ∃ K, K = 4 + r := ⟨_, rfl⟩
  rw [show (4 : Int) + (r : Int) = (K : Int) by omega]
  have hK4 : 4 ≤ K := by omega
  have hK8 : K < l1 + 8 := by omega
  clear hK hrl4
  have hbe : blist (lat (sealed (blist f1 l1))) (l1 + 8) = sealed (blist f1 l1) := by rw [← hsl]; exact blist_lat _
  rw [hbe] at ho8
  have HO8 : Hid (OL w8 w7.heap.size (.slice (some ⟨w7.heap.size, 0, none⟩) (l1 + 8) (l1 + 8)) (sealed (blist f1 l1))) := ho8
  have HB8 : Hid (Below w.heap.size w w8) := HB6.out.trans (hb8.mono hs6)
  obtain ⟨b', o', e', hcx⟩ := ho8.bytes.2 K (by rw [hsl]; omega)
  cases e'
  have hX2 := UInt8.toNat_lt (lat (sealed (blist f1 l1)) K)
  have HXe : Hid (∃ X : Nat, X = (lat (sealed (blist f1 l1)) K).toNat) := ⟨_, rfl⟩
  obtain ⟨X, hX⟩ := HXe.out
  rw [← hX] at hcx hX2
  have HX : Hid (X = (lat (sealed (blist f1 l1)) K).toNat) := hX
  have hor8 : w8.ownsRow w7.heap.size 5 1 (.slice (some ⟨w7.heap.size, 0, none⟩) (l1 + 8) (l1 + 8)) (l1 + 8) ((sealed (blist f1 l1)).map u8v) := by have h := ho8; unfold OL at h; rw [hsl] at h; exact h
  have HOR8 : Hid (w8.ownsRow w7.heap.size 5 1 (.slice (some ⟨w7.heap.size, 0, none⟩) (l1 + 8) (l1 + 8)) (l1 + 8) ((sealed (blist f1 l1)).map u8v)) := hor8
  have fr8 := World.ownsRow.frozenAt hor8 K
  have hX0 : (0 : Int) ≤ (X : Int) := by omega
  have hX1 : (X : Int) ≤ 255 := by omega
  rw [Nat.zero_add] at hcx
  have hy0 := Int.emod_nonneg turn (show (255 : Int) ≠ 0 by omega)
  have hy1 := Int.emod_lt_of_pos turn (show (0 : Int) < 255 by omega)
  obtain ⟨y, hye⟩ : ∃ y : Nat, turn % 255 = (y : Int) := ⟨(turn % 255).toNat, by omega⟩
  have HPK : Hid (∀ W, Calls Tryd.prog 12 #[.int .i64 turn, .int .i64 255] W fun e w' => e = .returned (.int .i64 (y : Int)) ∧ w' = W) := fun W => by
    have := pick_any turn 255 W ht1 ht2 (by omega) (by omega)
    rw [show ((255 : Nat) : Int) = 255 by rfl, hye] at this
    exact this
  have hyl : y < 255 := by omega
  have hki : (K : Int) < (l1 : Int) + 8 := by omega
  have hki0 : (0 : Int) ≤ (K : Int) := by omega
  have hwy : IntKind.u8.wrap (1 + (y : Int)) = ((y + 1 : Nat) : Int) := by rw [IntKind.wrap_u8']; omega
  obtain ⟨Z, hZ1, hZ2⟩ := xor_byte X (y + 1) hX2 (by omega) (by omega)
  have HZ1 : Hid (bits .xor .u8 (X : Int) ((y + 1 : Nat) : Int) = (Z.toNat : Int)) := hZ1
  have HZ2 : Hid (Z.toNat ≠ X) := hZ2
  clear hor8 ho8 hb8 hbe hX HXe hy0 hy1 hye hZ1 hZ2
  go_wp2
  have hwy1 : IntKind.i64.wrap (1 + (y : Int)) = 1 + (y : Int) := by rw [wrapI64]; omega
  have HZ1' : Hid (bits .xor .u8 (X : Int) ((y : Int) + 1) = (Z.toNat : Int)) := by rw [Hid, ← HZ1.out, show ((y + 1 : Nat) : Int) = (y : Int) + 1 by omega]
  have HW9 : Hid (∀ W, Below w8.heap.size (w8.setCell ⟨w7.heap.size, K, none⟩ (.int .u8 (Z.toNat : Int))) W → Bytes W (some ⟨w7.heap.size, 0, none⟩) (l1 + 8) (lat ((sealed (blist f1 l1)).set K Z)) ∧ Below w.heap.size w W) := fun W hW => by
    have hst := (HOR8.out.stored K (.int .u8 (Z.toNat : Int))).1
    have hOLs : OL (w8.setCell ⟨w7.heap.size, K, none⟩ (.int .u8 (Z.toNat : Int))) w7.heap.size (.slice (some ⟨w7.heap.size, 0, none⟩) (l1 + 8) (l1 + 8)) ((sealed (blist f1 l1)).set K Z) := by
      unfold OL
      rw [List.length_set, hsl, List.map_set]
      exact hst
    have hbs := hOLs.bytes.2
    rw [List.length_set, hsl] at hbs
    refine ⟨hbs.later (by simpa using hW), ?_⟩
    exact (HB8.out.setCell (by simp; omega) _).trans (hW.mono (by have := HB8.out.size; omega))
  have HOT : Hid (opnE (lat ((sealed (blist f1 l1)).set K Z)) (l1 + 8) 0 = 8) := by
    have := open_turned (blist f1 l1) (by rw [blist_len]; omega) K hK4 (by rw [blist_len]; exact hK8) Z (fun h => HZ2.out (by rw [HX.out, ← h]))
    rw [blist_len] at this
    exact this
  go_region_with (first | (go_at_call 12; refine (HPK.out _).mono ?_; rintro e w9 ⟨rfl, rfl⟩))
  all_goals rw [HZ1'.out]
  all_goals
    obtain ⟨W9, hW9⟩ : ∃ W9, W9 = (w8.setCell ⟨w7.heap.size, K, none⟩ (.int .u8 (Z.toNat : Int))).drew := ⟨_, rfl⟩
    rw [← hW9]
    have hf9 := HW9.out W9 (by rw [hW9]; exact (Below.refl _ _).drew)
    have HBY9 : Hid (Bytes W9 (some ⟨w7.heap.size, 0, none⟩) (l1 + 8) (lat ((sealed (blist f1 l1)).set K Z))) := hf9.1
    have HB9 : Hid (Below w.heap.size w W9) := hf9.2
    clear hf9 hW9 HW9 HPK hcx fr8 HO8 HB8 HOR8
    go_wp2_with fail
    refine (open_any2 (some ⟨w7.heap.size, 0, none⟩) (l1 + 8) (l1 + 8) (lat ((sealed (blist f1 l1)).set K Z)) 0 W9 HBY9.out (Nat.le_refl _) (by omega) (by omega) (by omega) (by omega) (HQ.out.later HB9.out)).mono ?_
    rintro e w10 ⟨hb10, v10, rfl, ho10⟩
    rw [HOT.out]
    have HB10 : Hid (Below w.heap.size w w10) := HB9.out.trans (hb10.mono HB9.out.size)
    have HTY : Hid (Ety w10) := HE.out.later HB10.out
    obtain ⟨a10, n10, c10, rfl⟩ : ∃ a n c, v10 = .slice a n c := by
      rcases ho10.2 with ⟨h1, -⟩ | ⟨g, c, _, h1, _⟩
      · exact ⟨_, _, _, h1⟩
      · exact ⟨_, _, _, h1⟩
    generalize opnT (lat ((sealed (blist f1 l1)).set K Z)) (l1 + 8) 0 = T10
    clear hb10 ho10 HBY9 HB9 HOT
    go_wp2_with fail
    refine (told_any 8 w10 HTY.out).mono ?_
    rintro e w11 ⟨rfl, hb11⟩
    have HB11 : Hid (Below w.heap.size w w11) := HB10.out.trans (hb11.mono HB10.out.size)
    clear hb11 HB10 HTY
    go_wp2_with fail
    refine (putRows_any w w11 ar capr rs (.slice none 0 0) [] HRR.out HGG.out (by omega) HB11.out ⟨rfl, .inl ⟨rfl, rfl⟩⟩ (by simp; omega)).mono ?_
    rintro e w12 ⟨v12, rfl, ho12, hb12⟩
    rw [List.nil_append] at ho12
    have HB12 : Hid (Below w.heap.size w w12) := HB11.out.trans hb12
    have hep := encRows_pos' rs
    obtain ⟨g12, c12, rfl, hc121, hc122⟩ : ∃ g c, v12 = .slice (some ⟨g, 0, none⟩) (encRows rs).length c ∧ (encRows rs).length ≤ c ∧ c ≤ maxLen := by
      rcases ho12.form with ⟨-, h⟩ | ⟨g, c, h1, h2, h3⟩
      · have := congrArg List.length h; rw [List.length_nil] at this; omega
      · exact ⟨g, c, h1, h2, h3⟩
    have hg12 : g12 < w12.heap.size := (World.ownsRow.lt ho12 g12 rfl).2
    have HC12 : Hid (Calls Tryd.prog 5 #[.slice (some ⟨g12, 0, none⟩) (encRows rs).length c12] w12 (TopPost w12 (encRows rs))) := wireRows_any (some ⟨g12, 0, none⟩) c12 (encRows rs) w12 ⟨ho12.bytes.2, hc121, by unfold maxLen at hc122; omega, (fun x hx => by cases hx; exact hg12), ⟨_, _, rfl⟩, by omega⟩ (by omega)
    clear ho12 hb12 HB11
    go_wp2_with fail
    refine HC12.out.mono ?_
    rintro e w13 ⟨a13, n13, c13, E, rfl, hb13, hcase⟩
    have HB13 : Hid (Below w.heap.size w w13) := HB12.out.trans (hb13.mono HB12.out.size)
    have HCA : Hid ((E = 0 ∧ ∃ ys : List Rw, ys.length = n13 ∧ (∀ r ∈ ys, Fine r) ∧ encRows rs = encRows ys ∧ RLies w13 a13 ys) ∨ (E = 7 ∧ a13 = none ∧ n13 = 0 ∧ c13 = 0 ∧ ∀ ys : List Rw, (∀ r ∈ ys, Fine r) → InI (ys.length : Int) → encRows rs ≠ encRows ys)) := hcase
    clear hb13 hcase HC12 HB12
    go_wp2_with fail
    refine (valid_any rs ar capr w13 (HRR.out.later HB13.out) HGG.out (by omega)).mono ?_
    rintro e w14 ⟨rfl, hb14⟩
    have HB14 : Hid (Below w.heap.size w w14) := HB13.out.trans (hb14.mono HB13.out.size)
    have HR14 : Hid (RLies w14 ar rs) := HRR.out.later HB14.out
    have HFR : Hid (∀ r ∈ rs, r.vs.length ≤ 549755813888) := fun r hr => (HGG.out r hr).2.2.1
    obtain ⟨ys, hyn, hyl, hyv, hyr, hyg⟩ : ∃ ys : List Rw, ys.length = n13 ∧ ys.length ≤ 549755813888 ∧ (∀ r ∈ ys, r.vs.length ≤ 549755813888) ∧ RLies w14 a13 ys ∧ (rs.all validR = true → E = 0 ∧ ys = rs) := by
      rcases HCA.out with ⟨rfl, ys, h1, h2, h3, h4⟩ | ⟨rfl, rfl, rfl, rfl, h⟩
      · have h5 : (rs.length : Int) = (ys.length : Int) := by
          unfold encRows at h3
          exact (encInt_pf h3).1
        refine ⟨ys, h1, by omega, fun r hr => by have := fine_len' (h2 r hr); omega, h4.later hb14, fun hv => ⟨rfl, ?_⟩⟩
        have hall : ∀ r ∈ rs, Fine r := fun r hr => ⟨List.all_eq_true.1 hv r hr, HGG.out r hr⟩
        exact (encRows_pf (r := []) (s := []) (fun r hr => formR_of_valid (h2 r hr).1) (fun r hr => formR_of_valid (hall r hr).1) (by rw [List.append_nil, List.append_nil]; exact h3.symm)).1
      · refine ⟨[], rfl, by simp, (fun r hr => by cases hr), fun i hi => absurd hi (by simp), fun hv => ?_⟩
        exact absurd rfl (h rs (fun r hr => ⟨List.all_eq_true.1 hv r hr, HGG.out r hr⟩) ⟨by omega, by omega⟩)
    subst hyn
    have HYR : Hid (RLies w14 a13 ys) := hyr
    have HYV : Hid (∀ r ∈ ys, r.vs.length ≤ 549755813888) := hyv
    have HYG : Hid (rs.all validR = true → E = 0 ∧ ys = rs) := hyg
    clear hb14 hyr hyv hyg HCA HB13
    go_wp2_with fail
    refine (sameRows_gen ys rs a13 c13 ar capr w14 HYR.out HR14.out hyl (by omega) HYV.out HFR.out).mono ?_
    rintro e w15 ⟨bs, rfl, hb15, hbs⟩
    have HB15 : Hid (Below w.heap.size w w15) := HB14.out.trans (hb15.mono HB14.out.size)
    have HBS : Hid (ys = rs → bs = true) := hbs
    clear hb15 hbs
    cases hv : rs.all validR with
    | false =>
      go_wp2
      go_ret
      exact ⟨rfl, HB15.out⟩
    | true =>
      obtain ⟨rfl, hyx⟩ := HYG.out hv
      obtain rfl := HBS.out hyx
      clear hyx HBS HYG
      have herr : errV 0 = .nilIface := rfl
      rw [herr]
      go_wp2
      go_ret
      exact ⟨rfl, HB15.out⟩
end Go.Proofs.YtafighjlciglpaaDoor
