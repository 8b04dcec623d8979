import Derived.Test.YtobhccmnlmlapaaGreatDoorQStZk
import Derived.Test.YtobhccmnlmlapaaGreatDoorGd
import Derived.Test.YtobhccmnlmlapaaGreatDoorGf
import Derived.Deep.CutBlock
import Derived.Deep.Cut
namespace Go.Proofs.YtobhccmnlmlapaaGreatDoor
open Go.RowKit Go.Maps
set_option linter.unusedVariables false
set_option linter.unusedSimpArgs false
set_option maxRecDepth 100000
def firstReg : Code → Option Nat
  | .region n _ _ => some n
  | .seq a b => match firstReg a with
    | some x => some x
    | none => firstReg b
  | .block _ c => firstReg c
  | .scope c => firstReg c
  | .loop c => firstReg c
  | .cond _ a b => match firstReg a with
    | some x => some x
    | none => firstReg b
  | _ => none
/-- The largest part of a code whose first region has that number. -/
def partOf (n : Nat) : Code → Option Code
  | .loop c => match firstReg (.loop c) with
    | some m => match Nat.beq m n with
      | true => some (.loop c)
      | false => partOf n c
    | none => partOf n c
  | .seq a b => match firstReg (.seq a b) with
    | some m => match Nat.beq m n with
      | true => some (.seq a b)
      | false => match partOf n a with
        | some c => some c
        | none => partOf n b
    | none => match partOf n a with
        | some c => some c
        | none => partOf n b
  | .block _ c => partOf n c
  | .scope c => partOf n c
  | .cond _ a b => match partOf n a with
    | some c => some c
    | none => partOf n b
  | _ => none
noncomputable def mvPart (n : Nat) : Code := (Tryz.f4.body.bind (partOf n)).getD .skip
theorem len_cellsP (l : List Pc) : (l.flatMap cellsP).length = l.length * 2 := by
  induction l with
  | nil => rfl
  | cons x l ih =>
    rw [List.flatMap_cons, List.length_append, ih, List.length_cons]
    show 2 + l.length * 2 = _
    omega
theorem pl_cells {w : World} {B : Nat} {ad : Addr} {l : List Pc} (h : PIn w B (some ad) l) : ∀ j u, (l.flatMap cellsP)[j]? = some u → w.cell? (ad.add j) = some u := fun j u hu => by
  have hlen := len_cellsP l
  have hj : j < l.length * 2 := by
    rcases Nat.lt_or_ge j (l.length * 2) with h' | h'
    · exact h'
    · rw [List.getElem?_eq_none (by omega)] at hu; cases hu
  have hi : j / 2 < l.length := by omega
  have hr : j % 2 < 2 := by omega
  have hf := flat_at cellsP 2 (fun _ => rfl) l (j / 2) (j % 2) hi hr
  rw [show j / 2 * 2 + j % 2 = j by omega, hu] at hf
  obtain ⟨b, off, e, -, e0, e1⟩ := h.row (j / 2) hi
  cases e
  have ea : (⟨b, off, none⟩ : Addr).add j = ⟨b, off + j, none⟩ := by simp [Addr.add]
  rw [ea]
  have h4 : j % 2 = 0 ∨ j % 2 = 1 := by omega
  rcases h4 with h' | h'
  · rw [h'] at hf; simp [cellsP] at hf; rw [hf, ← e0]; congr 2; omega
  · rw [h'] at hf; simp [cellsP] at hf; rw [hf, ← e1]; congr 2; omega
theorem one_flatP {w : World} {B : Nat} {pb : Option Addr} {l : List Pc} (h : PIn w B pb l) : ∀ u ∈ l.flatMap cellsP, u.oneCell' = true := fun u hu => by
  obtain ⟨o, ho, h'⟩ := List.mem_flatMap.1 hu
  obtain ⟨a, c, e, -⟩ := h.byt o ho
  simp [cellsP, e] at h'
  rcases h' with rfl | rfl <;> rfl
/-- append(s, l...) of pieces. -/
theorem app_P {w : World} {ops : Array Oper} {rest : List Oper} {o : Oper} {ac : Act} {Q : Exit → Act → World → Prop} (hgd : o.guard = none) (sx x : Operand) (ho : o.op = .call { callee := .builtin .append, args := #[sx, x], argTypes := #[42, 42] })
    (B B2 : Nat) (v : Value) (s l : List Pc) (a : Option Addr) (c : Nat) (hs : ac.eval sx = v) (hown : w.ownsRow B 57 2 v s.length (s.flatMap cellsP)) (hx : ac.eval x = .slice a l.length c) (hl : PIn w B2 a l) (hm : s.length + l.length ≤ 1048576) (hB : B ≤ w.heap.size)
    (h : ∀ v' w', w'.ownsRow B 57 2 v' (s ++ l).length ((s ++ l).flatMap cellsP) → w.grownBy w' v.ownBlock → wpList Tryz.prog ops Q rest (ac.put o.dst v') w') : wpList Tryz.prog ops Q (o :: rest) ac w := by
  obtain ⟨i0, hi0, hz0, hz1, hz2⟩ := info_parts infoP
  cases a with
  | some ad =>
    refine wpList_append_own_at _ hgd sx x 42 ho B 57 i0 (.agg #[.int .i64 0, .slice none 0 0]) 2 32 Tryz.underlying42 hi0 hz0 hz1 hz2 rfl (by decide) v s.length (s.flatMap cellsP) hs hown ad l.length c (l.flatMap cellsP) hx (len_cellsP l) (pl_cells hl) (one_flatP hl) (by unfold maxLen; omega) (by omega) hB ?_
    intro v' w' h1 h2 _ _
    refine h v' w' ?_ h2
    rw [List.length_append, List.flatMap_append]
    exact h1
  | none =>
    have hl0 : l = [] := by
      cases l with
      | nil => rfl
      | cons y r => obtain ⟨b, off, e, -⟩ := hl.row 0 (by simp); cases e
    subst hl0
    obtain ⟨ao, cs, rfl⟩ := row_form hown
    have hle : s.length ≤ cs := by
      rcases hown.2 with ⟨h1, h2⟩ | ⟨g, cap, cur, h1, h2, h3, h4, -⟩
      · simp at h1; omega
      · simp at h1; omega
    refine wpList_plain hgd fun K hK => ?_
    have hr := run_append_nothing (P := Tryz.prog) w 42 42 o.type 57 i0 Tryz.underlying42 hi0 ao s.length cs hle (.slice none 0 c) (Src.ofNil w Tryz.underlying42 c)
    have hx' : ac.eval x = .slice none 0 c := hx
    unfold Oper.wp execOp
    simp only [ho, resolve, invoke, builtin, Sem.run_bind, Sem.run_pure, Result.andThen_ok, List.map_toArray, List.map_cons, List.map_nil, hs, hx', hr]
    refine hK _ _ (h _ w (by rw [List.append_nil]; exact hown) ⟨rfl, rfl, rfl, Nat.le_refl _, fun _ _ _ => rfl⟩)
theorem saveP_ne {l : List Ce} (h : l ≠ []) : saveP l ≠ [] := fun e => by
  obtain ⟨c, l', rfl⟩ := List.exists_cons_of_ne_nil h
  have hm : c ∈ ofG (c :: l') (grp c.key) := ofG_mem.2 ⟨List.mem_cons_self, rfl⟩
  have h1 : (grp c.key, Wr.sealed (encBody (ofG (c :: l') (grp c.key)))) ∈ saveP (c :: l') := by
    unfold saveP
    refine List.mem_filterMap.2 ⟨grp c.key, List.mem_range.2 (grp_lt _), ?_⟩
    unfold pcs
    rw [if_neg (fun e0 => by rw [List.eq_nil_of_length_eq_zero e0] at hm; cases hm)]
  rw [e] at h1
  cases h1
end Go.Proofs.YtobhccmnlmlapaaGreatDoor
namespace Go.Proofs.YtobhccmnlmlapaaGreatDoor
open Go.RowKit Go.Maps
set_option linter.unusedVariables false
set_option linter.unusedSimpArgs false
set_option maxRecDepth 100000
theorem pin_of {w : World} {B : Nat} {u : Value} {ps : List Pc} (hown : w.ownsRow B 57 2 u ps.length (ps.flatMap cellsP)) (hbyt : ∀ p ∈ ps, ∃ B', Wr.OL w B' p.v p.b) : ∃ pb c, u = .slice pb ps.length c ∧ PIn w w.heap.size pb ps := by
  have hby : ∀ p ∈ ps, ∃ a c, p.v = .slice a p.b.length c ∧ Wr.Bytes w a p.b.length (Wr.lat p.b) ∧ p.b.length ≤ c ∧ c ≤ 9223372036854775807 ∧ ∀ y, a = some y → y.block < w.heap.size := fun p hp => by
    obtain ⟨B', hB'⟩ := hbyt p hp
    obtain ⟨a, c2, e', hb, hc, hm⟩ := hB'.conv
    refine ⟨a, c2, e', hb, hc, by unfold maxLen at hm; omega, fun y hy => ?_⟩
    rcases hB'.2 with ⟨k1, _⟩ | ⟨g, cap, cur, k1, -⟩
    · rw [e'] at k1; injection k1 with k1; rw [hy] at k1; cases k1
    · have k2 := k1
      rw [e'] at k1; injection k1 with k1; rw [hy] at k1
      injection k1 with k1
      rw [k1]
      exact (World.ownsRow.lt hB' g (by rw [k2]; rfl)).2
  rcases hown.2 with ⟨h1, h0⟩ | ⟨g, cap, cur, h1, h2, h3, h4⟩
  · exact ⟨none, 0, by rw [h1, h0], fun i hi => absurd hi (by omega), hby⟩
  · refine ⟨some ⟨g, 0, none⟩, cap, h1, fun i hi => ?_, hby⟩
    have ho := hown
    rw [h1] at ho
    have key : ∀ j, j < 2 → w.cell? ⟨g, i * 2 + j, none⟩ = (cellsP ps[i])[j]? := fun j hj => by
      rw [World.ownsRow.cellAt ho (i * 2 + j) (by omega), flat_at cellsP 2 (fun _ => rfl) ps i j hi hj]
    refine ⟨g, 0, rfl, (World.ownsRow.lt ho g rfl).2, ?_, ?_⟩
    · rw [Nat.zero_add]; exact key 0 (by decide)
    · rw [Nat.zero_add]; exact key 1 (by decide)
/-- Two lists of pieces that say the same. -/
theorem same_at {ps qs : List Pc} (h : qs.map (fun p => (p.g, p.b)) = ps.map (fun p => (p.g, p.b))) : qs.length = ps.length ∧ ∀ i (hi : i < ps.length) (hj : i < qs.length), qs[i].g = ps[i].g ∧ qs[i].b = ps[i].b := by
  have hl : qs.length = ps.length := by have := congrArg List.length h; simpa using this
  refine ⟨hl, fun i hi hj => ?_⟩
  have h1 : (qs.map (fun p => (p.g, p.b)))[i]? = (ps.map (fun p => (p.g, p.b)))[i]? := by rw [h]
  rw [List.getElem?_map, List.getElem?_map, List.getElem?_eq_getElem hj, List.getElem?_eq_getElem hi] at h1
  have h2 := Option.some.inj h1
  exact ⟨congrArg Prod.fst h2, congrArg Prod.snd h2⟩
set_option maxHeartbeats 4000000 in
theorem moves_t2 (w0 W : World) (k t mp Bx ta ma Ba tb mb Bb : Nat) (ss sa sb : List Sh) (pb : Option Addr) (pc B1 : Nat) (ps : List Pc) (hk : k ≤ 32) (hx : PS W Bx t mp 0 32 ss) (ha : PS W Ba ta ma 0 (k : Int) sa) (hb : PS W Bb tb mb (k : Int) 32 sb) (pa : (ces sa).Perm ((ces ss).filter (inL 0 (k : Int)))) (pd : (ces sb).Perm ((ces ss).filter (inL (k : Int) 32))) (ho : OPc W B1 (.slice pb ps.length pc) ps) (hps : ps.map (fun p => (p.g, p.b)) = saveP (ces ss)) (hne : ces ss ≠ []) (hbel : Below w0.heap.size w0 W) (ht : ∀ W, Below w0.heap.size w0 W → Vl.Tab W ∧ Wr.Quart W ∧ Wr.Ety W)
    (x0 x2 x3 x4 x6 x7 x8 x9 x10 x11 x14 x16 x17 x18 x19 x20 x21 x22 x23 x24 x25 x26 x27 x28 x29 x30 x31 x32 x33 x34 x35 x36 x37 x38 x39 x40 x41 x42 x43 x44 x45 x46 x47 x48 x49 x50 x51 x52 x53 x54 x55 x56 x57 x58 x59 x60 x61 x62 x63 x64 x65 x66 x67 x68 x69 x70 x71 x72 x73 x74 x75 x76 x77 x78 x79 x80 x81 x82 x83 x84 x85 x86 x87 x88 x89 x90 x91 x92 x93 x94 x95 x96 x97 x98 x99 x100 x101 x102 x103 x104 x105 x106 x107 x108 x109 x110 x111 x112 x113 x114 x115 x116 x117 x118 x119 x120 x121 x122 x123 x124 x125 x126 x127 x128 x129 x130 x131 x132 x133 x134 x135 x136 x137 x138 x139 x140 x141 x142 x143 x144 x145 x146 x147 x148 x149 x150 x151 x152 x153 x154 x155 x156 x157 x158 x159 x160 x161 x162 x163 x164 x165 x166 x167 x168 x169 x170 x171 x172 x173 x174 x175 x176 x177 x178 x179 x180 : Value) :
    Code.wp Tryz.prog (mvPart 32) (bodyPost Tryz.prog Tryz.f4 fun e w' => e = .returned (.bool true) ∧ Below w0.heap.size w0 w') { tmps := List.toArray (x0 :: (.int .i64 (k : Int)) :: x2 :: x3 :: x4 :: (.pointer (some ⟨t, 0, none⟩)) :: x6 :: x7 :: x8 :: x9 :: x10 :: x11 :: (.slice pb ps.length pc) :: (.pointer (some ⟨ta, 0, none⟩)) :: x14 :: (.pointer (some ⟨tb, 0, none⟩)) :: x16 :: x17 :: x18 :: x19 :: x20 :: x21 :: x22 :: x23 :: x24 :: x25 :: x26 :: x27 :: x28 :: x29 :: x30 :: x31 :: x32 :: x33 :: x34 :: x35 :: x36 :: x37 :: x38 :: x39 :: x40 :: x41 :: x42 :: x43 :: x44 :: x45 :: x46 :: x47 :: x48 :: x49 :: x50 :: x51 :: x52 :: x53 :: x54 :: x55 :: x56 :: x57 :: x58 :: x59 :: x60 :: x61 :: x62 :: x63 :: x64 :: x65 :: x66 :: x67 :: x68 :: x69 :: x70 :: x71 :: x72 :: x73 :: x74 :: x75 :: x76 :: x77 :: x78 :: x79 :: x80 :: x81 :: x82 :: x83 :: x84 :: x85 :: x86 :: x87 :: x88 :: x89 :: x90 :: x91 :: x92 :: x93 :: x94 :: x95 :: x96 :: x97 :: x98 :: x99 :: x100 :: x101 :: x102 :: x103 :: x104 :: x105 :: x106 :: x107 :: x108 :: x109 :: x110 :: x111 :: x112 :: x113 :: x114 :: x115 :: x116 :: x117 :: x118 :: x119 :: x120 :: x121 :: x122 :: x123 :: x124 :: x125 :: x126 :: x127 :: x128 :: x129 :: x130 :: x131 :: x132 :: x133 :: x134 :: x135 :: x136 :: x137 :: x138 :: x139 :: x140 :: x141 :: x142 :: x143 :: x144 :: x145 :: x146 :: x147 :: x148 :: x149 :: x150 :: x151 :: x152 :: x153 :: x154 :: x155 :: x156 :: x157 :: x158 :: x159 :: x160 :: x161 :: x162 :: x163 :: x164 :: x165 :: x166 :: x167 :: x168 :: x169 :: x170 :: x171 :: x172 :: x173 :: x174 :: x175 :: x176 :: x177 :: x178 :: x179 :: x180 :: []), defers := [] } W := by
  have HS1 := hidMk (save_any W Ba ta ma 0 (k : Int) sa ha (ht W hbel).1 (ht W hbel).2.1)
  have HX := hidMk hx
  have HA := hidMk ha
  have HB := hidMk hb
  have HPA := hidMk pa
  have HPD := hidMk pd
  have HO := hidMk ho
  have HPS := hidMk hps
  have HNE := hidMk hne
  have HBEL := hidMk hbel
  have HT := hidMk ht
  clear hx ha hb pa pd ho hps hne hbel ht
  conv => arg 2; whnf
  go_wp2_with fail
  refine HS1.out.mono ?_
  rintro e W1 ⟨u2, ps2, rfl, o2, e2, b2⟩
  have HBW1 := hidMk (HBEL.out.trans (b2.mono HBEL.out.size))
  have HS2 := hidMk (save_any W1 Bb tb mb (k : Int) 32 sb (HB.out.later b2) (HT.out W1 HBW1.out).1 (HT.out W1 HBW1.out).2.1)
  have HO2 := hidMk o2
  have HE2 := hidMk e2
  have HB2 := hidMk b2
  clear o2 e2 b2 HS1
  go_wp2_with fail
  refine HS2.out.mono ?_
  rintro e W2 ⟨u3, ps3, rfl, o3, e3, b3⟩
  have HBW2 := hidMk (HBW1.out.trans (b3.mono HBW1.out.size))
  have HB3 := hidMk (HB2.out.trans (b3.mono HB2.out.size))
  have HO2' := hidMk (HO2.out.later b3)
  obtain ⟨pb3, c3, rfl, hin3⟩ := o3.pin
  have HO3 := hidMk o3
  have HI3 := hidMk hin3
  have HE : Hid ((ps2 ++ ps3).map (fun p => (p.g, p.b)) = ps.map (fun p => (p.g, p.b))) := by
    rw [Hid, List.map_append, HE2.out, e3, HPS.out, saveP_congr HPA.out HA.out.apart, saveP_congr HPD.out HB.out.apart]
    exact saveP_cut (ces ss) k hk
  have hl32 : ps.length ≤ 32 := by
    have h1 := congrArg List.length HPS.out
    rw [List.length_map] at h1
    rw [h1]
    unfold saveP
    exact Nat.le_trans (List.length_filterMap_le _ _) (by simp)
  have hls := (same_at HE.out).1
  rw [List.length_append] at hls
  replace hls : ps2.length + ps3.length ≤ 32 := by omega
  clear o3 e3 b3 hin3 HS2 HO2 HE2
  go_wp2_with (at_builtin; refine app_P rfl _ _ rfl W.heap.size W2.heap.size u2 ps2 ps3 pb3 c3 rfl HO2'.out.own rfl HI3.out (by omega) HB3.out.size ?_)
  intro v4 W3 h4 g4
  have HB4 : Hid (Below W.heap.size W W3) := HB3.out.grown g4 HB3.out.size (fun j hj => (World.ownsRow.lt HO2'.out.own j hj).1)
  have h4' : W3.ownsRow W.heap.size 57 2 v4 (ps2 ++ ps3).length ((ps2 ++ ps3).flatMap cellsP) := by rw [List.length_append, List.flatMap_append]; exact h4
  obtain ⟨a4, c4, hv4, hin4⟩ := pin_of h4' (fun p hp => by
    rcases List.mem_append.1 hp with hp | hp
    · exact ⟨_, own_grown (HO2'.out.byt p hp) g4 fun g hg e => rows_ne (HO2'.out.byt p hp) HO2'.out.own (by decide) g hg e.symm⟩
    · exact ⟨_, own_grown (HO3.out.byt p hp) g4 fun g hg e => rows_ne (HO3.out.byt p hp) HO2'.out.own (by decide) g hg e.symm⟩)
  subst hv4
  obtain ⟨hlq, hat⟩ := same_at HE.out
  clear h4 h4' hls
  generalize ps2 ++ ps3 = qs at *
  rw [hlq]
  have hp0 : 0 < ps.length := by
    rcases Nat.eq_zero_or_pos ps.length with h | h
    · have h1 := HPS.out
      rw [List.eq_nil_of_length_eq_zero h] at h1
      exact absurd h1.symm (saveP_ne HNE.out)
    · exact h
  have hp1 : ¬ ((ps.length : Int) = 0) := by omega
  obtain ⟨pb', c', ec, hin⟩ := (HO.out.later HB4.out).pin
  obtain ⟨rfl, rfl⟩ : pb = pb' ∧ pc = c' := by injection ec with e1 e2 e3; exact ⟨e1, e3⟩
  obtain ⟨bq, oq, rfl⟩ : ∃ b o, a4 = some ⟨b, o, none⟩ := by obtain ⟨b, o, e, -⟩ := hin4.row 0 (by omega); exact ⟨b, o, e⟩
  obtain ⟨bp, op, rfl⟩ : ∃ b o, pb = some ⟨b, o, none⟩ := by obtain ⟨b, o, e, -⟩ := hin.row 0 hp0; exact ⟨b, o, e⟩
  have HIQ := hidMk hin4
  have HIP := hidMk hin
  have HAT := hidMk hat
  have HLQ := hidMk hlq
  have HB5 : Hid (Below w0.heap.size w0 W3) := HBEL.out.trans (HB4.out.mono HBEL.out.size)
  have HL1 := hidMk (fun wr (hb : Below W3.heap.size W3 wr) => len_any wr Ba ta ma 0 (k : Int) _ _ sa ((HA.out.later HB4.out).later hb))
  have HL2 := hidMk (fun wr (hb : Below W3.heap.size W3 wr) => len_any wr Bb tb mb (k : Int) 32 _ _ sb ((HB.out.later HB4.out).later hb))
  have HL3 := hidMk (fun wr (hb : Below W3.heap.size W3 wr) => len_any wr Bx t mp 0 32 _ _ ss ((HX.out.later HB4.out).later hb))
  have HSUM : Hid ((ces sa).length + (ces sb).length = (ces ss).length) := by
    rw [Hid, HPA.out.length_eq, HPD.out.length_eq]
    exact inL_len (ces ss) k hk
  have hm1 := HA.out.cells_few
  have hm2 := HB.out.cells_few
  clear hin4 hin hat hlq ec g4 HE HO2' HO3 HI3 HBW1 HBW2 HB2 HB3
  go_wp2_with fail
  go_loopw [24] (fun i wr => ∃ j : Nat, i = .int .i64 (j : Int) ∧ j ≤ ps.length ∧ Below W3.heap.size W3 wr) (fun i _ => ps.length - (intOf i).toNat)
  case atStart => exact ⟨0, rfl, by omega, Below.refl _ _⟩
  case round =>
    obtain ⟨j, rfl, hj, hbr⟩ := hrel
    have HBR := hidMk hbr
    clear hbr
    by_cases hlt : j < ps.length
    · have hji : (j : Int) < (ps.length : Int) := by omega
      have hq : j < qs.length := by rw [HLQ.out]; exact hlt
      obtain ⟨b1, o1, ea, -, f0, f1⟩ := (HIQ.out.kept HBR.out).row j hq
      cases ea
      obtain ⟨b2, o2, ea, -, g0, g1⟩ := (HIP.out.kept HBR.out).row j hlt
      cases ea
      obtain ⟨z1, z2⟩ := HAT.out j hlt hq
      obtain ⟨qa, qc, hqv, hqb, -⟩ := (HIQ.out.kept HBR.out).byt qs[j] (List.getElem_mem hq)
      obtain ⟨va, vc, hpv, hpb, -⟩ := (HIP.out.kept HBR.out).byt ps[j] (List.getElem_mem hlt)
      have cv1 := fun n => Wr.conv_bytes (wr.drewN n) qa qs[j].b.length qc (Wr.lat qs[j].b) (show Wr.Bytes (wr.drewN n) qa qs[j].b.length (Wr.lat qs[j].b) from hqb)
      have cv2 := fun n => Wr.conv_bytes (wr.drewN n) va ps[j].b.length vc (Wr.lat ps[j].b) (show Wr.Bytes (wr.drewN n) va ps[j].b.length (Wr.lat ps[j].b) from hpb)
      rw [hqv, z2] at f1
      rw [z1] at f0
      rw [hpv] at g1
      rw [z2] at cv1
      clear hqb hpb hqv hpv z1 z2 hq hp0 hp1
      go_wp2_with fail
      go_quiet (fail)
      go_wp2_with fail
      exact ⟨⟨j + 1, by go_num, by omega, below_drewN HBR.out _⟩, by simp [intOf]; omega⟩
    · obtain rfl : j = ps.length := by omega
      go_wp2_with fail
      refine (HL1.out _ HBR.out).mono ?_
      rintro e w5 ⟨rfl, rfl⟩
      go_wp2_with fail
      refine (HL2.out _ HBR.out).mono ?_
      rintro e w6 ⟨rfl, rfl⟩
      go_wp2_with fail
      refine (HL3.out _ HBR.out).mono ?_
      rintro e w7 ⟨rfl, rfl⟩
      go_wp2_with fail
      go_ret
      refine ⟨ret_bool ?_, HB5.out.trans (HBR.out.mono HB5.out.size)⟩
      have := HSUM.out
      rw [← this]
      simp
end Go.Proofs.YtobhccmnlmlapaaGreatDoor
namespace Go.Proofs.YtobhccmnlmlapaaGreatDoor
open Go.RowKit Go.Maps
set_option linter.unusedVariables false
set_option linter.unusedSimpArgs false
set_option maxRecDepth 100000
set_option maxHeartbeats 4000000 in
theorem moves_t1 (w0 W : World) (k t mp Bx : Nat) (ss : List Sh) (hk : k ≤ 32) (hx : PS W Bx t mp 0 32 ss) (hne : ces ss ≠ []) (hbel : Below w0.heap.size w0 W) (ht : ∀ W, Below w0.heap.size w0 W → Vl.Tab W ∧ Wr.Quart W ∧ Wr.Ety W)
    (x0 x2 x3 x4 x6 x7 x8 x9 x10 x11 x12 x13 x14 x15 x16 x17 x18 x19 x20 x21 x22 x23 x24 x25 x26 x27 x28 x29 x30 x31 x32 x33 x34 x35 x36 x37 x38 x39 x40 x41 x42 x43 x44 x45 x46 x47 x48 x49 x50 x51 x52 x53 x54 x55 x56 x57 x58 x59 x60 x61 x62 x63 x64 x65 x66 x67 x68 x69 x70 x71 x72 x73 x74 x75 x76 x77 x78 x79 x80 x81 x82 x83 x84 x85 x86 x87 x88 x89 x90 x91 x92 x93 x94 x95 x96 x97 x98 x99 x100 x101 x102 x103 x104 x105 x106 x107 x108 x109 x110 x111 x112 x113 x114 x115 x116 x117 x118 x119 x120 x121 x122 x123 x124 x125 x126 x127 x128 x129 x130 x131 x132 x133 x134 x135 x136 x137 x138 x139 x140 x141 x142 x143 x144 x145 x146 x147 x148 x149 x150 x151 x152 x153 x154 x155 x156 x157 x158 x159 x160 x161 x162 x163 x164 x165 x166 x167 x168 x169 x170 x171 x172 x173 x174 x175 x176 x177 x178 x179 x180 : Value) :
    Code.wp Tryz.prog (mvPart 18) (bodyPost Tryz.prog Tryz.f4 fun e w' => e = .returned (.bool true) ∧ Below w0.heap.size w0 w') { tmps := List.toArray (x0 :: (.int .i64 (k : Int)) :: x2 :: x3 :: x4 :: (.pointer (some ⟨t, 0, none⟩)) :: x6 :: x7 :: x8 :: x9 :: x10 :: x11 :: x12 :: x13 :: x14 :: x15 :: x16 :: x17 :: x18 :: x19 :: x20 :: x21 :: x22 :: x23 :: x24 :: x25 :: x26 :: x27 :: x28 :: x29 :: x30 :: x31 :: x32 :: x33 :: x34 :: x35 :: x36 :: x37 :: x38 :: x39 :: x40 :: x41 :: x42 :: x43 :: x44 :: x45 :: x46 :: x47 :: x48 :: x49 :: x50 :: x51 :: x52 :: x53 :: x54 :: x55 :: x56 :: x57 :: x58 :: x59 :: x60 :: x61 :: x62 :: x63 :: x64 :: x65 :: x66 :: x67 :: x68 :: x69 :: x70 :: x71 :: x72 :: x73 :: x74 :: x75 :: x76 :: x77 :: x78 :: x79 :: x80 :: x81 :: x82 :: x83 :: x84 :: x85 :: x86 :: x87 :: x88 :: x89 :: x90 :: x91 :: x92 :: x93 :: x94 :: x95 :: x96 :: x97 :: x98 :: x99 :: x100 :: x101 :: x102 :: x103 :: x104 :: x105 :: x106 :: x107 :: x108 :: x109 :: x110 :: x111 :: x112 :: x113 :: x114 :: x115 :: x116 :: x117 :: x118 :: x119 :: x120 :: x121 :: x122 :: x123 :: x124 :: x125 :: x126 :: x127 :: x128 :: x129 :: x130 :: x131 :: x132 :: x133 :: x134 :: x135 :: x136 :: x137 :: x138 :: x139 :: x140 :: x141 :: x142 :: x143 :: x144 :: x145 :: x146 :: x147 :: x148 :: x149 :: x150 :: x151 :: x152 :: x153 :: x154 :: x155 :: x156 :: x157 :: x158 :: x159 :: x160 :: x161 :: x162 :: x163 :: x164 :: x165 :: x166 :: x167 :: x168 :: x169 :: x170 :: x171 :: x172 :: x173 :: x174 :: x175 :: x176 :: x177 :: x178 :: x179 :: x180 :: []), defers := [] } W := by
  have HS1 := hidMk (save_any W Bx t mp 0 32 ss hx (ht W hbel).1 (ht W hbel).2.1)
  have HX := hidMk hx
  have HNE := hidMk hne
  have HBEL := hidMk hbel
  have HT := hidMk ht
  clear hx hne hbel ht
  conv => arg 2; whnf
  go_wp2_with fail
  refine HS1.out.mono ?_
  rintro e W1 ⟨u1, ps, rfl, o1, e1, b1⟩
  obtain ⟨pb, pc, rfl, -⟩ := o1.pin
  have HO1 := hidMk o1
  have HE1 := hidMk e1
  have HB1 := hidMk b1
  have HN1 := hidMk (new_ok 0 (k : Int) W1 (by omega))
  clear o1 e1 b1 HS1
  go_wp2_with fail
  refine HN1.out.mono ?_
  rintro e W2 ⟨ta, ma, rfl, pa, b2⟩
  have HA2 := hidMk pa
  have HB2 := hidMk b2
  have HN2 := hidMk (new_ok (k : Int) 32 W2 (by omega))
  clear pa b2 HN1
  go_wp2_with fail
  refine HN2.out.mono ?_
  rintro e W3 ⟨tb, mb, rfl, pd, b3⟩
  have HD3 := hidMk pd
  have HA3 := hidMk (HA2.out.later b3)
  have HC3 : Hid (Below W1.heap.size W1 W3) := HB2.out.trans (b3.mono HB2.out.size)
  have HZ3 : Hid (Below w0.heap.size w0 W3) := HBEL.out.trans ((HB1.out.trans (HC3.out.mono HB1.out.size)).mono HBEL.out.size)
  have hta : ta < W2.heap.size := HA2.out.own.lt
  have hta1 : W1.heap.size ≤ ta := HA2.out.ge.1
  have htb1 : W2.heap.size ≤ tb := pd.ge.1
  have htb : tb < W3.heap.size := pd.own.lt
  have HRD : Hid (∀ lo hi, Reads lo hi (ofG (ces ss)) ps) := fun lo hi => reads_of (ces ss) ps lo hi HE1.out HX.out.apart (fun c hc => ⟨HX.out.okC c hc, HX.out.good c hc⟩) HX.out.wl
  have HPIN : Hid (∀ V, Below W1.heap.size W1 V → PIn V V.heap.size pb ps) := fun V hV => by
    obtain ⟨pb', c', ec, hin⟩ := (HO1.out.later hV).pin
    injection ec with q1 q2 q3
    rw [q1]; exact hin
  have HL1 := hidMk (load_ok W3 W1.heap.size ta ma 0 (k : Int) [] pb pc (ofG (ces ss)) ps HA3.out (HPIN.out W3 HC3.out) (HRD.out _ _) (fun V hV => ⟨(HT.out V (HZ3.out.trans (hV.mono HZ3.out.size))).1, (HT.out V (HZ3.out.trans (hV.mono HZ3.out.size))).2.1⟩))
  clear pd b3 HN2
  go_wp2_with fail
  refine HL1.out.mono ?_
  rintro e W4 ⟨rfl, ma4, sa, p4, m4, g4, k4⟩
  have HC4 : Hid (Below W1.heap.size W1 W4) := HC3.out.trans (g4.toBelow HC3.out.size (fun i hi => by have e : i = ta := hi; omega))
  have HZ4 : Hid (Below w0.heap.size w0 W4) := HBEL.out.trans ((HB1.out.trans (HC4.out.mono HB1.out.size)).mono HBEL.out.size)
  have HA4 := hidMk p4
  have HM4 := hidMk m4
  have HK4 := hidMk k4
  have HD4 := hidMk (HD3.out.kept g4 (fun i hi e => by have e' : i = ta := e; have := (HD3.out.lt hi).1; omega))
  have HL2 := hidMk (load_ok W4 W2.heap.size tb mb (k : Int) 32 [] pb pc (ofG (ces ss)) ps HD4.out (HPIN.out W4 HC4.out) (HRD.out _ _) (fun V hV => ⟨(HT.out V (HZ4.out.trans (hV.mono HZ4.out.size))).1, (HT.out V (HZ4.out.trans (hV.mono HZ4.out.size))).2.1⟩))
  clear p4 m4 g4 k4 HL1
  go_wp2_with fail
  refine HL2.out.mono ?_
  rintro e W5 ⟨rfl, mb5, sb, p5, m5, g5, k5⟩
  have HC5 : Hid (Below W1.heap.size W1 W5) := HC4.out.trans (g5.toBelow HC4.out.size (fun i hi => by have e : i = tb := hi; omega))
  have HD5 := hidMk p5
  have HM5 := hidMk m5
  have HA5 := hidMk (HA4.out.kept g5 (fun i hi e => by
    have e' : i = tb := e
    rcases HK4.out i hi with h | h <;> omega))
  have HRP := hidMk (ripe_any W5 W1.heap.size ta ma4 0 (k : Int) 1125899906842624 sa HA5.out)
  clear p5 m5 g5 k5 HL2
  go_wp2_with fail
  refine HRP.out.mono ?_
  rintro e W6 ⟨u6, qs, rfl, rc6, e6, b6⟩
  obtain ⟨qa, qc, hu6⟩ := row_form rc6.own
  subst hu6
  have HC6 : Hid (Below W1.heap.size W1 W6) := HC5.out.trans (b6.mono HC5.out.size)
  have HA6 := hidMk (HA5.out.later b6)
  have HD6 := hidMk (HD5.out.later b6)
  have HRC := hidMk rc6
  have HQS : Hid (∀ q ∈ qs, okC 0 (k : Int) q.c ∧ GoodK q.c.key) := fun q hq => by
    have h1 : q.c ∈ srt ((ces sa).filter (ripe 1125899906842624)) := by rw [← e6]; exact List.mem_map_of_mem hq
    have h2 := (List.mem_filter.1 ((srt_perm _).mem_iff.1 h1)).1
    exact ⟨HA6.out.okC _ h2, HA6.out.good _ h2⟩
  have hql : qs.length ≤ 4194304 := by
    have h1 := congrArg List.length e6
    rw [List.length_map, (srt_perm _).length_eq] at h1
    have h2 : ((ces sa).filter (ripe 1125899906842624)).length ≤ (ces sa).length := List.length_filter_le _ _
    have h3 := HA6.out.cells_few
    omega
  clear rc6 e6 b6 HRP HA5 HD5
  go_upto_block 2 with fail
  go_cut [] from 28 (fun wc => Below W6.heap.size W6 wc)
  case rest =>
    apply_assumption
    have HCc : Below W1.heap.size W1 wc := HC6.out.trans (hcut.mono HC6.out.size)
    have HBc : Below W.heap.size W wc := HB1.out.trans (HCc.mono HB1.out.size)
    exact moves_t2 w0 wc k t mp Bx ta ma4 W1.heap.size tb mb5 W2.heap.size ss sa sb pb pc W.heap.size ps hk (HX.out.later HBc) (HA6.out.later hcut) (HD6.out.later hcut) (HM4.out.trans (accP_perm (ces ss) ps 0 (k : Int) HE1.out)) (HM5.out.trans (accP_perm (ces ss) ps (k : Int) 32 HE1.out)) (HO1.out.later HCc) HE1.out HNE.out (HBEL.out.trans (HBc.mono HBEL.out.size)) HT.out _ _ _ _ _ _ _ _ _ _ _ _ _ _ _ _ _ _ _ _ _ _ _ _ _ _ _ _ _ _ _ _ _ _ _ _ _ _ _ _ _ _ _ _ _ _ _ _ _ _ _ _ _ _ _ _ _ _ _ _ _ _ _ _ _ _ _ _ _ _ _ _ _ _ _ _ _ _ _ _ _ _ _ _ _ _ _ _ _ _ _ _ _ _ _ _ _ _ _ _ _ _ _ _ _ _ _ _ _ _ _ _ _ _ _ _ _ _ _ _ _ _ _ _ _ _ _ _ _ _ _ _ _ _ _ _ _ _ _ _ _ _ _ _ _ _ _ _ _ _ _ _ _ _ _ _ _ _ _ _ _ _ _ _ _ _ _ _ _ _ _ _ _ _ _ _
  case first =>
    go_wp2_with fail
    go_loopw [20] (fun i wr => ∃ j : Nat, i = .int .i64 (j : Int) ∧ j ≤ qs.length ∧ Below W6.heap.size W6 wr) (fun i _ => qs.length - (intOf i).toNat)
    case atStart => exact ⟨0, rfl, by omega, Below.refl _ _⟩
    case round =>
      obtain ⟨j, rfl, hj, hbr⟩ := hrel
      have HBR := hidMk hbr
      clear hbr
      by_cases hlt : j < qs.length
      · have hji : (j : Int) < (qs.length : Int) := by omega
        have hrow := own_later HRC.out.own HBR.out
        obtain ⟨g, cap, hg, -, hgl⟩ := hrow.form (by omega)
        obtain ⟨rfl, rfl⟩ : qa = some ⟨g, 0, none⟩ ∧ qc = cap := by injection hg with q1 q2 q3; exact ⟨q1, q3⟩
        have hc0 : wr.cell? ⟨g, j * 4, none⟩ = some (.slice qs[j].ka qs[j].c.key.length qs[j].kc) := by
          have h1 := World.ownsRow.cellAt hrow (j * 4 + 0) (by omega)
          rw [flat_at cellsC 4 (fun _ => rfl) qs j 0 hlt (by omega)] at h1
          exact h1
        obtain ⟨ok1, ok2⟩ := HQS.out qs[j] (List.getElem_mem hlt)
        have HGr : Hid (∀ V, Below W6.heap.size W6 V → Calls Tryz.prog 14 #[.slice qs[j].ka qs[j].c.key.length qs[j].kc] V fun e w' => e = .returned (.int .i64 (grp qs[j].c.key : Int)) ∧ Below V.heap.size V w') := fun V hV => by
          obtain ⟨a', c', e', l', -⟩ := (HRC.out.key qs[j] (List.getElem_mem hlt)).form
          cases e'
          exact groupD_any qs[j].c.key _ _ V (l'.later hV) ok2 (by have := vk_len ok1.1; omega)
        have hgk : ¬ (k : Int) ≤ (grp qs[j].c.key : Int) := by have := ok1.2.2.2; omega
        clear hrow hg ok1 ok2
        go_wp2_with fail
        refine (HGr.out _ HBR.out).mono ?_
        rintro e w7 ⟨rfl, hb7⟩
        have HB7 := hidMk (HBR.out.trans (hb7.mono HBR.out.size))
        clear hb7
        go_wp2_with fail
        exact ⟨⟨j + 1, by go_num, by omega, HB7.out⟩, by simp [intOf]; omega⟩
      · obtain rfl : j = qs.length := by omega
        go_wp2_with fail
        go_meet
        case rel => exact HBR.out
end Go.Proofs.YtobhccmnlmlapaaGreatDoor
