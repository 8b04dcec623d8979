import Derived.Test.YtmeeoamcelkhmaaGreatDoorTbV
import Derived.Test.YtmeeoamcelkhmaaGreatDoorTldB
namespace Go.Proofs.YtmeeoamcelkhmaaGreatDoor
open Go.RowKit Go.Maps
set_option linter.unusedVariables false
set_option linter.unusedSimpArgs false
set_option maxRecDepth 100000
set_option maxHeartbeats 8000000
/-- Rows that are laid out anew, values and all. -/
structure In (w : World) (B : Nat) (v : Value) (qs : List Q) : Prop where
  own : w.ownsRow B 34 2 v qs.length (qs.flatMap cellsR)
  mine : ∀ q ∈ qs, OV w B (.slice q.a q.r.vs.length q.c) q.r.vs
  apart : ∀ q ∈ qs, ∀ y, q.a = some y → some y.block ≠ v.ownBlock
theorem In.more {w w1 w3 w4 : World} {B : Nat} {v v' : Value} {qs : List Q} {q : Q} (h : In w B v qs) (hb1 : Below w.heap.size w w1) (hq : OV w1 w.heap.size (.slice q.a q.r.vs.length q.c) q.r.vs) (hb3 : Below w1.heap.size w1 w3) (hown : w4.ownsRow B 34 2 v' (qs.length + 1) (qs.flatMap cellsR ++ cellsR q)) (hg : w3.grownBy w4 v.ownBlock) (hat : v'.ownBlock = v.ownBlock ∨ v'.ownBlock = some w3.heap.size) (hB : B ≤ w.heap.size) : In w4 B v' (qs ++ [q]) := by
  have hvlt : ∀ g, v.ownBlock = some g → g < w.heap.size := fun g e => (World.ownsRow.lt h.own g e).2
  have hqlt : ∀ y, q.a = some y → w.heap.size ≤ y.block ∧ y.block < w1.heap.size := fun y hy => World.ownsRow.lt hq y.block (by rw [hy]; rfl)
  have hb13 : Below w.heap.size w w3 := hb1.trans (hb3.mono hb1.size)
  have s1 := hb1.size
  have s3 := hb3.size
  refine ⟨?_, fun p hp => ?_, fun p hp y hy e => ?_⟩
  · rw [List.length_append, List.flatMap_append, List.length_singleton]
    simpa using hown
  · rcases List.mem_append.1 hp with hp | hp
    · refine own_grown ((h.mine p hp).later hb13) hg fun g e e2 => ?_
      cases hpa : p.a with
      | none => rw [hpa] at e; cases e
      | some y =>
        rw [hpa] at e
        have : y.block = g := Option.some.inj e
        exact h.apart p hp y hpa (by rw [this]; exact e2)
    · obtain rfl := List.mem_singleton.1 hp
      have hov : OV w4 w.heap.size (.slice p.a p.r.vs.length p.c) p.r.vs := own_grown (hq.later hb3) hg fun g e e2 => by
        have q1 := (World.ownsRow.lt hq g e).1
        have q2 := hvlt g e2.symm
        omega
      exact hov.base hB
  · rcases List.mem_append.1 hp with hp | hp
    · rcases hat with q' | q'
      · exact h.apart p hp y hy (e.trans q')
      · rw [q'] at e
        have q1 := (World.ownsRow.lt (h.mine p hp) y.block (by rw [hy]; rfl)).2
        have := Option.some.inj e
        omega
    · obtain rfl := List.mem_singleton.1 hp
      have q1 := hqlt y hy
      rcases hat with q' | q'
      · have := hvlt y.block (by rw [← q']; exact e.symm)
        omega
      · rw [q'] at e
        have := Option.some.inj e
        omega
theorem t25k (a : Option Addr) (xl c0 t mp ms j : Nat) (ap : Option Addr) (cp : Nat) (ac : Option Addr) (cc : Nat) (hs cs : List Hp) (ss : List Sn) (W0 w : World) (hn : hs.length + cs.length ≤ 1048576) (hsum : lens hs + lens cs ≤ 1048576) (HI : Hid (TInv W0 w t mp ms (.slice ap hs.length cp) (.slice ac cs.length cc) hs cs ss)) (ob : Nat) (kd : Int) (x : Tx) (ra : Option Addr) (rs : List Rw) (rc : Nat) (HOB : Hid (Own w ob 30 5 [.int .i64 kd, .int .i64 x.m, .string x.sn, .int .i64 x.tk, .slice ra rs.length rc])) (HLT : Hid (∀ i, Tb t mp ms ss i → i < ob)) (HXL : Hid (∀ i, lawX (.slice ap hs.length cp) (.slice ac cs.length cc) i → i < ob)) (HLH : Hid (Lh W0 ⟨x, .slice none 0 0, [], rs, ra, rc⟩)) (hrs : lens hs + lens cs + rs.length ≤ 1048576) (k : Nat) (hk : k < hs.length) (HNM : Hid (x = hs[k].x)) (HET : Hid (Ety W0))
    (x1 x2 x9 x10 x11 x12 x13 x14 x15 x16 x17 x18 x19 x20 x21 x22 x23 x24 x25 x26 x27 x28 x29 x30 x31 x32 x33 x34 x35 x36 x37 x38 x39 x40 x41 x42 x43 x44 x45 x46 x47 x48 x49 x50 x51 x52 x53 x54 x55 x56 x57 x58 x59 x60 x61 x62 x63 x64 x65 x66 x67 x68 x69 x70 x71 x72 x73 x74 x75 x76 x77 x78 x79 x80 x81 x82 x83 x84 x85 x86 x87 x88 x89 x90 x91 x92 x93 x94 x95 x96 x97 x98 x99 x100 x101 x102 x103 x104 x105 x106 x107 x108 x109 x110 x111 x112 x113 x114 x115 x116 x117 x118 x119 x120 x121 x122 x123 x124 x125 x126 x127 x128 x129 x130 x131 x132 x133 x134 x135 x136 x137 x138 x139 x140 x141 x142 x143 x144 x145 x146 x147 x148 x149 x150 x151 x152 x153 x154 x155 x156 x157 x158 x159 x160 x161 x162 x163 x164 x165 x166 x167 x168 x169 x170 x171 x172 x173 x174 x175 x176 x177 x178 x179 x180 x181 x182 x183 x184 x185 x186 x187 x188 x189 x190 x191 x192 x193 x194 x195 x196 x197 x198 x199 x200 x201 x202 x203 x204 x205 x206 : Value) (F : Act → World → Prop)
    (HEX : Hid (∀ (hs' cs' : List Hp) (ss' : List Sn) (ap' : Option Addr) (cp' : Nat) (ac' : Option Addr) (cc' : Nat) (w' : World), TInv W0 w' t mp ms (.slice ap' hs'.length cp') (.slice ac' cs'.length cc') hs' cs' ss' → hs'.length + cs'.length ≤ hs.length + cs.length + 1 → lens hs' + lens cs' ≤ lens hs + lens cs + rs.length → ∀ (y7 y8 y9 y10 y11 y12 y13 y14 y15 y16 y17 y18 y19 y20 y21 y22 y23 y24 y25 y29 y30 y31 y32 y33 y34 y35 y36 y37 y38 y39 y40 y41 y42 y43 y44 y45 y46 y47 y48 y49 y50 y51 y52 y53 y54 y55 y56 y57 y58 y59 y60 y61 y62 y63 y64 y65 y66 y67 y68 y69 y70 y71 y72 y73 y74 y75 y76 y77 y78 y79 y80 y81 y82 y83 y84 y85 y86 y87 y88 y89 y90 y91 y92 y93 y94 y95 y96 y97 y98 y99 y100 y101 y102 y103 y104 y105 y106 y107 y108 y109 y110 y111 y112 y113 y114 y115 y116 y117 y118 y119 y120 y121 y122 y123 y124 y125 y126 y127 y128 y129 y130 y131 y132 y133 y134 y135 y136 y137 y138 y139 y140 y141 y142 y143 y144 y145 y146 y147 y148 y149 y150 y151 y152 y153 y154 y155 y156 y157 y158 y159 y160 y161 y162 y163 y164 y165 y166 y167 y168 y169 y170 y171 y172 y173 y174 y175 y176 y177 y178 y179 y180 y181 y182 y183 y184 y185 y186 y187 y188 y189 y190 y191 y192 y193 y194 y195 y196 y197 y198 y199 y200 y201 y202 y203 y204 y205 y206 : Value), F { tmps := List.toArray ((.slice a xl c0) :: (x1) :: (x2) :: (.pointer (some ⟨t, 0, none⟩)) :: (.slice ap' hs'.length cp') :: (.slice ac' cs'.length cc') :: (.int .i64 (j : Int)) :: y7 :: y8 :: y9 :: y10 :: y11 :: y12 :: y13 :: y14 :: y15 :: y16 :: y17 :: y18 :: y19 :: y20 :: y21 :: y22 :: y23 :: y24 :: y25 :: (x26) :: (x27) :: (x28) :: y29 :: y30 :: y31 :: y32 :: y33 :: y34 :: y35 :: y36 :: y37 :: y38 :: y39 :: y40 :: y41 :: y42 :: y43 :: y44 :: y45 :: y46 :: y47 :: y48 :: y49 :: y50 :: y51 :: y52 :: y53 :: y54 :: y55 :: y56 :: y57 :: y58 :: y59 :: y60 :: y61 :: y62 :: y63 :: y64 :: y65 :: y66 :: y67 :: y68 :: y69 :: y70 :: y71 :: y72 :: y73 :: y74 :: y75 :: y76 :: y77 :: y78 :: y79 :: y80 :: y81 :: y82 :: y83 :: y84 :: y85 :: y86 :: y87 :: y88 :: y89 :: y90 :: y91 :: y92 :: y93 :: y94 :: y95 :: y96 :: y97 :: y98 :: y99 :: y100 :: y101 :: y102 :: y103 :: y104 :: y105 :: y106 :: y107 :: y108 :: y109 :: y110 :: y111 :: y112 :: y113 :: y114 :: y115 :: y116 :: y117 :: y118 :: y119 :: y120 :: y121 :: y122 :: y123 :: y124 :: y125 :: y126 :: y127 :: y128 :: y129 :: y130 :: y131 :: y132 :: y133 :: y134 :: y135 :: y136 :: y137 :: y138 :: y139 :: y140 :: y141 :: y142 :: y143 :: y144 :: y145 :: y146 :: y147 :: y148 :: y149 :: y150 :: y151 :: y152 :: y153 :: y154 :: y155 :: y156 :: y157 :: y158 :: y159 :: y160 :: y161 :: y162 :: y163 :: y164 :: y165 :: y166 :: y167 :: y168 :: y169 :: y170 :: y171 :: y172 :: y173 :: y174 :: y175 :: y176 :: y177 :: y178 :: y179 :: y180 :: y181 :: y182 :: y183 :: y184 :: y185 :: y186 :: y187 :: y188 :: y189 :: y190 :: y191 :: y192 :: y193 :: y194 :: y195 :: y196 :: y197 :: y198 :: y199 :: y200 :: y201 :: y202 :: y203 :: y204 :: y205 :: y206 :: []), defers := [] } w')) :
    Code.wp Tryz.prog (stepsPart 25) (onlyN F) { tmps := List.toArray ((.slice a xl c0) :: x1 :: x2 :: (.pointer (some ⟨t, 0, none⟩)) :: (.slice ap hs.length cp) :: (.slice ac cs.length cc) :: (.int .i64 (j : Int)) :: (.pointer (some ⟨ob, 0, none⟩)) :: (.int .i64 (k : Int)) :: x9 :: x10 :: x11 :: x12 :: x13 :: x14 :: x15 :: x16 :: x17 :: x18 :: x19 :: x20 :: x21 :: x22 :: x23 :: x24 :: x25 :: x26 :: x27 :: x28 :: x29 :: x30 :: x31 :: x32 :: x33 :: x34 :: x35 :: x36 :: x37 :: x38 :: x39 :: x40 :: x41 :: x42 :: x43 :: x44 :: x45 :: x46 :: x47 :: x48 :: x49 :: x50 :: x51 :: x52 :: x53 :: x54 :: x55 :: x56 :: x57 :: x58 :: x59 :: x60 :: x61 :: x62 :: x63 :: x64 :: x65 :: x66 :: x67 :: x68 :: x69 :: x70 :: x71 :: x72 :: x73 :: x74 :: x75 :: x76 :: x77 :: x78 :: x79 :: x80 :: x81 :: x82 :: x83 :: x84 :: x85 :: x86 :: x87 :: x88 :: x89 :: x90 :: x91 :: x92 :: x93 :: x94 :: x95 :: x96 :: x97 :: x98 :: x99 :: x100 :: x101 :: x102 :: x103 :: x104 :: x105 :: x106 :: x107 :: x108 :: x109 :: x110 :: x111 :: x112 :: x113 :: x114 :: x115 :: x116 :: x117 :: x118 :: x119 :: x120 :: x121 :: x122 :: x123 :: x124 :: x125 :: x126 :: x127 :: x128 :: x129 :: x130 :: x131 :: x132 :: x133 :: x134 :: x135 :: x136 :: x137 :: x138 :: x139 :: x140 :: x141 :: x142 :: x143 :: x144 :: x145 :: x146 :: x147 :: x148 :: x149 :: x150 :: x151 :: x152 :: x153 :: x154 :: x155 :: x156 :: x157 :: x158 :: x159 :: x160 :: x161 :: x162 :: x163 :: x164 :: x165 :: x166 :: x167 :: x168 :: x169 :: x170 :: x171 :: x172 :: x173 :: x174 :: x175 :: x176 :: x177 :: x178 :: x179 :: x180 :: x181 :: x182 :: x183 :: x184 :: x185 :: x186 :: x187 :: x188 :: x189 :: x190 :: x191 :: x192 :: x193 :: x194 :: x195 :: x196 :: x197 :: x198 :: x199 :: x200 :: x201 :: x202 :: x203 :: x204 :: x205 :: x206 :: []), defers := [] } w := by
  conv => arg 2; whnf
  have o0 : w.cell? ⟨ob, 0, none⟩ = some (.int .i64 kd) := HOB.out.cell 0 (by decide)
  have o1 : w.cell? ⟨ob, 1, none⟩ = some (.int .i64 x.m) := HOB.out.cell 1 (by decide)
  have o2 : w.cell? ⟨ob, 2, none⟩ = some (.string x.sn) := HOB.out.cell 2 (by decide)
  have o3 : w.cell? ⟨ob, 3, none⟩ = some (.int .i64 x.tk) := HOB.out.cell 3 (by decide)
  have o4 : w.cell? ⟨ob, 4, none⟩ = some (.slice ra rs.length rc) := HOB.out.cell 4 (by decide)
  obtain ⟨i0, hi0, hz0, hz1, hz2⟩ := info_parts info30
  have hobl : ob < w.heap.size := HOB.out.lt
  clear o0 o1 o2 o3
  have hrl : rs.length ≤ 1048576 := by omega
  have HW0 : Hid (W0.heap.size ≤ w.heap.size) := HI.out.bel.size
  go_wp2_with fail
  go_loopg [9, 10] rs.length (fun gk v9 i wr => ∃ (m : Nat) (qs : List Q), gk + m = rs.length ∧ i = .int .i64 m ∧ In wr w.heap.size v9 qs ∧ qs.map (·.r) = rs.take m ∧ Below w.heap.size w wr)
  case atStart => exact ⟨0, [], by omega, rfl, ⟨World.ownsRow_nil _ _ _ _, (fun q hq => by cases hq), (fun q hq => by cases hq)⟩, by simp, Below.refl _ _⟩
  case round =>
    obtain ⟨m, qs, hgm, rfl, hin, hqm, hb⟩ := hrel
    obtain ⟨a9, c9, rfl⟩ := row_form hin.own
    have hql : qs.length ≤ m := by
      have := congrArg List.length hqm
      rw [List.length_map, List.length_take] at this
      omega
    have p4 : wr.cell? ⟨ob, 4, none⟩ = some (.slice ra rs.length rc) := cell_later hb o4
    by_cases hm : m < rs.length
    · have hm' : (m : Int) < (rs.length : Int) := by omega
      obtain ⟨b, off, av, cv, rfl, r0, r1, hvl⟩ := (HLH.out.2.1.later HI.out.bel).later hb m hm
      have HC := hidMk (copy_any rs[m].t av rs[m].vs cv wr hvl (HLH.out.2.2.2 _ (List.getElem_mem hm)))
      have HIN := hidMk hin
      have HQM : Hid (qs.map (·.r) ++ [rs[m]] = rs.take (m + 1)) := by unfold Hid; rw [hqm, List.take_succ_eq_append_getElem hm]
      have HB := hidMk hb
      have hsz := hb.size
      clear hin hqm hb hvl
      generalize rs[m] = r at *
      go_wp2_with fail
      refine HC.out.mono ?_
      rintro e w1 ⟨a', c', rfl, hov, hb1⟩
      have HOV := hidMk hov
      have HB1 := hidMk hb1
      have hsz1 := hb1.size
      have HOW : Hid (w1.ownsRow w.heap.size 34 2 (.slice a9 qs.length c9) qs.length (qs.flatMap cellsR)) := own_later HIN.out.own hb1
      clear hov hb1 HC r0 r1 p4
      go_wp2_with (first
        | (at_builtin; refine wpList_append_own_at _ rfl _ _ 28 rfl w.heap.size 34 i0 (.agg #[.int .i64 0, .slice none 0 0]) 2 32 Tryz.underlying28 hi0 hz0 hz1 hz2 rfl (by decide) _ qs.length (qs.flatMap cellsR) rfl (World.ownsRow.alloc (World.ownsRow.alloc HOW.out _) _) ⟨w1.heap.size + 1, 0, none⟩ 1 1 [.int .i64 r.t, .slice a' r.vs.length c'] rfl rfl ?c1 ?c2 ?c3 ?c4 ?c5 ?_))
      case c1 =>
        intro j u hj
        match j, hj with
        | 0, hj => simp at hj; subst hj; simp [Addr.add]
        | 1, hj => simp at hj; subst hj; simp [Addr.add]
      case c2 => intro u hu; simp at hu; rcases hu with rfl | rfl <;> rfl
      case c3 => unfold maxLen; omega
      case c4 => omega
      case c5 => first | omega | (simp; omega)
      intro v9 w4 hown hgrow _ hat
      have HN : Hid (In w4 w.heap.size v9 (qs ++ [⟨r, a', c'⟩])) := HIN.out.more HB1.out (q := ⟨r, a', c'⟩) HOV.out (((bel1 w1 _).alloc (by simp) _)) hown hgrow (hat.imp_right fun e => by simpa using e) hsz
      have HBN : Hid (Below w.heap.size w w4) := by
        have hb3 : Below w.heap.size w _ := ((HB.out.trans (HB1.out.mono hsz)).alloc (Nat.le_trans hsz hsz1) (.cells #[.int .i64 r.t, .slice a' r.vs.length c'] 34)).alloc (by simp; omega) (.cells #[.int .i64 r.t, .slice a' r.vs.length c'] 34)
        refine hb3.grown hgrow (by simp; omega) (fun k ek => (World.ownsRow.lt HIN.out.own k ek).1)
      have HQ2 : Hid ((qs ++ [(⟨r, a', c'⟩ : Q)]).map (·.r) = rs.take (m + 1)) := by unfold Hid; rw [List.map_append]; exact HQM.out
      obtain ⟨a9', c9', rfl⟩ := row_form hown
      clear hown hgrow hat
      go_wp2_with fail
      go_roundg (gk - 1)
      case measure => omega
      case rel => exact ⟨m + 1, qs ++ [⟨r, a', c'⟩], by omega, by go_num, HN.out, HQ2.out, HBN.out⟩
    · have hm' : ¬ (m : Int) < (rs.length : Int) := by omega
      have hqr : qs.map (·.r) = rs := by rw [hqm, List.take_of_length_le (by omega)]
      have hqs : qs.length = rs.length := by have := congrArg List.length hqr; rwa [List.length_map] at this
      obtain ⟨a8, c8, e8, hrl8⟩ := own_rlies hin.own (fun q hq => by
        obtain ⟨a4, c4, e4, hl4, -⟩ := (hin.mine q hq).form
        injection e4 with e5
        rw [e5]; exact hl4)
      injection e8 with e81 _ e82
      subst e81; subst e82
      rw [hqr] at hrl8
      have HRL := hidMk hrl8
      have HB := hidMk hb
      have HWR0 : Hid (Wr wr w.heap.size wr.heap.size (.slice a9 qs.length c9) qs) := Wr.of hin.own hin.mine hin.apart
      have HVL : Hid (∀ q ∈ qs, q.r.vs.length ≤ 4398046511104) := fun q hq => HLH.out.2.2.2 q.r (hqr ▸ List.mem_map.2 ⟨q, hq, rfl⟩)
      have HOBr : Hid (Own wr ob 30 5 [.int .i64 kd, .int .i64 x.m, .string x.sn, .int .i64 x.tk, .slice ra rs.length rc]) := Own.later (HOB.out) hb
      have q1 : wr.cell? ⟨ob, 1, none⟩ = some (.int .i64 x.m) := HOBr.out.cell 1 (by decide)
      have q2 : wr.cell? ⟨ob, 2, none⟩ = some (.string x.sn) := HOBr.out.cell 2 (by decide)
      have q3 : wr.cell? ⟨ob, 3, none⟩ = some (.int .i64 x.tk) := HOBr.out.cell 3 (by decide)
      have hszr := hb.size
      have HQS := hidMk hqs
      have hq2 : qs.length ≤ 1048576 := by omega
      clear hin hqm hb hrl8 hqr hqs
      have hkz : (k : Int) ≥ 0 := by omega
      have hkd : decide ((k : Int) ≥ 0) = true := decide_eq_true hkz
      have hkn : ¬ (k : Int) < 0 := by omega
      have hkd2 : decide ((k : Int) < 0) = false := decide_eq_false hkn
      have HC := hidMk (prepare_old wr _ t mp ms _ hs ss x (.slice a9 qs.length c9) (HI.out.later HB.out).pt HLH.out.1 (by rw [HNM.out]; exact List.mem_map.2 ⟨_, List.getElem_mem hk, rfl⟩))
      unfold vv at HC
      go_wp2_with fail
      refine HC.out.mono ?_
      rintro e w2 ⟨rfl, hb2⟩
      have HT := hidMk (told_errno 6 w2 (HET.out.later ((HI.out.bel.trans (HB.out.mono HI.out.bel.size)).trans (hb2.mono (Nat.le_trans HW0.out hszr)))))
      have HB2 := hidMk (HB.out.trans (hb2.mono hszr))
      have HWR2 := hidMk (HWR0.out.later hb2)
      clear hb2 HC q1 q2 q3 o4
      go_wp2_with fail
      refine HT.out.mono ?_
      rintro e w3 ⟨rfl, hb3⟩
      have HWR := hidMk (HWR2.out.later hb3)
      have HB3 := hidMk (HB2.out.trans (hb3.mono HB2.out.size))
      clear hb3 HWR2 HB2 HT HWR0 HB HOBr
      go_wp2_with fail
      generalize hH1 : wr.heap.size = H1 at *
      clear hm hgm hql p4 hm'
      go_loopg [14] qs.length (fun gk i wx => ∃ m : Nat, gk + m = qs.length ∧ i = .int .i64 m ∧ Wr wx w.heap.size H1 (.slice a9 qs.length c9) qs ∧ Gs (fun i => w.heap.size ≤ i ∧ i < H1) w3 wx)
      case atStart => exact ⟨0, by omega, rfl, HWR.out, Gs.refl _ _⟩
      case round =>
        obtain ⟨m, hgm, rfl, hwr, hgs⟩ := hrel
        by_cases hm : m < qs.length
        · have hm' : (m : Int) < (qs.length : Int) := by omega
          have HW1 := hidMk hwr
          have HG1 := hidMk hgs
          obtain ⟨O, eO, -⟩ := hwr.row m hm
          subst eO
          clear hwr hgs
          go_wp2_with fail
          go_loopg [15] qs[m].r.vs.length (fun gk2 i wr2 => ∃ v : Nat, gk2 + v = qs[m].r.vs.length ∧ i = .int .i64 v ∧ Wr wr2 w.heap.size H1 (.slice (some ⟨O, 0, none⟩) qs.length c9) qs ∧ Gs (fun i => w.heap.size ≤ i ∧ i < H1) w3 wr2)
          case atStart => exact ⟨0, by omega, rfl, HW1.out, HG1.out⟩
          case round =>
            obtain ⟨v, hgv, rfl, hwr2, hgs2⟩ := hrel
            have hvl : qs[m].r.vs.length ≤ 4398046511104 := HVL.out _ (List.getElem_mem hm)
            obtain ⟨g, eg, hOB, hOH, ⟨ut, ct⟩, c1, ft⟩ := hwr2.row m hm
            have eg1 : O = g := by have := Option.some.inj eg; injection this
            subst eg1
            by_cases hv : v < qs[m].r.vs.length
            · have hv' : (v : Int) < (qs[m].r.vs.length : Int) := by omega
              have hmem : qs[m] ∈ qs := List.getElem_mem hm
              obtain ⟨gv, ev, hgB, hgH, hcell⟩ := hwr2.val hmem v hv
              obtain ⟨⟨u0, k0⟩, f0⟩ := hcell 0 (by decide)
              obtain ⟨⟨u1, k1⟩, f1⟩ := hcell 1 (by decide)
              obtain ⟨⟨u2, k2⟩, f2⟩ := hcell 2 (by decide)
              rw [Nat.add_zero] at k0 f0
              have HW3 := hidMk (((hwr2.put hmem ev (v * 3) (.int .i64 96)).put hmem ev (v * 3 + 1) (.int .i64 0)).put hmem ev (v * 3 + 2) (.string ⟨#[]⟩))
              have HG3 := hidMk (((hgs2.set gv (v * 3) (.int .i64 96) ⟨hgB, hgH⟩).set gv (v * 3 + 1) (.int .i64 0) ⟨hgB, hgH⟩).set gv (v * 3 + 2) (.string ⟨#[]⟩) ⟨hgB, hgH⟩)
              rw [ev] at c1
              clear hwr2 hgs2 hcell hmem ev eg hOB hOH hgB hgH ct ft
              generalize qs[m].r.vs.length = nv at *
              generalize qs[m].c = cv at *
              go_wp2_with fail
              go_roundg (gk - 1)
              case measure => omega
              case rel => exact ⟨v + 1, by omega, by go_num, HW3.out, HG3.out⟩
            · have hv' : ¬ (v : Int) < (qs[m].r.vs.length : Int) := by omega
              have HW3 := hidMk (hwr2.time rfl m (.int .i64 (-5)))
              have HG3 := hidMk (hgs2.set O (m * 2) (.int .i64 (-5)) ⟨hOB, hOH⟩)
              clear hwr2 hgs2 eg hOB hOH
              generalize qs[m].r.vs.length = nv at *
              generalize qs[m].a = av at *
              generalize qs[m].c = cv at *
              go_wp2_with fail
              go_roundg (qs.length - m - 1)
              case measure => omega
              case rel => exact ⟨m + 1, by omega, by go_num, HW3.out, HG3.out⟩
        · have hm' : ¬ (m : Int) < (qs.length : Int) := by omega
          have HE := hidMk (HEX.out hs cs ss ap cp ac cc wr (HI.out.later (((Gs.below HB3.out).trans hgs).toBelow (Nat.le_refl _) fun i s => s.1)) (by omega) (by omega))
          clear hwr hgs
          go_wp2_with fail
          exact HE.out _ _ _ _ _ _ _ _ _ _ _ _ _ _ _ _ _ _ _ _ _ _ _ _ _ _ _ _ _ _ _ _ _ _ _ _ _ _ _ _ _ _ _ _ _ _ _ _ _ _ _ _ _ _ _ _ _ _ _ _ _ _ _ _ _ _ _ _ _ _ _ _ _ _ _ _ _ _ _ _ _ _ _ _ _ _ _ _ _ _ _ _ _ _ _ _ _ _ _ _ _ _ _ _ _ _ _ _ _ _ _ _ _ _ _ _ _ _ _ _ _ _ _ _ _ _ _ _ _ _ _ _ _ _ _ _ _ _ _ _ _ _ _ _ _ _ _ _ _ _ _ _ _ _ _ _ _ _ _ _ _ _ _ _ _ _ _ _ _ _ _ _ _ _ _ _ _ _ _ _ _ _ _ _ _ _ _ _ _ _ _ _ _ _ _ _ _
end Go.Proofs.YtmeeoamcelkhmaaGreatDoor
