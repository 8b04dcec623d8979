import Derived.Test.YtmeeoamcelkhmaaGreatDoorTbU
namespace Go.Proofs.YtmeeoamcelkhmaaGreatDoor
open Go.RowKit Go.Maps
set_option linter.unusedVariables false
set_option linter.unusedSimpArgs false
set_option maxRecDepth 100000
set_option maxHeartbeats 8000000
theorem RLies.later0 {w wx : World} {a : Option Addr} {rs : List Rw} (h : RLies w a rs) (hb : Below w.heap.size w wx) : RLies wx a rs := h.later hb
theorem t12 (a : Option Addr) (xl c0 t mp ms j : Nat) (ap : Option Addr) (cp : Nat) (ac : Option Addr) (cc : Nat) (hs cs : List Hp) (ss : List Sn) (W0 w : World) (hn : hs.length + cs.length ≤ 1048576) (hsum : lens hs + lens cs ≤ 1048576) (HI : Hid (TInv W0 w t mp ms (.slice ap hs.length cp) (.slice ac cs.length cc) hs cs ss)) (ob : Nat) (kk kd : Int) (x : Tx) (ra : Option Addr) (rs : List Rw) (rc : Nat) (HOB : Hid (Own w ob 30 5 [.int .i64 kd, .int .i64 x.m, .string x.sn, .int .i64 x.tk, .slice ra rs.length rc])) (HLT : Hid (∀ i, Tb t mp ms ss i → i < ob)) (HXL : Hid (∀ i, lawX (.slice ap hs.length cp) (.slice ac cs.length cc) i → i < ob)) (HLH : Hid (Lh W0 ⟨x, .slice none 0 0, [], rs, ra, rc⟩)) (hrs : lens hs + lens cs + rs.length ≤ 1048576)
    (x1 x2 x9 x10 x11 x12 x13 x14 x15 x16 x17 x18 x19 x20 x21 x22 x23 x24 x25 x26 x27 x28 x29 x30 x31 x32 x33 x34 x35 x36 x37 x38 x39 x40 x41 x42 x43 x44 x45 x46 x47 x48 x49 x50 x51 x52 x53 x54 x55 x56 x57 x58 x59 x60 x61 x62 x63 x64 x65 x66 x67 x68 x69 x70 x71 x72 x73 x74 x75 x76 x77 x78 x79 x80 x81 x82 x83 x84 x85 x86 x87 x88 x89 x90 x91 x92 x93 x94 x95 x96 x97 x98 x99 x100 x101 x102 x103 x104 x105 x106 x107 x108 x109 x110 x111 x112 x113 x114 x115 x116 x117 x118 x119 x120 x121 x122 x123 x124 x125 x126 x127 x128 x129 x130 x131 x132 x133 x134 x135 x136 x137 x138 x139 x140 x141 x142 x143 x144 x145 x146 x147 x148 x149 x150 x151 x152 x153 x154 x155 x156 x157 x158 x159 x160 x161 x162 x163 x164 x165 x166 x167 x168 x169 x170 x171 x172 x173 x174 x175 x176 x177 x178 x179 x180 x181 x182 x183 x184 x185 x186 x187 x188 x189 x190 x191 x192 x193 x194 x195 x196 x197 x198 x199 x200 x201 x202 x203 x204 x205 x206 : Value) (F : Act → World → Prop)
    (HEX : Hid (∀ (hs' cs' : List Hp) (ss' : List Sn) (ap' : Option Addr) (cp' : Nat) (ac' : Option Addr) (cc' : Nat) (w' : World), TInv W0 w' t mp ms (.slice ap' hs'.length cp') (.slice ac' cs'.length cc') hs' cs' ss' → hs'.length + cs'.length ≤ hs.length + cs.length + 1 → lens hs' + lens cs' ≤ lens hs + lens cs + rs.length → ∀ (y7 y8 y9 y10 y11 y12 y13 y14 y15 y16 y17 y18 y19 y20 y21 y22 y23 y24 y25 y29 y30 y31 y32 y33 y34 y35 y36 y37 y38 y39 y40 y41 y42 y43 y44 y45 y46 y47 y48 y49 y50 y51 y52 y53 y54 y55 y56 y57 y58 y59 y60 y61 y62 y63 y64 y65 y66 y67 y68 y69 y70 y71 y72 y73 y74 y75 y76 y77 y78 y79 y80 y81 y82 y83 y84 y85 y86 y87 y88 y89 y90 y91 y92 y93 y94 y95 y96 y97 y98 y99 y100 y101 y102 y103 y104 y105 y106 y107 y108 y109 y110 y111 y112 y113 y114 y115 y116 y117 y118 y119 y120 y121 y122 y123 y124 y125 y126 y127 y128 y129 y130 y131 y132 y133 y134 y135 y136 y137 y138 y139 y140 y141 y142 y143 y144 y145 y146 y147 y148 y149 y150 y151 y152 y153 y154 y155 y156 y157 y158 y159 y160 y161 y162 y163 y164 y165 y166 y167 y168 y169 y170 y171 y172 y173 y174 y175 y176 y177 y178 y179 y180 y181 y182 y183 y184 y185 y186 y187 y188 y189 y190 y191 y192 y193 y194 y195 y196 y197 y198 y199 y200 y201 y202 y203 y204 y205 y206 : Value), F { tmps := List.toArray ((.slice a xl c0) :: (x1) :: (x2) :: (.pointer (some ⟨t, 0, none⟩)) :: (.slice ap' hs'.length cp') :: (.slice ac' cs'.length cc') :: (.int .i64 (j : Int)) :: y7 :: y8 :: y9 :: y10 :: y11 :: y12 :: y13 :: y14 :: y15 :: y16 :: y17 :: y18 :: y19 :: y20 :: y21 :: y22 :: y23 :: y24 :: y25 :: (x26) :: (x27) :: (x28) :: y29 :: y30 :: y31 :: y32 :: y33 :: y34 :: y35 :: y36 :: y37 :: y38 :: y39 :: y40 :: y41 :: y42 :: y43 :: y44 :: y45 :: y46 :: y47 :: y48 :: y49 :: y50 :: y51 :: y52 :: y53 :: y54 :: y55 :: y56 :: y57 :: y58 :: y59 :: y60 :: y61 :: y62 :: y63 :: y64 :: y65 :: y66 :: y67 :: y68 :: y69 :: y70 :: y71 :: y72 :: y73 :: y74 :: y75 :: y76 :: y77 :: y78 :: y79 :: y80 :: y81 :: y82 :: y83 :: y84 :: y85 :: y86 :: y87 :: y88 :: y89 :: y90 :: y91 :: y92 :: y93 :: y94 :: y95 :: y96 :: y97 :: y98 :: y99 :: y100 :: y101 :: y102 :: y103 :: y104 :: y105 :: y106 :: y107 :: y108 :: y109 :: y110 :: y111 :: y112 :: y113 :: y114 :: y115 :: y116 :: y117 :: y118 :: y119 :: y120 :: y121 :: y122 :: y123 :: y124 :: y125 :: y126 :: y127 :: y128 :: y129 :: y130 :: y131 :: y132 :: y133 :: y134 :: y135 :: y136 :: y137 :: y138 :: y139 :: y140 :: y141 :: y142 :: y143 :: y144 :: y145 :: y146 :: y147 :: y148 :: y149 :: y150 :: y151 :: y152 :: y153 :: y154 :: y155 :: y156 :: y157 :: y158 :: y159 :: y160 :: y161 :: y162 :: y163 :: y164 :: y165 :: y166 :: y167 :: y168 :: y169 :: y170 :: y171 :: y172 :: y173 :: y174 :: y175 :: y176 :: y177 :: y178 :: y179 :: y180 :: y181 :: y182 :: y183 :: y184 :: y185 :: y186 :: y187 :: y188 :: y189 :: y190 :: y191 :: y192 :: y193 :: y194 :: y195 :: y196 :: y197 :: y198 :: y199 :: y200 :: y201 :: y202 :: y203 :: y204 :: y205 :: y206 :: []), defers := [] } w')) :
    Code.wp Tryz.prog (stepsPart 12) (onlyN F) { tmps := List.toArray ((.slice a xl c0) :: x1 :: x2 :: (.pointer (some ⟨t, 0, none⟩)) :: (.slice ap hs.length cp) :: (.slice ac cs.length cc) :: (.int .i64 (j : Int)) :: (.pointer (some ⟨ob, 0, none⟩)) :: (.int .i64 kk) :: x9 :: x10 :: x11 :: x12 :: x13 :: x14 :: x15 :: x16 :: x17 :: x18 :: x19 :: x20 :: x21 :: x22 :: x23 :: x24 :: x25 :: x26 :: x27 :: x28 :: x29 :: x30 :: x31 :: x32 :: x33 :: x34 :: x35 :: x36 :: x37 :: x38 :: x39 :: x40 :: x41 :: x42 :: x43 :: x44 :: x45 :: x46 :: x47 :: x48 :: x49 :: x50 :: x51 :: x52 :: x53 :: x54 :: x55 :: x56 :: x57 :: x58 :: x59 :: x60 :: x61 :: x62 :: x63 :: x64 :: x65 :: x66 :: x67 :: x68 :: x69 :: x70 :: x71 :: x72 :: x73 :: x74 :: x75 :: x76 :: x77 :: x78 :: x79 :: x80 :: x81 :: x82 :: x83 :: x84 :: x85 :: x86 :: x87 :: x88 :: x89 :: x90 :: x91 :: x92 :: x93 :: x94 :: x95 :: x96 :: x97 :: x98 :: x99 :: x100 :: x101 :: x102 :: x103 :: x104 :: x105 :: x106 :: x107 :: x108 :: x109 :: x110 :: x111 :: x112 :: x113 :: x114 :: x115 :: x116 :: x117 :: x118 :: x119 :: x120 :: x121 :: x122 :: x123 :: x124 :: x125 :: x126 :: x127 :: x128 :: x129 :: x130 :: x131 :: x132 :: x133 :: x134 :: x135 :: x136 :: x137 :: x138 :: x139 :: x140 :: x141 :: x142 :: x143 :: x144 :: x145 :: x146 :: x147 :: x148 :: x149 :: x150 :: x151 :: x152 :: x153 :: x154 :: x155 :: x156 :: x157 :: x158 :: x159 :: x160 :: x161 :: x162 :: x163 :: x164 :: x165 :: x166 :: x167 :: x168 :: x169 :: x170 :: x171 :: x172 :: x173 :: x174 :: x175 :: x176 :: x177 :: x178 :: x179 :: x180 :: x181 :: x182 :: x183 :: x184 :: x185 :: x186 :: x187 :: x188 :: x189 :: x190 :: x191 :: x192 :: x193 :: x194 :: x195 :: x196 :: x197 :: x198 :: x199 :: x200 :: x201 :: x202 :: x203 :: x204 :: x205 :: x206 :: []), defers := [] } w := by
  conv => arg 2; whnf
  have o0 : w.cell? ⟨ob, 0, none⟩ = some (.int .i64 kd) := HOB.out.cell 0 (by decide)
  have o1 : w.cell? ⟨ob, 1, none⟩ = some (.int .i64 x.m) := HOB.out.cell 1 (by decide)
  have o2 : w.cell? ⟨ob, 2, none⟩ = some (.string x.sn) := HOB.out.cell 2 (by decide)
  have o3 : w.cell? ⟨ob, 3, none⟩ = some (.int .i64 x.tk) := HOB.out.cell 3 (by decide)
  have o4 : w.cell? ⟨ob, 4, none⟩ = some (.slice ra rs.length rc) := HOB.out.cell 4 (by decide)
  have hsq := (HI.out.sn x.sn).length_eq
  rw [List.length_map] at hsq
  have hsr := seenR_lens cs x.sn
  have hvs : ∀ r ∈ seenR cs x.sn, r.vs.length ≤ 4398046511104 := fun r hr => by
    unfold seenR at hr
    obtain ⟨p, hp, hr⟩ := List.mem_flatMap.1 hr
    split at hr
    · exact (HI.out.law p (List.mem_append_right _ hp)).2.2.2 r hr
    · cases hr
  have HVS := hidMk hvs
  have HC := hidMk (rows_any w _ t mp ms _ hs ss x.sn HI.out.pt HLH.out.1.2.1 (by omega) (fun q hq => hvs q.r ((HI.out.sn x.sn).mem_iff.1 (List.mem_map.2 ⟨q, hq, rfl⟩))))
  have HSR : Hid ((seenR cs x.sn).length ≤ 1048576) := by unfold Hid; omega
  clear hvs hsq hsr
  go_wp2_with fail
  refine HC.out.mono ?_
  rintro e w1 ⟨O, ps, rfl, hd, hpm, has, hb⟩
  have HI1 := hidMk (HI.out.later hb)
  have p2 : w1.cell? ⟨ob, 2, none⟩ = some (.string x.sn) := cell_later hb o2
  have HS := hidMk (seen_any w1 _ (.slice ac cs.length cc) cs x.sn HI1.out.cl (by omega) (fun h hh => ⟨(HI1.out.law h (List.mem_append_right _ hh)).2.1.later0 HI1.out.bel, (HI1.out.law h (List.mem_append_right _ hh)).2.2.1, (HI1.out.law h (List.mem_append_right _ hh)).2.2.2⟩) (Nat.le_trans HSR.out (by omega)))
  have HD := hidMk hd
  have HPM := hidMk (hpm.trans (HI.out.sn x.sn))
  have HAS := hidMk has
  have HB := hidMk hb
  clear hd hpm has hb o0 o1 o2 o3 o4 HC
  go_wp2_with fail
  refine HS.out.mono ?_
  rintro e w2 ⟨a2, c2, qs2, rfl, hr2, hp2, ha2, hb2⟩
  have heq : qs2 = ps.map (·.r) := asc_unique (hp2.trans HPM.out.symm) ha2 HAS.out
  subst heq
  have hpl : ps.length ≤ 1048576 := by have := HPM.out.length_eq; rw [List.length_map] at this; have := HSR.out; omega
  have HWR0 := hidMk (Wr.of HD.out.own HD.out.mine (fun q hq y hy e => HD.out.apart q hq y hy (Option.some.inj e)))
  obtain ⟨a3, c3, e3, hr3⟩ := own_rlies (own_later HD.out.own hb2) (fun q hq => by
    obtain ⟨a4, c4, e4, hl4, -⟩ := (HD.out.mine q hq).form
    injection e4 with e5
    rw [e5]; exact hl4.later hb2)
  injection e3 with e4 e5 e6
  subst e4
  have HM := hidMk (sameRows_any (ps.map (·.r)) (some ⟨O, 0, none⟩) ps.length a2 c2 w2 hr3 hr2 (by rw [List.length_map]; omega) (fun r hr => HVS.out r (HPM.out.mem_iff.1 hr)))
  rw [List.length_map] at HM
  have HB2 := hidMk (HB.out.trans (hb2.mono HB.out.size))
  have HWR2 := hidMk (HWR0.out.later hb2)
  have HVL : Hid (∀ q ∈ ps, q.r.vs.length ≤ 4398046511104) := fun q hq => HVS.out q.r (HPM.out.mem_iff.1 (List.mem_map.2 ⟨q, hq, rfl⟩))
  clear hr2 hp2 ha2 hb2 HS HD HPM HAS HWR0 hr3 e5 e6 HI1 HVS p2
  rw [List.length_map]
  go_wp2_with fail
  refine HM.out.mono ?_
  rintro e w3 ⟨rfl, hb3⟩
  have HWR := hidMk (HWR2.out.later hb3)
  have HB3 := hidMk (HB2.out.trans (hb3.mono HB2.out.size))
  clear hb3 HWR2 HB2 HM HB
  generalize w1.heap.size = H1 at *
  go_wp2_with fail
  go_loopg [21] ps.length (fun gk i wr => ∃ m : Nat, gk + m = ps.length ∧ i = .int .i64 m ∧ Wr wr w.heap.size H1 (.slice (some ⟨O, 0, none⟩) ps.length ps.length) ps ∧ Gs (fun i => w.heap.size ≤ i ∧ i < H1) w3 wr)
  case atStart => exact ⟨0, by omega, rfl, HWR.out, Gs.refl _ _⟩
  case round =>
    obtain ⟨m, hgm, rfl, hwr, hgs⟩ := hrel
    by_cases hm : m < ps.length
    · have hm' : (m : Int) < (ps.length : Int) := by omega
      have HW1 := hidMk hwr
      have HG1 := hidMk hgs
      clear hwr hgs
      go_wp2_with fail
      go_loopg [22] ps[m].r.vs.length (fun gk2 i wr2 => ∃ v : Nat, gk2 + v = ps[m].r.vs.length ∧ i = .int .i64 v ∧ Wr wr2 w.heap.size H1 (.slice (some ⟨O, 0, none⟩) ps.length ps.length) ps ∧ Gs (fun i => w.heap.size ≤ i ∧ i < H1) w3 wr2)
      case atStart => exact ⟨0, by omega, rfl, HW1.out, HG1.out⟩
      case round =>
        obtain ⟨v, hgv, rfl, hwr2, hgs2⟩ := hrel
        have hvl : ps[m].r.vs.length ≤ 4398046511104 := HVL.out _ (List.getElem_mem hm)
        obtain ⟨g, eg, hOB, hOH, ⟨ut, ct⟩, c1, ft⟩ := hwr2.row m hm
        have eg1 : O = g := by have := Option.some.inj eg; injection this
        subst eg1
        by_cases hv : v < ps[m].r.vs.length
        · have hv' : (v : Int) < (ps[m].r.vs.length : Int) := by omega
          have hmem : ps[m] ∈ ps := List.getElem_mem hm
          obtain ⟨gv, ev, hgB, hgH, hcell⟩ := hwr2.val hmem v hv
          obtain ⟨⟨u0, k0⟩, f0⟩ := hcell 0 (by decide)
          obtain ⟨⟨u1, k1⟩, f1⟩ := hcell 1 (by decide)
          obtain ⟨⟨u2, k2⟩, f2⟩ := hcell 2 (by decide)
          rw [Nat.add_zero] at k0 f0
          have HW3 := hidMk (((hwr2.put hmem ev (v * 3) (.int .i64 95)).put hmem ev (v * 3 + 1) (.int .i64 0)).put hmem ev (v * 3 + 2) (.string ⟨#[]⟩))
          have HG3 := hidMk (((hgs2.set gv (v * 3) (.int .i64 95) ⟨hgB, hgH⟩).set gv (v * 3 + 1) (.int .i64 0) ⟨hgB, hgH⟩).set gv (v * 3 + 2) (.string ⟨#[]⟩) ⟨hgB, hgH⟩)
          rw [ev] at c1
          clear hwr2 hgs2 hcell hmem ev eg hOB hOH hgB hgH ct ft
          generalize ps[m].r.vs.length = nv at *
          generalize ps[m].c = cv at *
          go_wp2_with fail
          go_roundg (gk - 1)
          case measure => omega
          case rel => exact ⟨v + 1, by omega, by go_num, HW3.out, HG3.out⟩
        · have hv' : ¬ (v : Int) < (ps[m].r.vs.length : Int) := by omega
          have HW3 := hidMk hwr2
          have HG3 := hidMk hgs2
          clear hwr2 hgs2 eg hOB hOH ct ft
          generalize ps[m].r.vs.length = nv at *
          generalize ps[m].a = av at *
          generalize ps[m].c = cv at *
          go_wp2_with fail
          go_roundg (ps.length - m - 1)
          case measure => omega
          case rel => exact ⟨m + 1, by omega, by go_num, HW3.out, HG3.out⟩
    · have hm' : ¬ (m : Int) < (ps.length : Int) := by omega
      have HE := hidMk (HEX.out hs cs ss ap cp ac cc wr (HI.out.later (((Gs.below HB3.out).trans hgs).toBelow (Nat.le_refl _) fun i s => s.1)) (by omega) (by omega))
      clear hwr hgs
      go_wp2_with fail
      exact HE.out _ _ _ _ _ _ _ _ _ _ _ _ _ _ _ _ _ _ _ _ _ _ _ _ _ _ _ _ _ _ _ _ _ _ _ _ _ _ _ _ _ _ _ _ _ _ _ _ _ _ _ _ _ _ _ _ _ _ _ _ _ _ _ _ _ _ _ _ _ _ _ _ _ _ _ _ _ _ _ _ _ _ _ _ _ _ _ _ _ _ _ _ _ _ _ _ _ _ _ _ _ _ _ _ _ _ _ _ _ _ _ _ _ _ _ _ _ _ _ _ _ _ _ _ _ _ _ _ _ _ _ _ _ _ _ _ _ _ _ _ _ _ _ _ _ _ _ _ _ _ _ _ _ _ _ _ _ _ _ _ _ _ _ _ _ _ _ _ _ _ _ _ _ _ _ _ _ _ _ _ _ _ _ _ _ _ _ _ _ _ _ _ _ _ _ _ _
end Go.Proofs.YtmeeoamcelkhmaaGreatDoor
