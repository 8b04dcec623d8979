import Derived.Test.YtpghfopbnicpmaaDoorGuC
namespace Go.Proofs.YtpghfopbnicpmaaDoor
open Go.RowKit
set_option linter.unusedVariables false
set_option linter.unusedSimpArgs false
set_option maxRecDepth 100000
set_option maxHeartbeats 8000000
theorem t22 (a : Option Addr) (xl c0 N g b c d p q cp cq j : Nat) (tm mk : Int) (es : List En) (W0 w : World) (o : Og) (v : Bool) (B : Nat) (x14v x16v : Value) (HET : Hid (Ety w)) (HA1 : Hid (Ans B w o.out x14v)) (HA2 : Hid (Ans B w o.out x16v)) (HM : Hid (SMem w W0 g b c d p q cp cq N o.es o.tm o.mq)) (HVL : Hid (∀ r, o.out = some r → r.vs.length ≤ 4398046511104))
    (x2 x3 x4 x6 x7 x10 x13 x18 x19 x20 x21 x22 x23 x24 x25 x26 x27 x28 x29 x30 x31 x32 x33 x34 x35 x36 x37 x38 x39 x40 x41 x42 x43 x44 x45 x46 x47 x48 x49 x50 x51 x52 x53 x54 x55 x56 x57 x58 x59 x60 x61 x62 x63 x64 x65 x66 x67 x68 x69 x70 x71 x72 x73 x74 x75 x76 x77 x78 x79 x80 x81 x82 x83 x84 x85 x86 x87 x88 x89 x90 x91 x92 x93 x94 x95 x96 x97 x98 x99 x100 x101 x102 x103 x104 x105 x106 x107 x108 x109 x110 x111 x112 x113 x114 x115 x116 x117 x118 x119 x120 x121 x122 x123 x124 x125 x126 x127 x128 x129 x130 x131 x132 x133 x134 x135 x136 x137 x138 x139 x140 x141 x142 x143 x144 x145 x146 x147 x148 x149 x150 x151 x152 x153 x154 x155 x156 x157 x158 x159 x160 x161 x162 x163 x164 x165 x166 x167 x168 x169 x170 x171 x172 x173 x174 x175 x176 x177 x178 x179 x180 x181 x182 x183 x184 x185 x186 x187 x188 x189 x190 x191 x192 x193 x194 x195 x196 x197 x198 x199 x200 x201 x202 x203 x204 x205 x206 x207 : Value) (F : Act → World → Prop)
    (HEX : Hid (∀ (es' : List En) (tm' mk' : Int) (w' : World), SMem w' W0 g b c d p q cp cq N es' tm' mk' → ∀ (y4 y10 y11 y12 y13 y14 y15 y16 y17 y18 y19 y20 y21 y22 y50 y51 y52 y53 y54 y55 y56 y57 y58 y59 y60 y61 y62 y63 y64 y65 y66 y67 y68 y69 y70 y71 y72 y73 y74 y75 y76 y77 y78 y79 y80 y81 y82 y83 y84 y85 y86 y87 y88 y89 y90 y91 y92 y93 y94 y95 y96 y97 y98 y99 y100 y101 y102 y103 y104 y105 y106 y107 y108 y109 y110 y111 y112 y113 y114 y115 y116 y117 y118 y119 y120 y121 y122 y123 y124 y125 y126 y127 y128 y129 y130 y131 y132 y133 y134 y135 y136 y137 y138 y139 y140 y141 y142 y143 y144 y145 y146 y147 y148 y149 y150 y151 y152 y153 y154 y155 y156 y157 y158 y159 y160 y161 y162 y163 y164 y165 y166 y167 y168 y169 y170 y171 y172 y173 y174 y175 y176 y177 y178 y179 y180 y181 y182 y183 y184 y185 y186 y187 y188 y189 y190 y191 y192 y193 y194 y195 y196 y197 y198 y199 y200 y201 y202 y203 y204 y205 y206 y207 : Value), F { tmps := List.toArray ((.int .i64 (N : Int)) :: (.slice a xl c0) :: (x2) :: (x3) :: y4 :: (.pointer (some ⟨g, 0, none⟩)) :: (x6) :: (x7) :: (.pointer (some ⟨d, 0, none⟩)) :: (.int .i64 (j : Int)) :: y10 :: y11 :: y12 :: y13 :: y14 :: y15 :: y16 :: y17 :: y18 :: y19 :: y20 :: y21 :: y22 :: (x23) :: (x24) :: (x25) :: (x26) :: (x27) :: (x28) :: (x29) :: (x30) :: (x31) :: (x32) :: (x33) :: (x34) :: (x35) :: (x36) :: (x37) :: (x38) :: (x39) :: (x40) :: (x41) :: (x42) :: (x43) :: (x44) :: (x45) :: (x46) :: (x47) :: (x48) :: (x49) :: y50 :: y51 :: y52 :: y53 :: y54 :: y55 :: y56 :: y57 :: y58 :: y59 :: y60 :: y61 :: y62 :: y63 :: y64 :: y65 :: y66 :: y67 :: y68 :: y69 :: y70 :: y71 :: y72 :: y73 :: y74 :: y75 :: y76 :: y77 :: y78 :: y79 :: y80 :: y81 :: y82 :: y83 :: y84 :: y85 :: y86 :: y87 :: y88 :: y89 :: y90 :: y91 :: y92 :: y93 :: y94 :: y95 :: y96 :: y97 :: y98 :: y99 :: y100 :: y101 :: y102 :: y103 :: y104 :: y105 :: y106 :: y107 :: y108 :: y109 :: y110 :: y111 :: y112 :: y113 :: y114 :: y115 :: y116 :: y117 :: y118 :: y119 :: y120 :: y121 :: y122 :: y123 :: y124 :: y125 :: y126 :: y127 :: y128 :: y129 :: y130 :: y131 :: y132 :: y133 :: y134 :: y135 :: y136 :: y137 :: y138 :: y139 :: y140 :: y141 :: y142 :: y143 :: y144 :: y145 :: y146 :: y147 :: y148 :: y149 :: y150 :: y151 :: y152 :: y153 :: y154 :: y155 :: y156 :: y157 :: y158 :: y159 :: y160 :: y161 :: y162 :: y163 :: y164 :: y165 :: y166 :: y167 :: y168 :: y169 :: y170 :: y171 :: y172 :: y173 :: y174 :: y175 :: y176 :: y177 :: y178 :: y179 :: y180 :: y181 :: y182 :: y183 :: y184 :: y185 :: y186 :: y187 :: y188 :: y189 :: y190 :: y191 :: y192 :: y193 :: y194 :: y195 :: y196 :: y197 :: y198 :: y199 :: y200 :: y201 :: y202 :: y203 :: y204 :: y205 :: y206 :: y207 :: []), defers := [] } w')) :
    Code.wp Tryd.prog (stepsPart 22) (onlyN F) { tmps := List.toArray ((.int .i64 (N : Int)) :: (.slice a xl c0) :: x2 :: x3 :: x4 :: (.pointer (some ⟨g, 0, none⟩)) :: x6 :: x7 :: (.pointer (some ⟨d, 0, none⟩)) :: (.int .i64 (j : Int)) :: x10 :: (.bool v) :: (.bool v) :: x13 :: (x14v) :: (errI o.n) :: (x16v) :: (.int .i64 o.n) :: x18 :: x19 :: x20 :: x21 :: x22 :: x23 :: x24 :: x25 :: x26 :: x27 :: x28 :: x29 :: x30 :: x31 :: x32 :: x33 :: x34 :: x35 :: x36 :: x37 :: x38 :: x39 :: x40 :: x41 :: x42 :: x43 :: x44 :: x45 :: x46 :: x47 :: x48 :: x49 :: x50 :: x51 :: x52 :: x53 :: x54 :: x55 :: x56 :: x57 :: x58 :: x59 :: x60 :: x61 :: x62 :: x63 :: x64 :: x65 :: x66 :: x67 :: x68 :: x69 :: x70 :: x71 :: x72 :: x73 :: x74 :: x75 :: x76 :: x77 :: x78 :: x79 :: x80 :: x81 :: x82 :: x83 :: x84 :: x85 :: x86 :: x87 :: x88 :: x89 :: x90 :: x91 :: x92 :: x93 :: x94 :: x95 :: x96 :: x97 :: x98 :: x99 :: x100 :: x101 :: x102 :: x103 :: x104 :: x105 :: x106 :: x107 :: x108 :: x109 :: x110 :: x111 :: x112 :: x113 :: x114 :: x115 :: x116 :: x117 :: x118 :: x119 :: x120 :: x121 :: x122 :: x123 :: x124 :: x125 :: x126 :: x127 :: x128 :: x129 :: x130 :: x131 :: x132 :: x133 :: x134 :: x135 :: x136 :: x137 :: x138 :: x139 :: x140 :: x141 :: x142 :: x143 :: x144 :: x145 :: x146 :: x147 :: x148 :: x149 :: x150 :: x151 :: x152 :: x153 :: x154 :: x155 :: x156 :: x157 :: x158 :: x159 :: x160 :: x161 :: x162 :: x163 :: x164 :: x165 :: x166 :: x167 :: x168 :: x169 :: x170 :: x171 :: x172 :: x173 :: x174 :: x175 :: x176 :: x177 :: x178 :: x179 :: x180 :: x181 :: x182 :: x183 :: x184 :: x185 :: x186 :: x187 :: x188 :: x189 :: x190 :: x191 :: x192 :: x193 :: x194 :: x195 :: x196 :: x197 :: x198 :: x199 :: x200 :: x201 :: x202 :: x203 :: x204 :: x205 :: x206 :: x207 :: []), defers := [] } w := by
  conv => arg 2; whnf
  obtain ⟨on, oo, oes, otm, omq⟩ := o
  simp only at HA1 HA2 HM HVL ⊢
  have hv : (v != v) = false := by cases v <;> rfl
  have hn : (on != on) = false := by simp
  have ht : (otm != otm) = false := by simp
  cases oo with
  | none =>
    have h1 : x14v = .slice none 0 0 := HA1.out
    have h2 : x16v = .slice none 0 0 := HA2.out
    subst h1 h2
    clear HA1 HA2 HVL
    go_wp2_with fail
    refine (told_any on w HET.out).mono ?_
    rintro e w1 ⟨rfl, hb1⟩
    have HM1 := hidMk (HM.out.later hb1)
    clear hb1 HM HET
    go_wp2_with fail
    refine (time_any _ g b c otm omq oes HM1.out.gate).mono ?_
    rintro e w2 ⟨rfl, hw2⟩
    subst hw2
    obtain ⟨k0, k1, k2⟩ := HM1.out.doc.cells
    go_wp2
    go_loopg [21] 0 (fun gk i wr => i = .int .i64 0 ∧ wr = w2)
    case atStart => exact ⟨rfl, rfl⟩
    case round =>
      obtain ⟨rfl, hw⟩ := hrel
      subst hw
      go_wp2
      exact HEX.out oes otm omq wr HM1.out _ _ _ _ _ _ _ _ _ _ _ _ _ _ _ _ _ _ _ _ _ _ _ _ _ _ _ _ _ _ _ _ _ _ _ _ _ _ _ _ _ _ _ _ _ _ _ _ _ _ _ _ _ _ _ _ _ _ _ _ _ _ _ _ _ _ _ _ _ _ _ _ _ _ _ _ _ _ _ _ _ _ _ _ _ _ _ _ _ _ _ _ _ _ _ _ _ _ _ _ _ _ _ _ _ _ _ _ _ _ _ _ _ _ _ _ _ _ _ _ _ _ _ _ _ _ _ _ _ _ _ _ _ _ _ _ _ _ _ _ _ _ _ _ _ _ _ _ _ _ _ _ _ _ _ _ _ _ _ _ _ _ _ _ _ _ _ _ _ _ _ _
  | some r =>
    have HA1' : Hid (∃ p a c, B ≤ p ∧ x14v = .slice (some ⟨p, 0, none⟩) 1 1 ∧ OneE w p r.k r.rt (.slice a r.vs.length c) r.t r.m ∧ VLies w a r.vs ∧ ∀ y, a = some y → B ≤ y.block) := HA1.out
    have HA2' : Hid (∃ p a c, B ≤ p ∧ x16v = .slice (some ⟨p, 0, none⟩) 1 1 ∧ OneE w p r.k r.rt (.slice a r.vs.length c) r.t r.m ∧ VLies w a r.vs ∧ ∀ y, a = some y → B ≤ y.block) := HA2.out
    obtain ⟨p1, a1, c1, -, h1, O1, V1, -⟩ := HA1'.out
    obtain ⟨p2, a2, c2, -, h2, O2, V2, -⟩ := HA2'.out
    subst h1 h2
    have HO1 := hidMk O1
    have HO2 := hidMk O2
    have HV1 := hidMk V1
    have HV2 := hidMk V2
    have hvl := HVL.out r rfl
    clear HA1 HA2 HA1' HA2' HVL O1 O2 V1 V2
    go_wp2_with fail
    refine (told_any on w HET.out).mono ?_
    rintro e w1 ⟨rfl, hb1⟩
    have HM1 := hidMk (HM.out.later hb1)
    have O1 : OneE w1 p1 r.k r.rt (.slice a1 r.vs.length c1) r.t r.m := ⟨cell_later hb1 HO1.out.1, cell_later hb1 HO1.out.2.1, cell_later hb1 HO1.out.2.2.1, cell_later hb1 HO1.out.2.2.2.1, cell_later hb1 HO1.out.2.2.2.2⟩
    have O2 : OneE w1 p2 r.k r.rt (.slice a2 r.vs.length c2) r.t r.m := ⟨cell_later hb1 HO2.out.1, cell_later hb1 HO2.out.2.1, cell_later hb1 HO2.out.2.2.1, cell_later hb1 HO2.out.2.2.2.1, cell_later hb1 HO2.out.2.2.2.2⟩
    have HQ1 := hidMk O1
    have HQ2 := hidMk O2
    have HW1 := hidMk (HV1.out.later hb1)
    have HW2 := hidMk (HV2.out.later hb1)
    clear hb1 HM HET HO1 HO2 HV1 HV2 O1 O2
    go_wp2_with fail
    refine (time_any _ g b c otm omq oes HM1.out.gate).mono ?_
    rintro e w2 ⟨rfl, hw2⟩
    subst hw2
    obtain ⟨k0, k1, k2⟩ := HM1.out.doc.cells
    go_wp2
    refine wp_mono (t27 p1 p2 r a1 a2 c1 c2 _ HQ1.out HQ2.out HW1 HW2 hvl _ _ _ _ _ _ _ _ _ _ _ _ _ _ _ _ _ _ _ _ _ _ _ _ _ _ _ _ _ _ _ _ _ _ _ _ _ _ _ _ _ _ _ _ _ _ _ _ _ _ _ _ _ _ _ _ _ _ _ _ _ _ _ _ _ _ _ _ _ _ _ _ _ _ _ _ _ _ _ _ _ _ _ _ _ _ _ _ _ _ _ _ _ _ _ _ _ _ _ _ _ _ _ _ _ _ _ _ _ _ _ _ _ _ _ _ _ _ _ _ _ _ _ _ _ _ _ _ _ _ _ _ _ _ _ _ _ _ _ _ _ _ _ _ _ _ _ _ _ _ _ _ _ _ _ _ _ _ _ _ _ _ _ _ _ _ _ _ _ _ _ _ _ _ _ _ _ _ _ _ _ _ _ _ _ _ _ _ _ _ _ _ _ _ _ _ _ _ _ _ _ _ _ _ _ _ ?hx) onlyN_le
    case hx =>
      intro z0 z1 z2 z3 z4 z5 z6 z7 z8 z9 z10 z11 z12 z13 z14 z15 z16 z17 z18 z19 z20 z21 z22 z23 z24 z25 z26 z27 z28 z29 z30 z31 z32 z33 z34 z35 z36 z37 z38 z39 z40 z41 z42 z43 z44 z45 z46 z47 z48 z49 z50 z51 z52 z53 z54 z55 z56 z57 z58 z59 z60 z61 z62 z63 z64 z65 z66 z67 z68 z69 z70 z71 z72 z73 z74 z75 z76 z77 w3 hb3
      have HM3 := hidMk (HM1.out.later hb3)
      clear hb3 k0 k1 k2 HQ1 HQ2 HW1 HW2 HM1
      go_wp2
      exact HEX.out oes otm omq w3 HM3.out _ _ _ _ _ _ _ _ _ _ _ _ _ _ _ _ _ _ _ _ _ _ _ _ _ _ _ _ _ _ _ _ _ _ _ _ _ _ _ _ _ _ _ _ _ _ _ _ _ _ _ _ _ _ _ _ _ _ _ _ _ _ _ _ _ _ _ _ _ _ _ _ _ _ _ _ _ _ _ _ _ _ _ _ _ _ _ _ _ _ _ _ _ _ _ _ _ _ _ _ _ _ _ _ _ _ _ _ _ _ _ _ _ _ _ _ _ _ _ _ _ _ _ _ _ _ _ _ _ _ _ _ _ _ _ _ _ _ _ _ _ _ _ _ _ _ _ _ _ _ _ _ _ _ _ _ _ _ _ _ _ _ _ _ _ _ _ _ _ _ _ _
end Go.Proofs.YtpghfopbnicpmaaDoor
