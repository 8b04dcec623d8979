import Derived.Test.YtojfhlhajemhdaaDoorDsQ
namespace Go.Proofs.YtojfhlhajemhdaaDoor
open Go.RowKit
set_option linter.unusedVariables false
set_option linter.unusedSimpArgs false
set_option maxRecDepth 100000
set_option maxHeartbeats 8000000
theorem t39n (a : Option Addr) (xl c0 d mb j : Nat) (ax : Option Addr) (cx : Nat) (lv : Value) (fs : List Fl) (W0 w : World) (hn : fs.length ≤ 2513169434879) (HI : Hid (DInv W0 w d mb lv (.slice ax fs.length cx) fs)) (ob : Nat) (kd oa : Int) (nm : ByteArray) (da : Option Addr) (bl : List UInt8) (dc : Nat) (hoa : -9223372036854775808 ≤ oa ∧ oa ≤ 9223372036854775807) (HOB : Hid (Own w ob 28 4 [.int .i64 kd, .int .i64 oa, .string nm, .slice da bl.length dc])) (HLT : Hid (∀ i, dS d mb lv i → i < ob)) (HXL : Hid (∀ g, (Value.slice ax fs.length cx).ownBlock = some g → g < ob)) (HDA : Hid (Bytes W0 da bl.length (lat bl) ∧ bl.length ≤ dc ∧ True ∧ nm.size ≤ maxLen ∧ bl.length ≤ 140737488355328)) (HIN : Hid (nm ∉ fs.map (·.nm)))
    (x1 x2 x8 x9 x10 x11 x12 x13 x14 x15 x16 x17 x18 x19 x20 x21 x22 x23 x24 x25 x26 x27 x28 x29 x30 x31 x32 x33 x34 x35 x36 x37 x38 x39 x40 x41 x42 x43 x44 x45 x46 x47 x48 x49 x50 x51 x52 x53 x54 x55 x56 x57 x58 x59 x60 x61 x62 x63 x64 x65 x66 x67 x68 x69 x70 x71 x72 x73 x74 x75 x76 x77 x78 x79 x80 x81 x82 x83 x84 x85 x86 x87 x88 x89 x90 x91 x92 x93 x94 x95 x96 x97 x98 x99 x100 x101 x102 x103 x104 x105 x106 x107 x108 x109 x110 x111 x112 x113 x114 x115 x116 x117 x118 x119 x120 x121 x122 x123 x124 x125 x126 x127 x128 x129 x130 x131 x132 x133 x134 x135 x136 x137 x138 x139 x140 x141 x142 x143 x144 x145 x146 x147 x148 x149 x150 x151 x152 x153 x154 x155 x156 x157 x158 x159 x160 x161 x162 x163 x164 x165 x166 x167 x168 x169 x170 x171 x172 x173 x174 x175 x176 x177 x178 x179 x180 x181 x182 x183 x184 x185 x186 x187 x188 x189 x190 x191 x192 x193 x194 x195 x196 x197 x198 : Value) (F : Act → World → Prop)
    (HEX : Hid (∀ (fs' : List Fl) (lv' : Value) (ax' : Option Addr) (cx' : Nat) (w' : World), DInv W0 w' d mb lv' (.slice ax' fs'.length cx') fs' → fs'.length ≤ fs.length + 1 → ∀ (y6 y7 y8 y9 y10 y11 y12 y13 y14 y15 y16 y17 y18 y19 y20 y21 y25 y26 y27 y28 y29 y30 y31 y32 y33 y34 y35 y36 y37 y38 y39 y40 y41 y42 y43 y44 y45 y46 y47 y48 y49 y50 y51 y52 y53 y54 y55 y56 y57 y58 y59 y60 y61 y62 y63 y64 y65 y66 y67 y68 y69 y70 y71 y72 y73 y74 y75 y76 y77 y78 y79 y80 y81 y82 y83 y84 y85 y86 y87 y88 y89 y90 y91 y92 y93 y94 y95 y96 y97 y98 y99 y100 y101 y102 y103 y104 y105 y106 y107 y108 y109 y110 y111 y112 y113 y114 y115 y116 y117 y118 y119 y120 y121 y122 y123 y124 y125 y126 y127 y128 y129 y130 y131 y132 y133 y134 y135 y136 y137 y138 y139 y140 y141 y142 y143 y144 y145 y146 y147 y148 y149 y150 y151 y152 y153 y154 y155 y156 y157 y158 y159 y160 y161 y162 y163 y164 y165 y166 y167 y168 y169 y170 y171 y172 y173 y174 y175 y176 y177 y178 y179 y180 y181 y182 y183 y184 y185 y186 y187 y188 y189 y190 y191 y192 y193 y194 y195 y196 y197 y198 : Value), F { tmps := List.toArray ((.slice a xl c0) :: (x1) :: (x2) :: (.pointer (some ⟨d, 0, none⟩)) :: (.slice ax' fs'.length cx') :: (.int .i64 (j : Int)) :: y6 :: y7 :: y8 :: y9 :: y10 :: y11 :: y12 :: y13 :: y14 :: y15 :: y16 :: y17 :: y18 :: y19 :: y20 :: y21 :: (x22) :: (x23) :: (x24) :: y25 :: y26 :: y27 :: y28 :: y29 :: y30 :: y31 :: y32 :: y33 :: y34 :: y35 :: y36 :: y37 :: y38 :: y39 :: y40 :: y41 :: y42 :: y43 :: y44 :: y45 :: y46 :: y47 :: y48 :: y49 :: y50 :: y51 :: y52 :: y53 :: y54 :: y55 :: y56 :: y57 :: y58 :: y59 :: y60 :: y61 :: y62 :: y63 :: y64 :: y65 :: y66 :: y67 :: y68 :: y69 :: y70 :: y71 :: y72 :: y73 :: y74 :: y75 :: y76 :: y77 :: y78 :: y79 :: y80 :: y81 :: y82 :: y83 :: y84 :: y85 :: y86 :: y87 :: y88 :: y89 :: y90 :: y91 :: y92 :: y93 :: y94 :: y95 :: y96 :: y97 :: y98 :: y99 :: y100 :: y101 :: y102 :: y103 :: y104 :: y105 :: y106 :: y107 :: y108 :: y109 :: y110 :: y111 :: y112 :: y113 :: y114 :: y115 :: y116 :: y117 :: y118 :: y119 :: y120 :: y121 :: y122 :: y123 :: y124 :: y125 :: y126 :: y127 :: y128 :: y129 :: y130 :: y131 :: y132 :: y133 :: y134 :: y135 :: y136 :: y137 :: y138 :: y139 :: y140 :: y141 :: y142 :: y143 :: y144 :: y145 :: y146 :: y147 :: y148 :: y149 :: y150 :: y151 :: y152 :: y153 :: y154 :: y155 :: y156 :: y157 :: y158 :: y159 :: y160 :: y161 :: y162 :: y163 :: y164 :: y165 :: y166 :: y167 :: y168 :: y169 :: y170 :: y171 :: y172 :: y173 :: y174 :: y175 :: y176 :: y177 :: y178 :: y179 :: y180 :: y181 :: y182 :: y183 :: y184 :: y185 :: y186 :: y187 :: y188 :: y189 :: y190 :: y191 :: y192 :: y193 :: y194 :: y195 :: y196 :: y197 :: y198 :: []), defers := [] } w')) :
    Code.wp Tryd.prog (stepsPart 39) (onlyN F) { tmps := List.toArray ((.slice a xl c0) :: x1 :: x2 :: (.pointer (some ⟨d, 0, none⟩)) :: (.slice ax fs.length cx) :: (.int .i64 (j : Int)) :: (.pointer (some ⟨ob, 0, none⟩)) :: (.int .i64 (-1)) :: x8 :: x9 :: x10 :: x11 :: x12 :: x13 :: x14 :: x15 :: x16 :: x17 :: x18 :: x19 :: x20 :: x21 :: x22 :: x23 :: x24 :: x25 :: x26 :: x27 :: x28 :: x29 :: x30 :: x31 :: x32 :: x33 :: x34 :: x35 :: x36 :: x37 :: x38 :: x39 :: x40 :: x41 :: x42 :: x43 :: x44 :: x45 :: x46 :: x47 :: x48 :: x49 :: x50 :: x51 :: x52 :: x53 :: x54 :: x55 :: x56 :: x57 :: x58 :: x59 :: x60 :: x61 :: x62 :: x63 :: x64 :: x65 :: x66 :: x67 :: x68 :: x69 :: x70 :: x71 :: x72 :: x73 :: x74 :: x75 :: x76 :: x77 :: x78 :: x79 :: x80 :: x81 :: x82 :: x83 :: x84 :: x85 :: x86 :: x87 :: x88 :: x89 :: x90 :: x91 :: x92 :: x93 :: x94 :: x95 :: x96 :: x97 :: x98 :: x99 :: x100 :: x101 :: x102 :: x103 :: x104 :: x105 :: x106 :: x107 :: x108 :: x109 :: x110 :: x111 :: x112 :: x113 :: x114 :: x115 :: x116 :: x117 :: x118 :: x119 :: x120 :: x121 :: x122 :: x123 :: x124 :: x125 :: x126 :: x127 :: x128 :: x129 :: x130 :: x131 :: x132 :: x133 :: x134 :: x135 :: x136 :: x137 :: x138 :: x139 :: x140 :: x141 :: x142 :: x143 :: x144 :: x145 :: x146 :: x147 :: x148 :: x149 :: x150 :: x151 :: x152 :: x153 :: x154 :: x155 :: x156 :: x157 :: x158 :: x159 :: x160 :: x161 :: x162 :: x163 :: x164 :: x165 :: x166 :: x167 :: x168 :: x169 :: x170 :: x171 :: x172 :: x173 :: x174 :: x175 :: x176 :: x177 :: x178 :: x179 :: x180 :: x181 :: x182 :: x183 :: x184 :: x185 :: x186 :: x187 :: x188 :: x189 :: x190 :: x191 :: x192 :: x193 :: x194 :: x195 :: x196 :: x197 :: x198 :: []), defers := [] } w := by
  conv => arg 2; whnf
  have o0 : w.cell? ⟨ob, 0, none⟩ = some (.int .i64 kd) := HOB.out.cell 0 (by decide)
  have o1 : w.cell? ⟨ob, 1, none⟩ = some (.int .i64 oa) := HOB.out.cell 1 (by decide)
  have o2 : w.cell? ⟨ob, 2, none⟩ = some (.string nm) := HOB.out.cell 2 (by decide)
  have o3 : w.cell? ⟨ob, 3, none⟩ = some (.slice da bl.length dc) := HOB.out.cell 3 (by decide)
  go_wp2_with fail
  refine (read_none _ _ _ _ _ _ nm HI.out.pd HDA.out.2.2.2.1 HIN.out).mono ?_
  rintro e w1 ⟨rfl, hw1⟩
  subst hw1
  clear o0 o1 o2 o3 HOB HLT HXL HDA HIN
  go_wp2_with fail
  go_quiet (fail)
  have HE := hidMk (HEX.out fs lv ax cx (w1.drewN nq) (HI.out.later (below_drewN (Below.refl _ _) nq)) (by omega))
  clear HI HEX
  generalize w1.drewN nq = wz at *
  go_wp2_with fail
  go_loopg [15] 0 (fun gk i wr => i = .int .i64 0 ∧ wr = wz)
  case atStart => exact ⟨rfl, rfl⟩
  case round =>
    obtain ⟨rfl, hw⟩ := hrel
    subst hw
    go_wp2_with fail
    exact HE.out _ _ _ _ _ _ _ _ _ _ _ _ _ _ _ _ _ _ _ _ _ _ _ _ _ _ _ _ _ _ _ _ _ _ _ _ _ _ _ _ _ _ _ _ _ _ _ _ _ _ _ _ _ _ _ _ _ _ _ _ _ _ _ _ _ _ _ _ _ _ _ _ _ _ _ _ _ _ _ _ _ _ _ _ _ _ _ _ _ _ _ _ _ _ _ _ _ _ _ _ _ _ _ _ _ _ _ _ _ _ _ _ _ _ _ _ _ _ _ _ _ _ _ _ _ _ _ _ _ _ _ _ _ _ _ _ _ _ _ _ _ _ _ _ _ _ _ _ _ _ _ _ _ _ _ _ _ _ _ _ _ _ _ _ _ _ _ _ _ _ _ _ _ _ _ _ _ _ _ _ _ _ _ _ _ _ _ _ _ _
theorem t39k (a : Option Addr) (xl c0 d mb j : Nat) (ax : Option Addr) (cx : Nat) (lv : Value) (fs : List Fl) (W0 w : World) (hn : fs.length ≤ 2513169434879) (HI : Hid (DInv W0 w d mb lv (.slice ax fs.length cx) fs)) (ob : Nat) (kd oa : Int) (nm : ByteArray) (da : Option Addr) (bl : List UInt8) (dc : Nat) (hoa : -9223372036854775808 ≤ oa ∧ oa ≤ 9223372036854775807) (HOB : Hid (Own w ob 28 4 [.int .i64 kd, .int .i64 oa, .string nm, .slice da bl.length dc])) (HLT : Hid (∀ i, dS d mb lv i → i < ob)) (HXL : Hid (∀ g, (Value.slice ax fs.length cx).ownBlock = some g → g < ob)) (HDA : Hid (Bytes W0 da bl.length (lat bl) ∧ bl.length ≤ dc ∧ True ∧ nm.size ≤ maxLen ∧ bl.length ≤ 140737488355328)) (k : Nat) (hk : k < fs.length) (HNM : Hid (nm = fs[k].nm))
    (x1 x2 x8 x9 x10 x11 x12 x13 x14 x15 x16 x17 x18 x19 x20 x21 x22 x23 x24 x25 x26 x27 x28 x29 x30 x31 x32 x33 x34 x35 x36 x37 x38 x39 x40 x41 x42 x43 x44 x45 x46 x47 x48 x49 x50 x51 x52 x53 x54 x55 x56 x57 x58 x59 x60 x61 x62 x63 x64 x65 x66 x67 x68 x69 x70 x71 x72 x73 x74 x75 x76 x77 x78 x79 x80 x81 x82 x83 x84 x85 x86 x87 x88 x89 x90 x91 x92 x93 x94 x95 x96 x97 x98 x99 x100 x101 x102 x103 x104 x105 x106 x107 x108 x109 x110 x111 x112 x113 x114 x115 x116 x117 x118 x119 x120 x121 x122 x123 x124 x125 x126 x127 x128 x129 x130 x131 x132 x133 x134 x135 x136 x137 x138 x139 x140 x141 x142 x143 x144 x145 x146 x147 x148 x149 x150 x151 x152 x153 x154 x155 x156 x157 x158 x159 x160 x161 x162 x163 x164 x165 x166 x167 x168 x169 x170 x171 x172 x173 x174 x175 x176 x177 x178 x179 x180 x181 x182 x183 x184 x185 x186 x187 x188 x189 x190 x191 x192 x193 x194 x195 x196 x197 x198 : Value) (F : Act → World → Prop)
    (HEX : Hid (∀ (fs' : List Fl) (lv' : Value) (ax' : Option Addr) (cx' : Nat) (w' : World), DInv W0 w' d mb lv' (.slice ax' fs'.length cx') fs' → fs'.length ≤ fs.length + 1 → ∀ (y6 y7 y8 y9 y10 y11 y12 y13 y14 y15 y16 y17 y18 y19 y20 y21 y25 y26 y27 y28 y29 y30 y31 y32 y33 y34 y35 y36 y37 y38 y39 y40 y41 y42 y43 y44 y45 y46 y47 y48 y49 y50 y51 y52 y53 y54 y55 y56 y57 y58 y59 y60 y61 y62 y63 y64 y65 y66 y67 y68 y69 y70 y71 y72 y73 y74 y75 y76 y77 y78 y79 y80 y81 y82 y83 y84 y85 y86 y87 y88 y89 y90 y91 y92 y93 y94 y95 y96 y97 y98 y99 y100 y101 y102 y103 y104 y105 y106 y107 y108 y109 y110 y111 y112 y113 y114 y115 y116 y117 y118 y119 y120 y121 y122 y123 y124 y125 y126 y127 y128 y129 y130 y131 y132 y133 y134 y135 y136 y137 y138 y139 y140 y141 y142 y143 y144 y145 y146 y147 y148 y149 y150 y151 y152 y153 y154 y155 y156 y157 y158 y159 y160 y161 y162 y163 y164 y165 y166 y167 y168 y169 y170 y171 y172 y173 y174 y175 y176 y177 y178 y179 y180 y181 y182 y183 y184 y185 y186 y187 y188 y189 y190 y191 y192 y193 y194 y195 y196 y197 y198 : Value), F { tmps := List.toArray ((.slice a xl c0) :: (x1) :: (x2) :: (.pointer (some ⟨d, 0, none⟩)) :: (.slice ax' fs'.length cx') :: (.int .i64 (j : Int)) :: y6 :: y7 :: y8 :: y9 :: y10 :: y11 :: y12 :: y13 :: y14 :: y15 :: y16 :: y17 :: y18 :: y19 :: y20 :: y21 :: (x22) :: (x23) :: (x24) :: y25 :: y26 :: y27 :: y28 :: y29 :: y30 :: y31 :: y32 :: y33 :: y34 :: y35 :: y36 :: y37 :: y38 :: y39 :: y40 :: y41 :: y42 :: y43 :: y44 :: y45 :: y46 :: y47 :: y48 :: y49 :: y50 :: y51 :: y52 :: y53 :: y54 :: y55 :: y56 :: y57 :: y58 :: y59 :: y60 :: y61 :: y62 :: y63 :: y64 :: y65 :: y66 :: y67 :: y68 :: y69 :: y70 :: y71 :: y72 :: y73 :: y74 :: y75 :: y76 :: y77 :: y78 :: y79 :: y80 :: y81 :: y82 :: y83 :: y84 :: y85 :: y86 :: y87 :: y88 :: y89 :: y90 :: y91 :: y92 :: y93 :: y94 :: y95 :: y96 :: y97 :: y98 :: y99 :: y100 :: y101 :: y102 :: y103 :: y104 :: y105 :: y106 :: y107 :: y108 :: y109 :: y110 :: y111 :: y112 :: y113 :: y114 :: y115 :: y116 :: y117 :: y118 :: y119 :: y120 :: y121 :: y122 :: y123 :: y124 :: y125 :: y126 :: y127 :: y128 :: y129 :: y130 :: y131 :: y132 :: y133 :: y134 :: y135 :: y136 :: y137 :: y138 :: y139 :: y140 :: y141 :: y142 :: y143 :: y144 :: y145 :: y146 :: y147 :: y148 :: y149 :: y150 :: y151 :: y152 :: y153 :: y154 :: y155 :: y156 :: y157 :: y158 :: y159 :: y160 :: y161 :: y162 :: y163 :: y164 :: y165 :: y166 :: y167 :: y168 :: y169 :: y170 :: y171 :: y172 :: y173 :: y174 :: y175 :: y176 :: y177 :: y178 :: y179 :: y180 :: y181 :: y182 :: y183 :: y184 :: y185 :: y186 :: y187 :: y188 :: y189 :: y190 :: y191 :: y192 :: y193 :: y194 :: y195 :: y196 :: y197 :: y198 :: []), defers := [] } w')) :
    Code.wp Tryd.prog (stepsPart 39) (onlyN F) { tmps := List.toArray ((.slice a xl c0) :: x1 :: x2 :: (.pointer (some ⟨d, 0, none⟩)) :: (.slice ax fs.length cx) :: (.int .i64 (j : Int)) :: (.pointer (some ⟨ob, 0, none⟩)) :: (.int .i64 (k : Int)) :: x8 :: x9 :: x10 :: x11 :: x12 :: x13 :: x14 :: x15 :: x16 :: x17 :: x18 :: x19 :: x20 :: x21 :: x22 :: x23 :: x24 :: x25 :: x26 :: x27 :: x28 :: x29 :: x30 :: x31 :: x32 :: x33 :: x34 :: x35 :: x36 :: x37 :: x38 :: x39 :: x40 :: x41 :: x42 :: x43 :: x44 :: x45 :: x46 :: x47 :: x48 :: x49 :: x50 :: x51 :: x52 :: x53 :: x54 :: x55 :: x56 :: x57 :: x58 :: x59 :: x60 :: x61 :: x62 :: x63 :: x64 :: x65 :: x66 :: x67 :: x68 :: x69 :: x70 :: x71 :: x72 :: x73 :: x74 :: x75 :: x76 :: x77 :: x78 :: x79 :: x80 :: x81 :: x82 :: x83 :: x84 :: x85 :: x86 :: x87 :: x88 :: x89 :: x90 :: x91 :: x92 :: x93 :: x94 :: x95 :: x96 :: x97 :: x98 :: x99 :: x100 :: x101 :: x102 :: x103 :: x104 :: x105 :: x106 :: x107 :: x108 :: x109 :: x110 :: x111 :: x112 :: x113 :: x114 :: x115 :: x116 :: x117 :: x118 :: x119 :: x120 :: x121 :: x122 :: x123 :: x124 :: x125 :: x126 :: x127 :: x128 :: x129 :: x130 :: x131 :: x132 :: x133 :: x134 :: x135 :: x136 :: x137 :: x138 :: x139 :: x140 :: x141 :: x142 :: x143 :: x144 :: x145 :: x146 :: x147 :: x148 :: x149 :: x150 :: x151 :: x152 :: x153 :: x154 :: x155 :: x156 :: x157 :: x158 :: x159 :: x160 :: x161 :: x162 :: x163 :: x164 :: x165 :: x166 :: x167 :: x168 :: x169 :: x170 :: x171 :: x172 :: x173 :: x174 :: x175 :: x176 :: x177 :: x178 :: x179 :: x180 :: x181 :: x182 :: x183 :: x184 :: x185 :: x186 :: x187 :: x188 :: x189 :: x190 :: x191 :: x192 :: x193 :: x194 :: x195 :: x196 :: x197 :: x198 :: []), defers := [] } w := by
  conv => arg 2; whnf
  have o0 : w.cell? ⟨ob, 0, none⟩ = some (.int .i64 kd) := HOB.out.cell 0 (by decide)
  have o1 : w.cell? ⟨ob, 1, none⟩ = some (.int .i64 oa) := HOB.out.cell 1 (by decide)
  have o2 : w.cell? ⟨ob, 2, none⟩ = some (.string nm) := HOB.out.cell 2 (by decide)
  have o3 : w.cell? ⟨ob, 3, none⟩ = some (.slice da bl.length dc) := HOB.out.cell 3 (by decide)
  have hfm : fs[k] ∈ fs := List.getElem_mem hk
  have hlw := HI.out.law _ hfm
  have HC := hidMk (read_at w _ d mb lv fs fs[k] HI.out.pd hlw.2.2.2.1 hfm hlw.2.2.2.2)
  rw [← HNM.out] at HC
  have hkz : (k : Int) ≥ 0 := by omega
  have hkd : decide ((k : Int) ≥ 0) = true := decide_eq_true hkz
  have hk' : (k : Int) < (fs.length : Int) := by omega
  have hk0 : (0 : Int) ≤ (k : Int) := by omega
  obtain ⟨g, rfl⟩ : ∃ g, ax = some ⟨g, 0, none⟩ := by
    obtain ⟨a1, c1, e, hcase⟩ := HI.out.lf.form
    injection e with e1 e2 e3
    rcases hcase with ⟨h1, -⟩ | ⟨g, h1, -⟩
    · rw [h1] at hk; simp at hk
    · exact ⟨g, e1.trans h1⟩
  obtain ⟨-, c1, -⟩ := LF.cells HI.out.lf k hk
  go_wp2_with fail
  refine HC.out.mono ?_
  rintro e w1 ⟨v', rfl, hO, hb⟩
  have HI1 := hidMk (HI.out.later hb)
  have d1 := cell_later hb c1
  obtain ⟨a', c', rfl, hby, hc1, hc2⟩ := hO.conv
  have hV1 : ∀ q, (convert 26 9 (.slice a' fs[k].bs.length c')).run Tryd.prog (w1.drewN q) = .ok (.string (bstr (lat fs[k].bs) fs[k].bs.length)) (w1.drewN q) := fun q => conv_bytes _ a' _ c' _ (hby.later (below_drewN (Below.refl _ _) q))
  have hV2 : ∀ q, (convert 26 9 (.slice fs[k].la fs[k].bs.length fs[k].lc)).run Tryd.prog (w1.drewN q) = .ok (.string (bstr (lat fs[k].bs) fs[k].bs.length)) (w1.drewN q) := fun q => conv_bytes _ _ _ _ _ (hlw.1.later (HI1.out.bel.trans (below_drewN (Below.refl _ _) q)))
  have HOL := hidMk hO
  have HBB := hidMk hb
  have HS := hidMk hlw
  have hbl : fs[k].bs.length ≤ 140737488355328 := hlw.2.2.2.2
  clear c1 hO hb hby hlw HC o0 o1 o2 o3 HOB HLT HXL HDA hfm HNM
  have hSS := beq_str (rfl : bstr (lat fs[k].bs) fs[k].bs.length = bstr (lat fs[k].bs) fs[k].bs.length)
  have hSN : (((bstr (lat fs[k].bs) fs[k].bs.length).toList != (bstr (lat fs[k].bs) fs[k].bs.length).toList)) = false := by simp
  generalize bstr (lat fs[k].bs) fs[k].bs.length = S at *
  generalize fs[k] = f at *
  go_wp2_with fail
  go_quiet (fail)
  have HOQ : Hid (OL (w1.drewN nq) w.heap.size (.slice a' f.bs.length c') f.bs) := own_later HOL.out (below_drewN (Below.refl _ _) nq)
  have HGQ : Hid (Gs (fun i => w.heap.size ≤ i) w (w1.drewN nq)) := Gs.below (below_drewN HBB.out nq)
  clear d1 hV1 hV2 HOL HBB HI1 hSS hSN
  generalize w1.drewN nq = wz at *
  go_wp2_with fail
  go_loopg [15] f.bs.length (fun gk i wr => ∃ (m : Nat) (ys : List UInt8), gk + m = f.bs.length ∧ i = .int .i64 m ∧ ys.length = f.bs.length ∧ wr.ownsRow w.heap.size 5 1 (.slice a' f.bs.length c') f.bs.length (ys.map u8v) ∧ Gs (fun i => w.heap.size ≤ i) w wr)
  case atStart => exact ⟨0, f.bs, by omega, rfl, rfl, HOQ.out, HGQ.out⟩
  case round =>
    obtain ⟨m, ys, hgm, rfl, hyl, hR, hGm⟩ := hrel
    by_cases hm : m < f.bs.length
    · have hm' : (m : Int) < (f.bs.length : Int) := by omega
      obtain ⟨gb, cap, eg, hg1, hg2⟩ := World.ownsRow.form hR (by omega)
      injection eg with eg1 eg2 eg3
      subst eg1
      have cc : wr.cell? ⟨gb, m, none⟩ = some (u8v (ys[m]'(by omega))) := by
        rw [World.ownsRow.cellAt hR m (by omega), List.getElem?_map, List.getElem?_eq_getElem (by omega)]; rfl
      have ff : wr.frozen? ⟨gb, m, none⟩ = false := World.ownsRow.frozenAt hR m
      have hst := World.ownsRow.stored hR m (.int .u8 221)
      have HRn : Hid ((wr.setCell ⟨gb, m, none⟩ (.int .u8 221)).ownsRow w.heap.size 5 1 (.slice (some ⟨gb, 0, none⟩) f.bs.length c') f.bs.length ((ys.set m 221).map u8v)) := by
        have h1 := hst.1
        rw [Hid, List.map_set]
        exact h1
      have HGn : Hid (Gs (fun i => w.heap.size ≤ i) w (wr.setCell ⟨gb, m, none⟩ (.int .u8 221))) := hGm.trans (Gs.one hst.2 fun i hi => by cases hi; exact hg1)
      have HYL := hidMk hyl
      generalize u8v (ys[m]'(by omega)) = uv at cc
      clear hR hGm hst eg2 eg3 hyl hg1 hg2
      go_wp2_with fail
      go_roundg (gk - 1)
      case measure => omega
      case rel => exact ⟨m + 1, ys.set m 221, by omega, by go_num, by rw [List.length_set]; exact HYL.out, HRn.out, HGn.out⟩
    · have hm' : ¬ (m : Int) < (f.bs.length : Int) := by omega
      have HE := hidMk (HEX.out fs lv (some ⟨g, 0, none⟩) cx wr (HI.out.new hGm (fun i s => s)) (by omega))
      clear hR hGm HI HEX
      go_wp2_with fail
      exact HE.out _ _ _ _ _ _ _ _ _ _ _ _ _ _ _ _ _ _ _ _ _ _ _ _ _ _ _ _ _ _ _ _ _ _ _ _ _ _ _ _ _ _ _ _ _ _ _ _ _ _ _ _ _ _ _ _ _ _ _ _ _ _ _ _ _ _ _ _ _ _ _ _ _ _ _ _ _ _ _ _ _ _ _ _ _ _ _ _ _ _ _ _ _ _ _ _ _ _ _ _ _ _ _ _ _ _ _ _ _ _ _ _ _ _ _ _ _ _ _ _ _ _ _ _ _ _ _ _ _ _ _ _ _ _ _ _ _ _ _ _ _ _ _ _ _ _ _ _ _ _ _ _ _ _ _ _ _ _ _ _ _ _ _ _ _ _ _ _ _ _ _ _ _ _ _ _ _ _ _ _ _ _ _ _ _ _ _ _ _ _
end Go.Proofs.YtojfhlhajemhdaaDoor
