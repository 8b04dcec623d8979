import Derived.Test.YtpghfopbnicpmaaDoorGuB
namespace Go.Proofs.YtpghfopbnicpmaaDoor
open Go.RowKit
set_option linter.unusedVariables false
set_option linter.unusedSimpArgs false
set_option maxRecDepth 100000
set_option maxHeartbeats 8000000
theorem t19 (ps n c1 B : Nat) (a1 : Option Addr) (xs0 : List Value) (w : World) (hn : n ≤ 4398046511104) (HO : Hid (w.ownsRow B 48 3 (.slice a1 n c1) n xs0)) (hx0 : xs0.length = n * 3) (e2 : w.cell? ⟨ps, 2, none⟩ = some (.slice a1 n c1)) (HPS : Hid (ps < B))
    (x0 x1 x2 x3 x4 x5 x6 x7 x8 x9 x10 x11 x12 x14 x15 x16 x17 x19 x20 x21 x22 x23 x24 x25 x26 x27 x28 x29 x30 x31 x32 x33 x34 x35 x36 x37 x38 x39 x40 x41 x42 x43 x44 x45 x46 x47 x48 x49 x50 x51 x52 x53 x54 x55 x56 x57 x58 x59 x60 x61 x62 x63 x64 x65 x66 x67 x68 x69 x70 x71 x72 x73 x74 x75 x76 x77 x78 x79 x80 x81 x82 x83 x84 x85 x86 x87 x88 x89 x90 x91 x92 x93 x94 x95 x96 x97 x98 x99 x100 x101 x102 x103 x104 x105 x106 x107 x108 x109 x110 x111 x112 x113 x114 x115 x116 x117 x118 x119 x120 x121 x122 x123 x124 x125 x126 x127 x128 x129 x130 x131 x132 x133 x134 x135 x136 x137 x138 x139 x140 x141 x142 x143 x144 x145 x146 x147 x148 x149 x150 x151 x152 x153 x154 x155 x156 x157 x158 x159 x160 x161 x162 x163 x164 x165 x166 x167 x168 x169 x170 x171 x172 x173 x174 x175 x176 x177 x178 x179 x180 x181 x182 x183 x184 x185 x186 x187 x188 x189 x190 x191 x192 x193 x194 x195 x196 x197 x198 x199 x200 x201 x202 x203 x204 x205 x206 x207 : Value) (F : Act → World → Prop)
    (HEX : Hid (∀ (y18 y92 y93 y94 y95 y96 y97 y98 y99 y100 y101 y102 y103 y104 y105 : Value) (w' : World), w.grownBy w' (Value.slice a1 n c1).ownBlock → F { tmps := List.toArray (x0 :: x1 :: x2 :: x3 :: x4 :: x5 :: x6 :: x7 :: x8 :: x9 :: x10 :: x11 :: x12 :: (.pointer (some ⟨ps, 0, none⟩)) :: x14 :: x15 :: x16 :: x17 :: y18 :: x19 :: x20 :: x21 :: x22 :: x23 :: x24 :: x25 :: x26 :: x27 :: x28 :: x29 :: x30 :: x31 :: x32 :: x33 :: x34 :: x35 :: x36 :: x37 :: x38 :: x39 :: x40 :: x41 :: x42 :: x43 :: x44 :: x45 :: x46 :: x47 :: x48 :: x49 :: x50 :: x51 :: x52 :: x53 :: x54 :: x55 :: x56 :: x57 :: x58 :: x59 :: x60 :: x61 :: x62 :: x63 :: x64 :: x65 :: x66 :: x67 :: x68 :: x69 :: x70 :: x71 :: x72 :: x73 :: x74 :: x75 :: x76 :: x77 :: x78 :: x79 :: x80 :: x81 :: x82 :: x83 :: x84 :: x85 :: x86 :: x87 :: x88 :: x89 :: x90 :: x91 :: y92 :: y93 :: y94 :: y95 :: y96 :: y97 :: y98 :: y99 :: y100 :: y101 :: y102 :: y103 :: y104 :: y105 :: x106 :: x107 :: x108 :: x109 :: x110 :: x111 :: x112 :: x113 :: x114 :: x115 :: x116 :: x117 :: x118 :: x119 :: x120 :: x121 :: x122 :: x123 :: x124 :: x125 :: x126 :: x127 :: x128 :: x129 :: x130 :: x131 :: x132 :: x133 :: x134 :: x135 :: x136 :: x137 :: x138 :: x139 :: x140 :: x141 :: x142 :: x143 :: x144 :: x145 :: x146 :: x147 :: x148 :: x149 :: x150 :: x151 :: x152 :: x153 :: x154 :: x155 :: x156 :: x157 :: x158 :: x159 :: x160 :: x161 :: x162 :: x163 :: x164 :: x165 :: x166 :: x167 :: x168 :: x169 :: x170 :: x171 :: x172 :: x173 :: x174 :: x175 :: x176 :: x177 :: x178 :: x179 :: x180 :: x181 :: x182 :: x183 :: x184 :: x185 :: x186 :: x187 :: x188 :: x189 :: x190 :: x191 :: x192 :: x193 :: x194 :: x195 :: x196 :: x197 :: x198 :: x199 :: x200 :: x201 :: x202 :: x203 :: x204 :: x205 :: x206 :: x207 :: []), defers := [] } w')) :
    Code.wp Tryd.prog (Code.loop (stepsLoop 19)) (Exit.inBlock 2 (onlyN F)) { tmps := List.toArray (x0 :: x1 :: x2 :: x3 :: x4 :: x5 :: x6 :: x7 :: x8 :: x9 :: x10 :: x11 :: x12 :: (.pointer (some ⟨ps, 0, none⟩)) :: x14 :: x15 :: x16 :: x17 :: (.int .i64 0) :: x19 :: x20 :: x21 :: x22 :: x23 :: x24 :: x25 :: x26 :: x27 :: x28 :: x29 :: x30 :: x31 :: x32 :: x33 :: x34 :: x35 :: x36 :: x37 :: x38 :: x39 :: x40 :: x41 :: x42 :: x43 :: x44 :: x45 :: x46 :: x47 :: x48 :: x49 :: x50 :: x51 :: x52 :: x53 :: x54 :: x55 :: x56 :: x57 :: x58 :: x59 :: x60 :: x61 :: x62 :: x63 :: x64 :: x65 :: x66 :: x67 :: x68 :: x69 :: x70 :: x71 :: x72 :: x73 :: x74 :: x75 :: x76 :: x77 :: x78 :: x79 :: x80 :: x81 :: x82 :: x83 :: x84 :: x85 :: x86 :: x87 :: x88 :: x89 :: x90 :: x91 :: x92 :: x93 :: x94 :: x95 :: x96 :: x97 :: x98 :: x99 :: x100 :: x101 :: x102 :: x103 :: x104 :: x105 :: x106 :: x107 :: x108 :: x109 :: x110 :: x111 :: x112 :: x113 :: x114 :: x115 :: x116 :: x117 :: x118 :: x119 :: x120 :: x121 :: x122 :: x123 :: x124 :: x125 :: x126 :: x127 :: x128 :: x129 :: x130 :: x131 :: x132 :: x133 :: x134 :: x135 :: x136 :: x137 :: x138 :: x139 :: x140 :: x141 :: x142 :: x143 :: x144 :: x145 :: x146 :: x147 :: x148 :: x149 :: x150 :: x151 :: x152 :: x153 :: x154 :: x155 :: x156 :: x157 :: x158 :: x159 :: x160 :: x161 :: x162 :: x163 :: x164 :: x165 :: x166 :: x167 :: x168 :: x169 :: x170 :: x171 :: x172 :: x173 :: x174 :: x175 :: x176 :: x177 :: x178 :: x179 :: x180 :: x181 :: x182 :: x183 :: x184 :: x185 :: x186 :: x187 :: x188 :: x189 :: x190 :: x191 :: x192 :: x193 :: x194 :: x195 :: x196 :: x197 :: x198 :: x199 :: x200 :: x201 :: x202 :: x203 :: x204 :: x205 :: x206 :: x207 :: []), defers := [] } w := by
  conv => arg 2; arg 1; whnf
  have HX0 := hidMk hx0
  have HE2 := hidMk e2
  clear hx0 e2
  go_loopg [18] n (fun gk i wr => ∃ (k : Nat) (xs : List Value), gk + k = n ∧ i = .int .i64 k ∧ xs.length = n * 3 ∧ wr.ownsRow B 48 3 (.slice a1 n c1) n xs ∧ w.grownBy wr (Value.slice a1 n c1).ownBlock)
  case atStart => exact ⟨0, xs0, by omega, rfl, HX0.out, HO.out, grown_refl _ _⟩
  case round =>
    obtain ⟨k, xs, hgk, rfl, hx, ho, hgr⟩ := hrel
    have f2 : wr.cell? ⟨ps, 2, none⟩ = some (.slice a1 n c1) := hgr.cell HE2.out (fun e => by have h1 := (World.ownsRow.lt ho ps e.symm).1; have h2 := HPS.out; omega)
    have HGR := hidMk hgr
    have HOW := hidMk ho
    have HX := hidMk hx
    clear hgr ho hx
    by_cases hk : k < n
    · have hk' : (k : Int) < (n : Int) := by omega
      obtain ⟨y, rfl⟩ : ∃ y, a1 = some ⟨y, 0, none⟩ := by
        rcases HOW.out.2 with ⟨h1, h2⟩ | ⟨y, cap, cur, h1, -⟩
        · injection h1 with h1 h2 h3; omega
        · injection h1 with h1 h2 h3; exact ⟨y, h1⟩
      have hc : ∀ j, j < 3 → ∃ v, wr.cell? ⟨y, k * 3 + j, none⟩ = some v := fun j hj => by
        have h1 := World.ownsRow.cellAt HOW.out (k * 3 + j) (by omega)
        refine ⟨xs[k * 3 + j]'(by rw [HX.out]; omega), ?_⟩
        rw [h1]
        exact List.getElem?_eq_getElem _
      obtain ⟨v0, q0⟩ := hc 0 (by decide)
      obtain ⟨v1, q1⟩ := hc 1 (by decide)
      obtain ⟨v2, q2⟩ := hc 2 (by decide)
      rw [Nat.add_zero] at q0
      have s0 : wr.frozen? ⟨y, k * 3, none⟩ = false := World.ownsRow.frozenAt HOW.out _
      have s1 : wr.frozen? ⟨y, k * 3 + 1, none⟩ = false := World.ownsRow.frozenAt HOW.out _
      have s2 : wr.frozen? ⟨y, k * 3 + 2, none⟩ = false := World.ownsRow.frozenAt HOW.out _
      have HP : Hid (∀ z0 z1 z2, (((wr.setCell ⟨y, k * 3, none⟩ z0).setCell ⟨y, k * 3 + 1, none⟩ z1).setCell ⟨y, k * 3 + 2, none⟩ z2).ownsRow B 48 3 (.slice (some ⟨y, 0, none⟩) n c1) n (((xs.set (k * 3) z0).set (k * 3 + 1) z1).set (k * 3 + 2) z2) ∧ w.grownBy (((wr.setCell ⟨y, k * 3, none⟩ z0).setCell ⟨y, k * 3 + 1, none⟩ z1).setCell ⟨y, k * 3 + 2, none⟩ z2) (some y)) := fun z0 z1 z2 => by
        obtain ⟨h1, g1⟩ := World.ownsRow.stored HOW.out (k * 3) z0
        obtain ⟨h2, g2⟩ := World.ownsRow.stored h1 (k * 3 + 1) z1
        obtain ⟨h3, g3⟩ := World.ownsRow.stored h2 (k * 3 + 2) z2
        exact ⟨h3, grown_trans (grown_trans (grown_trans HGR.out g1) g2) g3⟩
      clear hc
      go_wp2
      go_roundg (gk - 1)
      case measure => omega
      case rel => exact ⟨k + 1, _, by omega, by go_num, by simp only [List.length_set]; exact HX.out, (HP.out _ _ _).1, (HP.out _ _ _).2⟩
    · have hk' : ¬ (k : Int) < (n : Int) := by omega
      go_wp2
      exact HEX.out _ _ _ _ _ _ _ _ _ _ _ _ _ _ _ _ HGR.out
end Go.Proofs.YtpghfopbnicpmaaDoor
