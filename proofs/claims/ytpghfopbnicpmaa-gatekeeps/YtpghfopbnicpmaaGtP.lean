import Derived.Test.YtpghfopbnicpmaaGtO
namespace Go.Proofs.Ytpghfopbnicpmaa
open Go.RowKit
set_option linter.unusedVariables false
set_option linter.unusedSimpArgs false
set_option maxRecDepth 100000
set_option maxHeartbeats 8000000
theorem t18 (a : Option Addr) (xl c0 N g b c sB mB j : Nat) (tm mk la : Int) (es : List En) (W0 w : World) (hN1 : 1 ≤ N) (hN2 : N ≤ 64) (ps : Nat) (x : Ie) (av : Option Addr) (cv : Nat) (hvl : x.vs.length ≤ 4398046511104)
    (e0 : w.cell? ⟨ps, 0, none⟩ = some (.int .i64 x.ch)) (e1 : w.cell? ⟨ps, 1, none⟩ = some (.int .i64 x.k)) (e2 : w.cell? ⟨ps, 2, none⟩ = some (.int .i64 x.rt)) (e3 : w.cell? ⟨ps, 3, none⟩ = some (.slice av x.vs.length cv)) (e4 : w.cell? ⟨ps, 4, none⟩ = some (.int .i64 x.t)) (e5 : w.cell? ⟨ps, 5, none⟩ = some (.int .i64 x.m))
    (HV1 : Hid (VLies w av x.vs)) (HPS : Hid (g < ps ∧ b < ps ∧ sB < ps ∧ mB < ps ∧ W0.heap.size ≤ ps)) (HM1 : Hid (KMem w W0 g b c sB mB N es tm mk)) (HINV : Hid (KInv es tm mk la N j)) (hla : la ≤ 4398046511104)
    (hmk1 : ∀ W : World, (Instr.makeSlice 29 (.int .i64 (N : Int)) (.int .i64 (N : Int))).run Try.prog W = .ok (.slice (some ⟨W.heap.size, 0, none⟩) N N) (W.alloc (.cells (madeCells #[.bool false] N) 4)))
    (x2 x3 x4 x6 x9 x14 x15 x16 x17 x18 x19 x20 x21 x22 x23 x24 x25 x26 x27 x28 x29 x30 x31 x32 x33 x34 x35 x36 x37 x38 x39 x40 x41 x42 x43 x44 x45 x46 x47 x48 x49 x50 x51 x52 x53 x54 x55 x56 x57 x58 x59 x60 x61 x62 x63 x64 x65 x66 x67 x68 x69 x70 x71 x72 x73 x74 x75 x76 x77 x78 x79 x80 x81 x82 x83 x84 x85 x86 x87 x88 x89 x90 x91 x92 x93 x94 x95 x96 x97 x98 x99 x100 x101 x102 x103 x104 x105 x106 x107 x108 x109 x110 x111 x112 x113 x114 x115 x116 x117 x118 x119 x120 x121 x122 x123 x124 x125 x126 x127 x128 x129 x130 x131 x132 x133 x134 x135 x136 x137 x138 x139 x140 x141 x142 x143 x144 x145 x146 x147 x148 x149 x150 x151 x152 x153 x154 x155 x156 x157 x158 x159 x160 x161 x162 x163 x164 x165 x166 x167 x168 x169 x170 x171 x172 x173 x174 x175 x176 x177 x178 x179 x180 x181 x182 x183 x184 x185 x186 x187 x188 x189 x190 x191 x192 x193 x194 x195 x196 x197 x198 x199 x200 x201 x202 x203 x204 x205 x206 x207 x208 x209 x210 x211 x212 x213 x214 x215 x216 x217 x218 x219 x220 x221 x222 x223 x224 x225 x226 x227 x228 x229 x230 x231 x232 x233 x234 x235 x236 x237 x238 x239 x240 x241 x242 x243 x244 : Value) (F : Act → World → Prop)
    (HEX : Hid (∀ (mB' : Nat) (es' : List En) (tm' mk' la' : Int) (w' : World), KMem w' W0 g b c sB mB' N es' tm' mk' → KInv es' tm' mk' la' N (j + 1) → ∀ (y4 y13 y14 y15 y16 y17 y18 y19 y20 y21 y51 y52 y53 y54 y55 y56 y57 y58 y59 y60 y61 y62 y63 y64 y65 y66 y67 y68 y69 y70 y71 y72 y73 y74 y75 y76 y77 y78 y79 y80 y81 y82 y83 y84 y85 y86 y87 y88 y89 y90 y91 y92 y93 y94 y95 y96 y97 y98 y99 y100 y101 y102 y103 y104 y105 y106 y107 y108 y109 y110 y111 y112 y113 y114 y115 y116 y117 y118 y119 y120 y121 y122 y123 y124 y125 y126 y127 y128 y129 y130 y131 y132 y133 y134 y135 y136 y137 y138 y139 y140 y141 y142 y143 y144 y145 y146 y147 y148 y149 y150 y151 y152 y153 y154 y155 y156 y157 y158 y159 y160 y161 y162 y163 y164 y165 y166 y167 y168 y169 y170 y171 y172 y173 y174 y175 y176 y177 y178 y179 y180 y181 y182 y183 y184 y185 y186 y187 y188 y189 y190 y191 y192 y193 y194 y195 y196 y197 y198 y199 y200 y201 y202 y203 y204 y205 y206 y207 y208 y209 y210 y211 y212 y213 y214 y215 y216 y217 y218 y219 y220 y221 y222 y223 y224 y225 y226 y227 y228 y229 y230 y231 y232 y233 y234 y235 y236 y237 y238 y239 y240 y241 y242 y243 y244 : Value), F { tmps := List.toArray ((.int .i64 (N : Int)) :: (.slice a xl c0) :: (x2) :: (x3) :: y4 :: (.pointer (some ⟨g, 0, none⟩)) :: (x6) :: (.slice (some ⟨sB, 0, none⟩) N N) :: (.slice (some ⟨mB', 0, none⟩) N N) :: (x9) :: (.int .i64 tm') :: (.int .i64 la') :: (.int .i64 (j : Int)) :: y13 :: y14 :: y15 :: y16 :: y17 :: y18 :: y19 :: y20 :: y21 :: (x22) :: (x23) :: (x24) :: (x25) :: (x26) :: (x27) :: (x28) :: (x29) :: (x30) :: (x31) :: (x32) :: (x33) :: (x34) :: (x35) :: (x36) :: (x37) :: (x38) :: (x39) :: (x40) :: (x41) :: (x42) :: (x43) :: (x44) :: (x45) :: (x46) :: (x47) :: (x48) :: (x49) :: (x50) :: y51 :: y52 :: y53 :: y54 :: y55 :: y56 :: y57 :: y58 :: y59 :: y60 :: y61 :: y62 :: y63 :: y64 :: y65 :: y66 :: y67 :: y68 :: y69 :: y70 :: y71 :: y72 :: y73 :: y74 :: y75 :: y76 :: y77 :: y78 :: y79 :: y80 :: y81 :: y82 :: y83 :: y84 :: y85 :: y86 :: y87 :: y88 :: y89 :: y90 :: y91 :: y92 :: y93 :: y94 :: y95 :: y96 :: y97 :: y98 :: y99 :: y100 :: y101 :: y102 :: y103 :: y104 :: y105 :: y106 :: y107 :: y108 :: y109 :: y110 :: y111 :: y112 :: y113 :: y114 :: y115 :: y116 :: y117 :: y118 :: y119 :: y120 :: y121 :: y122 :: y123 :: y124 :: y125 :: y126 :: y127 :: y128 :: y129 :: y130 :: y131 :: y132 :: y133 :: y134 :: y135 :: y136 :: y137 :: y138 :: y139 :: y140 :: y141 :: y142 :: y143 :: y144 :: y145 :: y146 :: y147 :: y148 :: y149 :: y150 :: y151 :: y152 :: y153 :: y154 :: y155 :: y156 :: y157 :: y158 :: y159 :: y160 :: y161 :: y162 :: y163 :: y164 :: y165 :: y166 :: y167 :: y168 :: y169 :: y170 :: y171 :: y172 :: y173 :: y174 :: y175 :: y176 :: y177 :: y178 :: y179 :: y180 :: y181 :: y182 :: y183 :: y184 :: y185 :: y186 :: y187 :: y188 :: y189 :: y190 :: y191 :: y192 :: y193 :: y194 :: y195 :: y196 :: y197 :: y198 :: y199 :: y200 :: y201 :: y202 :: y203 :: y204 :: y205 :: y206 :: y207 :: y208 :: y209 :: y210 :: y211 :: y212 :: y213 :: y214 :: y215 :: y216 :: y217 :: y218 :: y219 :: y220 :: y221 :: y222 :: y223 :: y224 :: y225 :: y226 :: y227 :: y228 :: y229 :: y230 :: y231 :: y232 :: y233 :: y234 :: y235 :: y236 :: y237 :: y238 :: y239 :: y240 :: y241 :: y242 :: y243 :: y244 :: []), defers := [] } w')) :
    Code.wp Try.prog (keepsPart 18) (Exit.inBlock 3 (onlyN F)) { tmps := List.toArray ((.int .i64 (N : Int)) :: (.slice a xl c0) :: x2 :: x3 :: x4 :: (.pointer (some ⟨g, 0, none⟩)) :: x6 :: (.slice (some ⟨sB, 0, none⟩) N N) :: (.slice (some ⟨mB, 0, none⟩) N N) :: x9 :: (.int .i64 tm) :: (.int .i64 la) :: (.int .i64 (j : Int)) :: (.pointer (some ⟨ps, 0, none⟩)) :: x14 :: x15 :: x16 :: x17 :: x18 :: x19 :: x20 :: x21 :: x22 :: x23 :: x24 :: x25 :: x26 :: x27 :: x28 :: x29 :: x30 :: x31 :: x32 :: x33 :: x34 :: x35 :: x36 :: x37 :: x38 :: x39 :: x40 :: x41 :: x42 :: x43 :: x44 :: x45 :: x46 :: x47 :: x48 :: x49 :: x50 :: x51 :: x52 :: x53 :: x54 :: x55 :: x56 :: x57 :: x58 :: x59 :: x60 :: x61 :: x62 :: x63 :: x64 :: x65 :: x66 :: x67 :: x68 :: x69 :: x70 :: x71 :: x72 :: x73 :: x74 :: x75 :: x76 :: x77 :: x78 :: x79 :: x80 :: x81 :: x82 :: x83 :: x84 :: x85 :: x86 :: x87 :: x88 :: x89 :: x90 :: x91 :: x92 :: x93 :: x94 :: x95 :: x96 :: x97 :: x98 :: x99 :: x100 :: x101 :: x102 :: x103 :: x104 :: x105 :: x106 :: x107 :: x108 :: x109 :: x110 :: x111 :: x112 :: x113 :: x114 :: x115 :: x116 :: x117 :: x118 :: x119 :: x120 :: x121 :: x122 :: x123 :: x124 :: x125 :: x126 :: x127 :: x128 :: x129 :: x130 :: x131 :: x132 :: x133 :: x134 :: x135 :: x136 :: x137 :: x138 :: x139 :: x140 :: x141 :: x142 :: x143 :: x144 :: x145 :: x146 :: x147 :: x148 :: x149 :: x150 :: x151 :: x152 :: x153 :: x154 :: x155 :: x156 :: x157 :: x158 :: x159 :: x160 :: x161 :: x162 :: x163 :: x164 :: x165 :: x166 :: x167 :: x168 :: x169 :: x170 :: x171 :: x172 :: x173 :: x174 :: x175 :: x176 :: x177 :: x178 :: x179 :: x180 :: x181 :: x182 :: x183 :: x184 :: x185 :: x186 :: x187 :: x188 :: x189 :: x190 :: x191 :: x192 :: x193 :: x194 :: x195 :: x196 :: x197 :: x198 :: x199 :: x200 :: x201 :: x202 :: x203 :: x204 :: x205 :: x206 :: x207 :: x208 :: x209 :: x210 :: x211 :: x212 :: x213 :: x214 :: x215 :: x216 :: x217 :: x218 :: x219 :: x220 :: x221 :: x222 :: x223 :: x224 :: x225 :: x226 :: x227 :: x228 :: x229 :: x230 :: x231 :: x232 :: x233 :: x234 :: x235 :: x236 :: x237 :: x238 :: x239 :: x240 :: x241 :: x242 :: x243 :: x244 :: []), defers := [] } w := by
  conv => arg 2; whnf
  have hla0 := HINV.out.last0
  by_cases hA : x.ch < 0
  · have hA2 : ¬ 0 ≤ x.ch := by omega
    go_wp2
    exact HEX.out mB es tm mk la w HM1.out HINV.out.step _ _ _ _ _ _ _ _ _ _ _ _ _ _ _ _ _ _ _ _ _ _ _ _ _ _ _ _ _ _ _ _ _ _ _ _ _ _ _ _ _ _ _ _ _ _ _ _ _ _ _ _ _ _ _ _ _ _ _ _ _ _ _ _ _ _ _ _ _ _ _ _ _ _ _ _ _ _ _ _ _ _ _ _ _ _ _ _ _ _ _ _ _ _ _ _ _ _ _ _ _ _ _ _ _ _ _ _ _ _ _ _ _ _ _ _ _ _ _ _ _ _ _ _ _ _ _ _ _ _ _ _ _ _ _ _ _ _ _ _ _ _ _ _ _ _ _ _ _ _ _ _ _ _ _ _ _ _ _ _ _ _ _ _ _ _ _ _ _ _ _ _ _ _ _ _ _ _ _ _ _ _ _ _ _ _ _ _ _ _ _ _ _ _ _ _ _ _ _ _ _ _ _ _
  by_cases hA3 : (N : Int) ≤ x.ch
  · have hA2 : 0 ≤ x.ch := by omega
    go_wp2
    exact HEX.out mB es tm mk la w HM1.out HINV.out.step _ _ _ _ _ _ _ _ _ _ _ _ _ _ _ _ _ _ _ _ _ _ _ _ _ _ _ _ _ _ _ _ _ _ _ _ _ _ _ _ _ _ _ _ _ _ _ _ _ _ _ _ _ _ _ _ _ _ _ _ _ _ _ _ _ _ _ _ _ _ _ _ _ _ _ _ _ _ _ _ _ _ _ _ _ _ _ _ _ _ _ _ _ _ _ _ _ _ _ _ _ _ _ _ _ _ _ _ _ _ _ _ _ _ _ _ _ _ _ _ _ _ _ _ _ _ _ _ _ _ _ _ _ _ _ _ _ _ _ _ _ _ _ _ _ _ _ _ _ _ _ _ _ _ _ _ _ _ _ _ _ _ _ _ _ _ _ _ _ _ _ _ _ _ _ _ _ _ _ _ _ _ _ _ _ _ _ _ _ _ _ _ _ _ _ _ _ _ _ _ _ _ _ _
  obtain ⟨i, hxi⟩ : ∃ i : Nat, x.ch = (i : Int) := ⟨x.ch.toNat, by omega⟩
  obtain ⟨xch, xk, xrt, xvs, xt, xm⟩ := x
  simp only at hxi hA hA3 hvl e0 e1 e2 e3 e4 e5 HV1
  subst hxi
  have hiN : i < N := by omega
  have hi : i < es.length := by rw [HINV.out.len]; exact hiN
  have hA2 : (0 : Int) ≤ (i : Int) := by omega
  have hiN' : (i : Int) < (N : Int) := by omega
  have hq := HM1.out.said.at i hiN
  rw [saidL_at es i hi] at hq
  obtain ⟨q, HQ⟩ : ∃ q, Hid (es[i] = q) := ⟨es[i], hidMk rfl⟩
  rw [HQ.out] at hq
  have hwl : wrap64 (la + 1) = la + 1 := w64 (by omega) (by omega)
  have hwl2 : IntKind.i64.wrap (la + 1) = la + 1 := wi64 (by omega) (by omega)
  obtain ⟨sk, HSK⟩ : ∃ sk, Hid (decide ((xk = 1 ∧ xrt < q.t) ∨ (xk = 3 ∧ xm ≠ la + 1)) = sk) := ⟨_, hidMk rfl⟩
  go_upto_region 20 with fail
  go_cut [98] from 51 to 244 (fun v wx => v = .bool sk ∧ Below w.heap.size w wx)
  case first =>
    by_cases hk1 : xk = 1
    · subst hk1
      by_cases hlt : xrt < q.t
      · go_region
        go_wp2
        go_meet
        exact ⟨by rw [← HSK.out]; simp [hlt], (Below.refl _ _).drew⟩
      · have hlt2 : decide (xrt < q.t) = false := by simpa using hlt
        go_region
        go_wp2
        go_meet
        exact ⟨by rw [← HSK.out]; simp [hlt], (Below.refl _ _).drew⟩
    · have hk1d : (xk == 1) = false := by simpa using hk1
      by_cases hk3 : xk = 3
      · subst hk3
        by_cases hm : xm = la + 1
        · subst hm
          go_region
          go_wp2
          go_meet
          exact ⟨by rw [← HSK.out]; simp, (Below.refl _ _).drew⟩
        · have hmd : (xm != la + 1) = true := by simpa using hm
          go_region
          go_wp2
          go_meet
          exact ⟨by rw [← HSK.out]; simp [hm], (Below.refl _ _).drew⟩
      · have hk3d : (xk == 3) = false := by simpa using hk3
        go_region
        go_wp2
        go_meet
        exact ⟨by rw [← HSK.out]; simp [hk1, hk3], (Below.refl _ _).drew⟩
  case rest =>
    obtain ⟨hv98, hbc⟩ := hcut
    subst hv98
    have HM2 : Hid (KMem wc W0 g b c sB mB N es tm mk) := HM1.out.later hbc
    have HV2 : Hid (VLies wc av xvs) := HV1.out.later hbc
    replace e1 := cell_later hbc e1
    replace e2 := cell_later hbc e2
    replace e3 := cell_later hbc e3
    replace e4 := cell_later hbc e4
    replace e5 := cell_later hbc e5
    clear hbc HM1 HV1 e0 hq
    cases sk with
    | true =>
      apply_assumption
      refine wp_cond_true rfl ?_
      go_wp2
      exact HEX.out mB es tm mk la wc HM2.out HINV.out.step _ _ _ _ _ _ _ _ _ _ _ _ _ _ _ _ _ _ _ _ _ _ _ _ _ _ _ _ _ _ _ _ _ _ _ _ _ _ _ _ _ _ _ _ _ _ _ _ _ _ _ _ _ _ _ _ _ _ _ _ _ _ _ _ _ _ _ _ _ _ _ _ _ _ _ _ _ _ _ _ _ _ _ _ _ _ _ _ _ _ _ _ _ _ _ _ _ _ _ _ _ _ _ _ _ _ _ _ _ _ _ _ _ _ _ _ _ _ _ _ _ _ _ _ _ _ _ _ _ _ _ _ _ _ _ _ _ _ _ _ _ _ _ _ _ _ _ _ _ _ _ _ _ _ _ _ _ _ _ _ _ _ _ _ _ _ _ _ _ _ _ _ _ _ _ _ _ _ _ _ _ _ _ _ _ _ _ _ _ _ _ _ _ _ _ _ _ _ _ _ _ _ _ _
    | false =>
      have HNS : Hid (¬ ((xk = 1 ∧ xrt < es[i].t) ∨ (xk = 3 ∧ xm ≠ la + 1))) := by rw [HQ.out]; exact of_decide_eq_false HSK.out
      apply_assumption
      refine wp_cond_false rfl (wp_skip ?_)
      apply_assumption
      exact t21 a xl c0 N g b c sB mB j tm mk la es W0 wc hN1 hN2 ps i hiN hi xk xrt av xvs cv xt xm hvl e1 e2 e3 e4 e5 HV2 HPS HM2 HINV hla hmk1 HNS _ _ _ _ _ _ _ _ _ _ _ _ _ _ _ _ _ _ _ _ _ _ _ _ _ _ _ _ _ _ _ _ _ _ _ _ _ _ _ _ _ _ _ _ _ _ _ _ _ _ _ _ _ _ _ _ _ _ _ _ _ _ _ _ _ _ _ _ _ _ _ _ _ _ _ _ _ _ _ _ _ _ _ _ _ _ _ _ _ _ _ _ _ _ _ _ _ _ _ _ _ _ _ _ _ _ _ _ _ _ _ _ _ _ _ _ _ _ _ _ _ _ _ _ _ _ _ _ _ _ _ _ _ _ _ _ _ _ _ _ _ _ _ _ _ _ _ _ _ _ _ _ _ _ _ _ _ _ _ _ _ _ _ _ _ _ _ _ _ _ _ _ _ _ _ _ _ _ _ _ _ _ _ _ _ _ _ _ _ _ _ _ _ _ _ _ _ _ _ _ _ _ _ _ _ _ _ _ _ _ _ _ _ _ _ _ _ _ _ _ _ _ _ _ _ _ _ _ _ _ _ _ _ _ _ F HEX
end Go.Proofs.Ytpghfopbnicpmaa
