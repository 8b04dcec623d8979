import Derived.Test.YtpghfopbnicpmaaDoorGuD
import Derived.Test.YtpghfopbnicpmaaDoorGuG
namespace Go.Proofs.YtpghfopbnicpmaaDoor
open Go.RowKit
set_option linter.unusedVariables false
set_option linter.unusedSimpArgs false
set_option maxRecDepth 100000
set_option maxHeartbeats 8000000
theorem onlyN_blkQ {Q : Exit → Act → World → Prop} {n : Nat} : ∀ e a w, onlyN (Q .normal) e a w → Exit.inBlock n Q e a w := by
  intro e a w h
  cases e with
  | normal => exact h
  | _ => exact (h : False).elim
theorem onlyN_any {Q : Exit → Act → World → Prop} : ∀ e a w, onlyN (Q .normal) e a w → Q e a w := by
  intro e a w h
  cases e with
  | normal => exact h
  | _ => exact (h : False).elim
theorem stepG_vs (es : List En) (tm mk : Int) (x : Ie) (r : Gn) (h : (stepG es tm mk x).out = some r) : r.vs = x.vs ∨ r.vs = [] := by
  unfold stepG stepTime stepMark at h
  repeat' split at h
  all_goals first
    | (cases h; exact .inl rfl)
    | (cases h; exact .inr rfl)
    | cases h
theorem t11 (a : Option Addr) (xl c0 N g b c d p q cp cq j : Nat) (tm mk : Int) (es : List En) (W0 w : World) (hN2 : N ≤ 64) (hxl : xl ≤ 4398046510976) (x : Ie) (pb off : Nat) (av : Option Addr) (cv : Nat) (ha : a = some ⟨pb, off, none⟩) (hjl : j < xl) (hvl : x.vs.length ≤ 4398046511104) (HET : Hid (Ety W0)) (HM : Hid (SMem w W0 g b c d p q cp cq N es tm mk))
    (d0 : w.cell? ⟨pb, off + j * 6, none⟩ = some (.int .i64 x.ch)) (d1 : w.cell? ⟨pb, off + j * 6 + 1, none⟩ = some (.int .i64 x.k)) (d2 : w.cell? ⟨pb, off + j * 6 + 2, none⟩ = some (.int .i64 x.rt)) (d3 : w.cell? ⟨pb, off + j * 6 + 3, none⟩ = some (.slice av x.vs.length cv)) (d4 : w.cell? ⟨pb, off + j * 6 + 4, none⟩ = some (.int .i64 x.t)) (d5 : w.cell? ⟨pb, off + j * 6 + 5, none⟩ = some (.int .i64 x.m)) (HV : Hid (VLies W0 av x.vs))
    (x2 x3 x4 x6 x7 x10 x11 x12 x13 x14 x15 x16 x17 x18 x19 x20 x21 x22 x23 x24 x25 x26 x27 x28 x29 x30 x31 x32 x33 x34 x35 x36 x37 x38 x39 x40 x41 x42 x43 x44 x45 x46 x47 x48 x49 x50 x51 x52 x53 x54 x55 x56 x57 x58 x59 x60 x61 x62 x63 x64 x65 x66 x67 x68 x69 x70 x71 x72 x73 x74 x75 x76 x77 x78 x79 x80 x81 x82 x83 x84 x85 x86 x87 x88 x89 x90 x91 x92 x93 x94 x95 x96 x97 x98 x99 x100 x101 x102 x103 x104 x105 x106 x107 x108 x109 x110 x111 x112 x113 x114 x115 x116 x117 x118 x119 x120 x121 x122 x123 x124 x125 x126 x127 x128 x129 x130 x131 x132 x133 x134 x135 x136 x137 x138 x139 x140 x141 x142 x143 x144 x145 x146 x147 x148 x149 x150 x151 x152 x153 x154 x155 x156 x157 x158 x159 x160 x161 x162 x163 x164 x165 x166 x167 x168 x169 x170 x171 x172 x173 x174 x175 x176 x177 x178 x179 x180 x181 x182 x183 x184 x185 x186 x187 x188 x189 x190 x191 x192 x193 x194 x195 x196 x197 x198 x199 x200 x201 x202 x203 x204 x205 x206 x207 : Value) (F : Act → World → Prop)
    (HEX : Hid (∀ (es' : List En) (tm' mk' : Int) (w' : World), SMem w' W0 g b c d p q cp cq N es' tm' mk' → ∀ (y4 y10 y11 y12 y13 y14 y15 y16 y17 y18 y19 y20 y21 y22 y50 y51 y52 y53 y54 y55 y56 y57 y58 y59 y60 y61 y62 y63 y64 y65 y66 y67 y68 y69 y70 y71 y72 y73 y74 y75 y76 y77 y78 y79 y80 y81 y82 y83 y84 y85 y86 y87 y88 y89 y90 y91 y92 y93 y94 y95 y96 y97 y98 y99 y100 y101 y102 y103 y104 y105 y106 y107 y108 y109 y110 y111 y112 y113 y114 y115 y116 y117 y118 y119 y120 y121 y122 y123 y124 y125 y126 y127 y128 y129 y130 y131 y132 y133 y134 y135 y136 y137 y138 y139 y140 y141 y142 y143 y144 y145 y146 y147 y148 y149 y150 y151 y152 y153 y154 y155 y156 y157 y158 y159 y160 y161 y162 y163 y164 y165 y166 y167 y168 y169 y170 y171 y172 y173 y174 y175 y176 y177 y178 y179 y180 y181 y182 y183 y184 y185 y186 y187 y188 y189 y190 y191 y192 y193 y194 y195 y196 y197 y198 y199 y200 y201 y202 y203 y204 y205 y206 y207 : Value), F { tmps := List.toArray ((.int .i64 (N : Int)) :: (.slice a xl c0) :: (x2) :: (x3) :: y4 :: (.pointer (some ⟨g, 0, none⟩)) :: (x6) :: (x7) :: (.pointer (some ⟨d, 0, none⟩)) :: (.int .i64 ((j : Int) + 1)) :: y10 :: y11 :: y12 :: y13 :: y14 :: y15 :: y16 :: y17 :: y18 :: y19 :: y20 :: y21 :: y22 :: (x23) :: (x24) :: (x25) :: (x26) :: (x27) :: (x28) :: (x29) :: (x30) :: (x31) :: (x32) :: (x33) :: (x34) :: (x35) :: (x36) :: (x37) :: (x38) :: (x39) :: (x40) :: (x41) :: (x42) :: (x43) :: (x44) :: (x45) :: (x46) :: (x47) :: (x48) :: (x49) :: y50 :: y51 :: y52 :: y53 :: y54 :: y55 :: y56 :: y57 :: y58 :: y59 :: y60 :: y61 :: y62 :: y63 :: y64 :: y65 :: y66 :: y67 :: y68 :: y69 :: y70 :: y71 :: y72 :: y73 :: y74 :: y75 :: y76 :: y77 :: y78 :: y79 :: y80 :: y81 :: y82 :: y83 :: y84 :: y85 :: y86 :: y87 :: y88 :: y89 :: y90 :: y91 :: y92 :: y93 :: y94 :: y95 :: y96 :: y97 :: y98 :: y99 :: y100 :: y101 :: y102 :: y103 :: y104 :: y105 :: y106 :: y107 :: y108 :: y109 :: y110 :: y111 :: y112 :: y113 :: y114 :: y115 :: y116 :: y117 :: y118 :: y119 :: y120 :: y121 :: y122 :: y123 :: y124 :: y125 :: y126 :: y127 :: y128 :: y129 :: y130 :: y131 :: y132 :: y133 :: y134 :: y135 :: y136 :: y137 :: y138 :: y139 :: y140 :: y141 :: y142 :: y143 :: y144 :: y145 :: y146 :: y147 :: y148 :: y149 :: y150 :: y151 :: y152 :: y153 :: y154 :: y155 :: y156 :: y157 :: y158 :: y159 :: y160 :: y161 :: y162 :: y163 :: y164 :: y165 :: y166 :: y167 :: y168 :: y169 :: y170 :: y171 :: y172 :: y173 :: y174 :: y175 :: y176 :: y177 :: y178 :: y179 :: y180 :: y181 :: y182 :: y183 :: y184 :: y185 :: y186 :: y187 :: y188 :: y189 :: y190 :: y191 :: y192 :: y193 :: y194 :: y195 :: y196 :: y197 :: y198 :: y199 :: y200 :: y201 :: y202 :: y203 :: y204 :: y205 :: y206 :: y207 :: []), defers := [] } w')) :
    Code.wp Tryd.prog (stepsPart 11) (onlyN F) { tmps := List.toArray ((.int .i64 (N : Int)) :: (.slice a xl c0) :: x2 :: x3 :: x4 :: (.pointer (some ⟨g, 0, none⟩)) :: x6 :: x7 :: (.pointer (some ⟨d, 0, none⟩)) :: (.int .i64 (j : Int)) :: x10 :: x11 :: x12 :: x13 :: x14 :: x15 :: x16 :: x17 :: x18 :: x19 :: x20 :: x21 :: x22 :: x23 :: x24 :: x25 :: x26 :: x27 :: x28 :: x29 :: x30 :: x31 :: x32 :: x33 :: x34 :: x35 :: x36 :: x37 :: x38 :: x39 :: x40 :: x41 :: x42 :: x43 :: x44 :: x45 :: x46 :: x47 :: x48 :: x49 :: x50 :: x51 :: x52 :: x53 :: x54 :: x55 :: x56 :: x57 :: x58 :: x59 :: x60 :: x61 :: x62 :: x63 :: x64 :: x65 :: x66 :: x67 :: x68 :: x69 :: x70 :: x71 :: x72 :: x73 :: x74 :: x75 :: x76 :: x77 :: x78 :: x79 :: x80 :: x81 :: x82 :: x83 :: x84 :: x85 :: x86 :: x87 :: x88 :: x89 :: x90 :: x91 :: x92 :: x93 :: x94 :: x95 :: x96 :: x97 :: x98 :: x99 :: x100 :: x101 :: x102 :: x103 :: x104 :: x105 :: x106 :: x107 :: x108 :: x109 :: x110 :: x111 :: x112 :: x113 :: x114 :: x115 :: x116 :: x117 :: x118 :: x119 :: x120 :: x121 :: x122 :: x123 :: x124 :: x125 :: x126 :: x127 :: x128 :: x129 :: x130 :: x131 :: x132 :: x133 :: x134 :: x135 :: x136 :: x137 :: x138 :: x139 :: x140 :: x141 :: x142 :: x143 :: x144 :: x145 :: x146 :: x147 :: x148 :: x149 :: x150 :: x151 :: x152 :: x153 :: x154 :: x155 :: x156 :: x157 :: x158 :: x159 :: x160 :: x161 :: x162 :: x163 :: x164 :: x165 :: x166 :: x167 :: x168 :: x169 :: x170 :: x171 :: x172 :: x173 :: x174 :: x175 :: x176 :: x177 :: x178 :: x179 :: x180 :: x181 :: x182 :: x183 :: x184 :: x185 :: x186 :: x187 :: x188 :: x189 :: x190 :: x191 :: x192 :: x193 :: x194 :: x195 :: x196 :: x197 :: x198 :: x199 :: x200 :: x201 :: x202 :: x203 :: x204 :: x205 :: x206 :: x207 :: []), defers := [] } w := by
  conv => arg 2; whnf
  subst ha
  have hj' : (j : Int) < (xl : Int) := by omega
  go_upto_region 11 with fail
  go_cut [10] from 50 to 207 (fun v wx => v = .pointer (some ⟨w.heap.size, 0, none⟩) ∧ wx = w.alloc (.cells #[.int .i64 x.ch, .int .i64 x.k, .int .i64 x.rt, .slice av x.vs.length cv, .int .i64 x.t, .int .i64 x.m] 38))
  case first =>
    go_wp2
    go_meet
    exact ⟨rfl, rfl⟩
  case rest =>
    obtain ⟨rfl, hw1⟩ := hcut
    obtain ⟨ps, hps⟩ : ∃ ps, ps = w.heap.size := ⟨_, rfl⟩
    have hs1 : wc.heap.size = ps + 1 := by rw [hw1, hps]; simp
    have HS1 : Hid (Own wc ps 38 6 [.int .i64 x.ch, .int .i64 x.k, .int .i64 x.rt, .slice av x.vs.length cv, .int .i64 x.t, .int .i64 x.m]) := by
      unfold Hid
      rw [hw1, hps]; exact Own.new w 38 6 #[.int .i64 x.ch, .int .i64 x.k, .int .i64 x.rt, .slice av x.vs.length cv, .int .i64 x.t, .int .i64 x.m] rfl
    have HM1 : Hid (SMem wc W0 g b c d p q cp cq N es tm mk) := by unfold Hid; rw [hw1]; exact HM.out.later (bel1 _ _)
    have HPS : Hid (W0.heap.size ≤ ps ∧ g < ps ∧ b < ps ∧ d < ps ∧ p < ps ∧ q < ps) := by
      obtain ⟨l1, l2, l3, l4, l5⟩ := HM.out.lt
      have := HM.out.bel.size
      rw [hps]
      exact ⟨this, l1, l2, l3, l4, l5⟩
    rw [← hps]
    clear hw1 hps HM d0 d1 d2 d3 d4 d5
    have e0 : wc.cell? ⟨ps, 0, none⟩ = some (.int .i64 x.ch) := HS1.out.cell 0 (by decide)
    have e1 : wc.cell? ⟨ps, 1, none⟩ = some (.int .i64 x.k) := HS1.out.cell 1 (by decide)
    have e2 : wc.cell? ⟨ps, 2, none⟩ = some (.int .i64 x.rt) := HS1.out.cell 2 (by decide)
    have e3 : wc.cell? ⟨ps, 3, none⟩ = some (.slice av x.vs.length cv) := HS1.out.cell 3 (by decide)
    have e4 : wc.cell? ⟨ps, 4, none⟩ = some (.int .i64 x.t) := HS1.out.cell 4 (by decide)
    have e5 : wc.cell? ⟨ps, 5, none⟩ = some (.int .i64 x.m) := HS1.out.cell 5 (by decide)
    go_wp2_with fail
    refine (open_any wc g b c tm mk es HM1.out.gate x.ch).mono ?_
    rintro e w3 ⟨rfl, hw3⟩
    subst hw3
    obtain ⟨v, HVv⟩ : ∃ v, Hid (openB es x.ch = v) := ⟨_, hidMk rfl⟩
    rw [HVv.out]
    go_wp2_with fail
    refine (openD_any w3 d p q cp cq tm mk es HM1.out.doc HM1.out.waits x.ch).mono ?_
    rintro e w4 ⟨rfl, hw4⟩
    subst hw4
    rw [HVv.out]
    go_upto_region 15 with fail
    obtain ⟨w5, hw5⟩ : ∃ w5, w5 = w4.alloc (.cells #[.int .i64 x.k, .int .i64 x.rt, .slice av x.vs.length cv, .int .i64 x.t, .int .i64 x.m] 36) := ⟨_, rfl⟩
    have hs5 : w5.heap.size = ps + 1 + 1 := by rw [hw5]; simp [hs1]
    have HI5 : Hid (Own w5 (ps + 1) 36 5 [.int .i64 x.k, .int .i64 x.rt, .slice av x.vs.length cv, .int .i64 x.t, .int .i64 x.m]) := by
      unfold Hid
      rw [hw5, ← hs1]; exact Own.new w4 36 5 #[.int .i64 x.k, .int .i64 x.rt, .slice av x.vs.length cv, .int .i64 x.t, .int .i64 x.m] rfl
    have hb5 : Below w4.heap.size w4 w5 := by rw [hw5]; exact bel1 _ _
    have HM5 := hidMk (HM1.out.later hb5)
    have HS5 := hidMk (HS1.out.later hb5)
    replace e0 := cell_later hb5 e0
    replace e1 := cell_later hb5 e1
    replace e2 := cell_later hb5 e2
    replace e3 := cell_later hb5 e3
    replace e4 := cell_later hb5 e4
    replace e5 := cell_later hb5 e5
    rw [← hw5]
    clear hw5 hb5 HM1 HS1 hs1
    go_wp2_with fail
    refine (copy_any x.rt av x.vs cv w5 (HV.out.later HM5.out.bel) hvl).mono ?_
    rintro e w6 ⟨a', c', rfl, hO, hb6⟩
    rw [hs5] at hO
    have HM6 := hidMk (HM5.out.later hb6)
    have HS6 := hidMk (HS5.out.later hb6)
    have HI6 := hidMk (HI5.out.later hb6)
    have HO6 := hidMk hO
    have hs6 := hb6.size
    clear hb6 hO HM5 HS5 HI5 e0 e1 e2 e3 e4 e5
    have i1 : w6.cell? ⟨ps + 1, 1, none⟩ = some (.int .i64 x.rt) := HI6.out.cell 1 (by decide)
    have i2 : w6.cell? ⟨ps + 1, 2, none⟩ = some (.slice av x.vs.length cv) := HI6.out.cell 2 (by decide)
    have j1 := HI6.out.soft 1
    have j2 := HI6.out.soft 2
    go_upto_region 16 with fail
    obtain ⟨w7, hw7⟩ : ∃ w7, w7 = (w6.setCell ⟨ps + 1, 1, none⟩ (.int .i64 x.rt)).setCell ⟨ps + 1, 2, none⟩ (.slice a' x.vs.length c') := ⟨_, rfl⟩
    have hP : Own w7 (ps + 1) 36 5 [.int .i64 x.k, .int .i64 x.rt, .slice a' x.vs.length c', .int .i64 x.t, .int .i64 x.m] ∧ w6.grownBy w7 (some (ps + 1)) := by
      obtain ⟨h1, g1⟩ := HI6.out.put 1 (.int .i64 x.rt)
      obtain ⟨h2, g2⟩ := h1.put 2 (.slice a' x.vs.length c')
      rw [hw7]
      exact ⟨h2, grown_trans g1 g2⟩
    obtain ⟨hI7, hg7⟩ := hP
    have HI7 := hidMk hI7
    have HM7 : Hid (SMem w7 W0 g b c d p q cp cq N es tm mk) := HM6.out.grown hg7 (fun k hk => by cases hk; have := HPS.out; omega)
    have HS7 : Hid (Own w7 ps 38 6 [.int .i64 x.ch, .int .i64 x.k, .int .i64 x.rt, .slice av x.vs.length cv, .int .i64 x.t, .int .i64 x.m]) := HS6.out.grown hg7 (fun e => by have := Option.some.inj e; omega)
    have HO7 : Hid (OV w7 (ps + 1 + 1) (.slice a' x.vs.length c') x.vs) := HO6.out.grown hg7 (fun k hk => by cases hk; omega)
    have hs7 : w6.heap.size ≤ w7.heap.size := hg7.size
    rw [← hw7]
    clear hw7 hI7 hg7 HM6 HS6 HI6 HO6 i1 i2 j1 j2
    have e0 : w7.cell? ⟨ps, 0, none⟩ = some (.int .i64 x.ch) := HS7.out.cell 0 (by decide)
    have i0 : w7.cell? ⟨ps + 1, 0, none⟩ = some (.int .i64 x.k) := HI7.out.cell 0 (by decide)
    have i1 : w7.cell? ⟨ps + 1, 1, none⟩ = some (.int .i64 x.rt) := HI7.out.cell 1 (by decide)
    have i2 : w7.cell? ⟨ps + 1, 2, none⟩ = some (.slice a' x.vs.length c') := HI7.out.cell 2 (by decide)
    have i3 : w7.cell? ⟨ps + 1, 3, none⟩ = some (.int .i64 x.t) := HI7.out.cell 3 (by decide)
    have i4 : w7.cell? ⟨ps + 1, 4, none⟩ = some (.int .i64 x.m) := HI7.out.cell 4 (by decide)
    have HVL7 : Hid (VLies w7 a' x.vs) := by
      obtain ⟨a2, c2, ee, hh, -⟩ := HO7.out.form
      injection ee with e1 e2 e3
      rw [e1]; exact hh
    go_wp2_with fail
    refine (takeP_any w7 g b c tm mk es HM7.out.gate (by rw [HM7.out.len]; exact hN2) x a' c' HVL7.out hvl).mono ?_
    rintro e w8 ⟨hch, hgt, x14v, rfl, hans⟩
    have HCH := hidMk hch
    have HGT := hidMk hgt
    have HA8 := hidMk hans
    have hpg : ps ≠ g ∧ ps ≠ b := by have := HPS.out; omega
    have HB8 : Hid (Below W0.heap.size W0 w8) := Ch.below HM7.out.bel hch HM7.out.bel.size HM7.out.big.1 HM7.out.big.2.1
    have k0 : w8.cell? ⟨ps, 0, none⟩ = some (.int .i64 x.ch) := hch.cell (HS7.out.cell 0 (by decide)) hpg.1 hpg.2
    have k1 : w8.cell? ⟨ps, 1, none⟩ = some (.int .i64 x.k) := hch.cell (HS7.out.cell 1 (by decide)) hpg.1 hpg.2
    have k2 : w8.cell? ⟨ps, 2, none⟩ = some (.int .i64 x.rt) := hch.cell (HS7.out.cell 2 (by decide)) hpg.1 hpg.2
    have k3 : w8.cell? ⟨ps, 3, none⟩ = some (.slice av x.vs.length cv) := hch.cell (HS7.out.cell 3 (by decide)) hpg.1 hpg.2
    have k4 : w8.cell? ⟨ps, 4, none⟩ = some (.int .i64 x.t) := hch.cell (HS7.out.cell 4 (by decide)) hpg.1 hpg.2
    have k5 : w8.cell? ⟨ps, 5, none⟩ = some (.int .i64 x.m) := hch.cell (HS7.out.cell 5 (by decide)) hpg.1 hpg.2
    clear hch hgt hans e0 i0 i1 i2 i3 i4 HVL7
    go_wp2_with fail
    refine (takeDo_any w8 d p q cp cq tm mk es (HM7.out.docAt HCH.out) HM7.out.waits (by rw [HM7.out.len]; exact hN2) x av cv (HV.out.later HB8.out) hvl).mono ?_
    rintro e w9 ⟨hch3, hgr, x16v, rfl, hans2⟩
    have HM9 : Hid (SMem w9 W0 g b c d p q cp cq N (stepG es tm mk x).es (stepG es tm mk x).tm (stepG es tm mk x).mq) := HM7.out.step HCH.out HGT.out hch3 hgr (stepG_waits es tm mk x HM7.out.waits) (by rw [stepG_len]; exact HM7.out.len)
    have hsz8 := HCH.out.size
    have hsz9 := hch3.size
    have HA9 : Hid (Ans w7.heap.size w9 (stepG es tm mk x).out x14v) := HA8.out.kept (fun i hi hB => hch3.block i hi (by have := HPS.out; omega) (by have := HPS.out; omega) (by have := HPS.out; omega))
    have HD9 : Hid (Ans w7.heap.size w9 (stepG es tm mk x).out x16v) := hans2.base hsz8
    have HK9 : Hid (∀ i, i < w7.heap.size → ps ≤ i → w9.heap[i]? = w7.heap[i]?) := fun i hi hp => (hch3.block i (by omega) (by have := HPS.out; omega) (by have := HPS.out; omega) (by have := HPS.out; omega)).trans (HCH.out.block i hi (by have := HPS.out; omega) (by have := HPS.out; omega))
    have HO9 : Hid (w9.ownsRow (ps + 1 + 1) 48 3 (.slice a' x.vs.length c') x.vs.length (x.vs.flatMap cellsV)) := own_kept HO7.out (fun k hk hlt => HK9.out k hlt (by have := (World.ownsRow.lt HO7.out k hk).1; omega))
    have HLT : Hid (∀ k, (Value.slice a' x.vs.length c').ownBlock = some k → ps + 1 + 1 ≤ k ∧ k < w7.heap.size) := fun k hk => World.ownsRow.lt HO7.out k hk
    have m2 : w9.cell? ⟨ps + 1, 2, none⟩ = some (.slice a' x.vs.length c') := cell_kept (HI7.out.cell 2 (by decide)) (HK9.out _ (by have := HI7.out.lt; omega) (by show ps ≤ ps + 1; omega))
    have HOV : Hid (∀ r, (stepG es tm mk x).out = some r → r.vs.length ≤ 4398046511104) := fun r hr => by
      rcases stepG_vs es tm mk x r hr with h | h
      · rw [h]; exact hvl
      · rw [h]; simp
    have hsW : w7.heap.size ≤ w9.heap.size := by omega
    clear hch3 hgr hans2 k0 k1 k2 k3 k4 k5 HA8 HGT HB8 HI7 HS7 HO7 HCH HK9 hsz8 hsz9 hs5 hs6 hs7
    generalize w7.heap.size = B at *
    generalize stepG es tm mk x = o at *
    clear HM7 HVv
    go_wp2
    refine wp_mono (t19 (ps + 1) x.vs.length c' (ps + 1 + 1) a' (x.vs.flatMap cellsV) w9 hvl HO9 (len_cellsV x.vs) m2 (hidMk (by omega)) _ _ _ _ _ _ _ _ _ _ _ _ _ _ _ _ _ _ _ _ _ _ _ _ _ _ _ _ _ _ _ _ _ _ _ _ _ _ _ _ _ _ _ _ _ _ _ _ _ _ _ _ _ _ _ _ _ _ _ _ _ _ _ _ _ _ _ _ _ _ _ _ _ _ _ _ _ _ _ _ _ _ _ _ _ _ _ _ _ _ _ _ _ _ _ _ _ _ _ _ _ _ _ _ _ _ _ _ _ _ _ _ _ _ _ _ _ _ _ _ _ _ _ _ _ _ _ _ _ _ _ _ _ _ _ _ _ _ _ _ _ _ _ _ _ _ _ _ _ _ _ _ _ _ _ _ _ _ _ _ _ _ _ _ _ _ _ _ _ _ _ _ _ _ _ _ _ _ _ _ _ _ _ _ _ _ _ _ _ _ _ _ _ _ _ _ _ _ _ _ _ _ _ _ _ _ _ ?hx) onlyN_le
    case hx =>
      intro z0 z1 z2 z3 z4 z5 z6 z7 z8 z9 z10 z11 z12 z13 z14 w10 hg10
      have HM10 : Hid (SMem w10 W0 g b c d p q cp cq N o.es o.tm o.mq) := HM9.out.grown hg10 (fun k hk => by have h1 := HLT.out k hk; have h2 := HPS.out; omega)
      have HK10 : Hid (∀ i, i < w9.heap.size → B ≤ i → w10.heap[i]? = w9.heap[i]?) := fun i hi hB => hg10.block i hi (fun e => by have := (HLT.out i e.symm).2; omega)
      have HA10 := hidMk (HA9.out.kept HK10.out)
      have HD10 := hidMk (HD9.out.kept HK10.out)
      have HE10 : Hid (Ety w10) := HET.out.later HM10.out.bel
      clear hg10 HK10 HA9 HD9 HO9 m2 HLT HM9
      apply_assumption
      refine wp_mono (t22 _ xl c0 N g b c d p q cp cq j tm mk es W0 w10 o v B x14v x16v HE10 HA10 HD10 HM10 HOV _ _ _ _ _ _ _ _ _ _ _ _ _ _ _ _ _ _ _ _ _ _ _ _ _ _ _ _ _ _ _ _ _ _ _ _ _ _ _ _ _ _ _ _ _ _ _ _ _ _ _ _ _ _ _ _ _ _ _ _ _ _ _ _ _ _ _ _ _ _ _ _ _ _ _ _ _ _ _ _ _ _ _ _ _ _ _ _ _ _ _ _ _ _ _ _ _ _ _ _ _ _ _ _ _ _ _ _ _ _ _ _ _ _ _ _ _ _ _ _ _ _ _ _ _ _ _ _ _ _ _ _ _ _ _ _ _ _ _ _ _ _ _ _ _ _ _ _ _ _ _ _ _ _ _ _ _ _ _ _ _ _ _ _ _ _ _ _ _ _ _ _ _ _ _ _ _ _ _ _ _ _ _ _ _ _ _ _ _ _ _ _ _ _ _ _ _ _ ?hy) onlyN_blkQ
      case hy =>
        intro es' tm' mk' w11 hm h0 h1 h2 h3 h4 h5 h6 h7 h8 h9 h10 h11 h12 h13 h14 h15 h16 h17 h18 h19 h20 h21 h22 h23 h24 h25 h26 h27 h28 h29 h30 h31 h32 h33 h34 h35 h36 h37 h38 h39 h40 h41 h42 h43 h44 h45 h46 h47 h48 h49 h50 h51 h52 h53 h54 h55 h56 h57 h58 h59 h60 h61 h62 h63 h64 h65 h66 h67 h68 h69 h70 h71 h72 h73 h74 h75 h76 h77 h78 h79 h80 h81 h82 h83 h84 h85 h86 h87 h88 h89 h90 h91 h92 h93 h94 h95 h96 h97 h98 h99 h100 h101 h102 h103 h104 h105 h106 h107 h108 h109 h110 h111 h112 h113 h114 h115 h116 h117 h118 h119 h120 h121 h122 h123 h124 h125 h126 h127 h128 h129 h130 h131 h132 h133 h134 h135 h136 h137 h138 h139 h140 h141 h142 h143 h144 h145 h146 h147 h148 h149 h150 h151 h152 h153 h154 h155 h156 h157 h158 h159 h160 h161 h162 h163 h164 h165 h166 h167 h168 h169 h170 h171
        have HMN := hidMk hm
        have hwj : wrap64 ((j : Int) + 1) = (j : Int) + 1 := w64 (by omega) (by omega)
        clear hm HM10 HA10 HD10 HE10
        apply_assumption
        go_wp2
        exact HEX.out es' tm' mk' w11 HMN.out _ _ _ _ _ _ _ _ _ _ _ _ _ _ _ _ _ _ _ _ _ _ _ _ _ _ _ _ _ _ _ _ _ _ _ _ _ _ _ _ _ _ _ _ _ _ _ _ _ _ _ _ _ _ _ _ _ _ _ _ _ _ _ _ _ _ _ _ _ _ _ _ _ _ _ _ _ _ _ _ _ _ _ _ _ _ _ _ _ _ _ _ _ _ _ _ _ _ _ _ _ _ _ _ _ _ _ _ _ _ _ _ _ _ _ _ _ _ _ _ _ _ _ _ _ _ _ _ _ _ _ _ _ _ _ _ _ _ _ _ _ _ _ _ _ _ _ _ _ _ _ _ _ _ _ _ _ _ _ _ _ _ _ _ _ _ _ _ _ _ _ _
end Go.Proofs.YtpghfopbnicpmaaDoor
