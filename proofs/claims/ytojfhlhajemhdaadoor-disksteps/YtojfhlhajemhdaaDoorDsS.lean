import Derived.Test.YtojfhlhajemhdaaDoorDsR
namespace Go.Proofs.YtojfhlhajemhdaaDoor
open Go.RowKit
set_option linter.unusedVariables false
set_option linter.unusedSimpArgs false
set_option maxRecDepth 100000
set_option maxHeartbeats 8000000

theorem DInv.mid {W w w2 w3 wr : World} {d mb inb : Nat} {lv lv' x : Value} {fs : List Fl} {f : Fl} (h : DInv W w d mb lv x fs) (hB : Below w.heap.size w w2) (hin : w.heap.size ≤ inb) (hin2 : inb < w2.heap.size) (hG : Gs (dS d mb lv) w2 w3) (hP : PD w3 W.heap.size d mb lv' (fs ++ [f]))
    (hlv : ∀ k, lv'.ownBlock = some k → lv.ownBlock = some k ∨ w2.heap.size ≤ k) (hpa : ∀ y, f.pa = some y → w2.heap.size ≤ y.block) (hGr : Gs (fun i => i = inb) w3 wr) :
    LF wr W.heap.size x fs ∧ PD wr W.heap.size d mb lv' (fs ++ [f]) ∧ Below W.heap.size W wr := by
  have h2 := h.later hB
  have hD := h2.did hG
  have hdl := h.pd.dlt
  have s1 := h.bel.size
  refine ⟨hGr.own hD.1 (fun g hg s => ?_), hP.kept hGr (fun i s q => ?_) (fun i s g hg y hy q => ?_), hD.2.trans (hGr.toBelow hD.2.size (fun i s => by omega))⟩
  · have := (h.xlt g hg).2; omega
  · subst s
    rcases q with q | q | q
    · have := hdl d (.inl rfl); omega
    · have := hdl mb (.inr (.inl rfl)); omega
    · rcases hlv i q.symm with q | q
      · have := hdl i (.inr (.inr q.symm)); omega
      · omega
  · subst s
    rcases List.mem_append.1 hg with hg | hg
    · have := (h.pd.ap g hg y hy).2.1; omega
    · rw [List.mem_singleton.1 hg] at hy
      have := hpa y hy; omega
theorem DInv.wrote {W w w2 w3 wr w5 : World} {o : Obj} {d mb inb : Nat} {lv lv' x x' : Value} {fs : List Fl} {f : Fl} (h : DInv W w d mb lv x fs) (hB : Below w.heap.size w w2) (hin : w.heap.size ≤ inb) (hin2 : inb < w2.heap.size) (hG : Gs (dS d mb lv) w2 w3) (hP : PD w3 W.heap.size d mb lv' (fs ++ [f]))
    (hlv : ∀ k, lv'.ownBlock = some k → lv.ownBlock = some k ∨ w2.heap.size ≤ k) (hpa : ∀ y, f.pa = some y → w2.heap.size ≤ y.block) (hGr : Gs (fun i => i = inb) w3 wr) (hf : Lw W f)
    (hrow : w5.ownsRow W.heap.size 36 3 x' (fs.length + 1) (fs.flatMap cellsF ++ cellsF f)) (hg5 : (wr.alloc o).grownBy w5 x.ownBlock) (hat : x'.ownBlock = x.ownBlock ∨ x'.ownBlock = some (wr.heap.size + 1)) : DInv W w5 d mb lv' x' (fs ++ [f]) := by
  obtain ⟨m1, m2, m3⟩ := h.mid hB hin hin2 hG hP hlv hpa hGr
  have hdl := h.pd.dlt
  have s1 := h.bel.size
  have s2 := hB.size
  have s3 := hG.size
  have s4 := hGr.size
  have Gt : Gs (fun i => some i = x.ownBlock) wr w5 := (Gs.below (bel1 wr o)).trans (Gs.one hg5 fun k hk => hk.symm)
  have n1 : ∀ i, some i = x.ownBlock → ¬ dS d mb lv' i := fun i hi q => by
    have hx := (h.xlt i hi.symm).2
    rcases q with q | q | q
    · exact h.ap1 i hi.symm (.inl q)
    · exact h.ap1 i hi.symm (.inr (.inl q))
    · rcases hlv i q.symm with q | q
      · exact h.ap1 i hi.symm (.inr (.inr q.symm))
      · omega
  have n2 : ∀ g ∈ fs ++ [f], ∀ y, g.pa = some y → some y.block ≠ x.ownBlock := fun g hg y hy e => by
    rcases List.mem_append.1 hg with hg | hg
    · exact h.ap2 g hg y hy e
    · rw [List.mem_singleton.1 hg] at hy
      have := hpa y hy
      have := (h.xlt _ e.symm).2
      omega
  refine ⟨m2.kept Gt n1 (fun i s g hg y hy q => n2 g hg y hy (by rw [q]; exact s)), LF.more hrow, m3.trans (Gt.toBelow m3.size (fun i s => (h.xlt i s.symm).1)), fun g hg => ?_, fun g hg q => ?_, fun g hg y hy e => ?_⟩
  · rcases List.mem_append.1 hg with hg | hg
    · exact h.law g hg
    · rw [List.mem_singleton.1 hg]; exact hf
  · rcases hat with e | e
    · exact n1 g (by rw [← e]; exact hg.symm) q
    · rw [e] at hg; have := Option.some.inj hg; have := m2.dlt g q; omega
  · rcases hat with e2 | e2
    · exact n2 g hg y hy (by rw [← e2]; exact e)
    · rw [e2] at e; have := Option.some.inj e; have := (m2.ap g hg y hy).2.1; omega
theorem ol_copied {w' : World} {g n : Nat} {bl : List UInt8} (hn : n = bl.length) (hl : n ≤ 140737488355328) (h : w'.heap[g]? = some (.cells (bl.map u8v).toArray 5 (0, 0))) : OL w' g (.slice (some ⟨g, 0, none⟩) n n) bl := by
  subst hn
  exact ⟨by simp, .inr ⟨g, bl.length, _, rfl, Nat.le_refl _, h, Nat.le_refl _, by unfold maxLen; omega, by simp, by rw [Nat.mul_one, List.toList_toArray, List.take_of_length_le (by rw [List.length_map]; exact Nat.le_refl _)]⟩⟩
theorem t17n (a : Option Addr) (xl c0 d mb j : Nat) (ax : Option Addr) (cx : Nat) (lv : Value) (fs : List Fl) (W0 w : World) (hn : fs.length ≤ 2513169434879) (HI : Hid (DInv W0 w d mb lv (.slice ax fs.length cx) fs)) (ob : Nat) (kd oa : Int) (nm : ByteArray) (da : Option Addr) (bl : List UInt8) (dc : Nat) (hoa : -9223372036854775808 ≤ oa ∧ oa ≤ 9223372036854775807) (HOB : Hid (Own w ob 28 4 [.int .i64 kd, .int .i64 oa, .string nm, .slice da bl.length dc])) (HLT : Hid (∀ i, dS d mb lv i → i < ob)) (HXL : Hid (∀ g, (Value.slice ax fs.length cx).ownBlock = some g → g < ob)) (HDA : Hid (Bytes W0 da bl.length (lat bl) ∧ bl.length ≤ dc ∧ True ∧ nm.size ≤ maxLen ∧ bl.length ≤ 140737488355328)) (HIN : Hid (nm ∉ fs.map (·.nm)))
    (x1 x2 x8 x9 x10 x11 x12 x13 x14 x15 x16 x17 x18 x19 x20 x21 x22 x23 x24 x25 x26 x27 x28 x29 x30 x31 x32 x33 x34 x35 x36 x37 x38 x39 x40 x41 x42 x43 x44 x45 x46 x47 x48 x49 x50 x51 x52 x53 x54 x55 x56 x57 x58 x59 x60 x61 x62 x63 x64 x65 x66 x67 x68 x69 x70 x71 x72 x73 x74 x75 x76 x77 x78 x79 x80 x81 x82 x83 x84 x85 x86 x87 x88 x89 x90 x91 x92 x93 x94 x95 x96 x97 x98 x99 x100 x101 x102 x103 x104 x105 x106 x107 x108 x109 x110 x111 x112 x113 x114 x115 x116 x117 x118 x119 x120 x121 x122 x123 x124 x125 x126 x127 x128 x129 x130 x131 x132 x133 x134 x135 x136 x137 x138 x139 x140 x141 x142 x143 x144 x145 x146 x147 x148 x149 x150 x151 x152 x153 x154 x155 x156 x157 x158 x159 x160 x161 x162 x163 x164 x165 x166 x167 x168 x169 x170 x171 x172 x173 x174 x175 x176 x177 x178 x179 x180 x181 x182 x183 x184 x185 x186 x187 x188 x189 x190 x191 x192 x193 x194 x195 x196 x197 x198 : Value) (F : Act → World → Prop)
    (HEX : Hid (∀ (fs' : List Fl) (lv' : Value) (ax' : Option Addr) (cx' : Nat) (w' : World), DInv W0 w' d mb lv' (.slice ax' fs'.length cx') fs' → fs'.length ≤ fs.length + 1 → ∀ (y6 y7 y8 y9 y10 y11 y12 y13 y14 y15 y16 y17 y18 y19 y20 y21 y25 y26 y27 y28 y29 y30 y31 y32 y33 y34 y35 y36 y37 y38 y39 y40 y41 y42 y43 y44 y45 y46 y47 y48 y49 y50 y51 y52 y53 y54 y55 y56 y57 y58 y59 y60 y61 y62 y63 y64 y65 y66 y67 y68 y69 y70 y71 y72 y73 y74 y75 y76 y77 y78 y79 y80 y81 y82 y83 y84 y85 y86 y87 y88 y89 y90 y91 y92 y93 y94 y95 y96 y97 y98 y99 y100 y101 y102 y103 y104 y105 y106 y107 y108 y109 y110 y111 y112 y113 y114 y115 y116 y117 y118 y119 y120 y121 y122 y123 y124 y125 y126 y127 y128 y129 y130 y131 y132 y133 y134 y135 y136 y137 y138 y139 y140 y141 y142 y143 y144 y145 y146 y147 y148 y149 y150 y151 y152 y153 y154 y155 y156 y157 y158 y159 y160 y161 y162 y163 y164 y165 y166 y167 y168 y169 y170 y171 y172 y173 y174 y175 y176 y177 y178 y179 y180 y181 y182 y183 y184 y185 y186 y187 y188 y189 y190 y191 y192 y193 y194 y195 y196 y197 y198 : Value), F { tmps := List.toArray ((.slice a xl c0) :: (x1) :: (x2) :: (.pointer (some ⟨d, 0, none⟩)) :: (.slice ax' fs'.length cx') :: (.int .i64 (j : Int)) :: y6 :: y7 :: y8 :: y9 :: y10 :: y11 :: y12 :: y13 :: y14 :: y15 :: y16 :: y17 :: y18 :: y19 :: y20 :: y21 :: (x22) :: (x23) :: (x24) :: y25 :: y26 :: y27 :: y28 :: y29 :: y30 :: y31 :: y32 :: y33 :: y34 :: y35 :: y36 :: y37 :: y38 :: y39 :: y40 :: y41 :: y42 :: y43 :: y44 :: y45 :: y46 :: y47 :: y48 :: y49 :: y50 :: y51 :: y52 :: y53 :: y54 :: y55 :: y56 :: y57 :: y58 :: y59 :: y60 :: y61 :: y62 :: y63 :: y64 :: y65 :: y66 :: y67 :: y68 :: y69 :: y70 :: y71 :: y72 :: y73 :: y74 :: y75 :: y76 :: y77 :: y78 :: y79 :: y80 :: y81 :: y82 :: y83 :: y84 :: y85 :: y86 :: y87 :: y88 :: y89 :: y90 :: y91 :: y92 :: y93 :: y94 :: y95 :: y96 :: y97 :: y98 :: y99 :: y100 :: y101 :: y102 :: y103 :: y104 :: y105 :: y106 :: y107 :: y108 :: y109 :: y110 :: y111 :: y112 :: y113 :: y114 :: y115 :: y116 :: y117 :: y118 :: y119 :: y120 :: y121 :: y122 :: y123 :: y124 :: y125 :: y126 :: y127 :: y128 :: y129 :: y130 :: y131 :: y132 :: y133 :: y134 :: y135 :: y136 :: y137 :: y138 :: y139 :: y140 :: y141 :: y142 :: y143 :: y144 :: y145 :: y146 :: y147 :: y148 :: y149 :: y150 :: y151 :: y152 :: y153 :: y154 :: y155 :: y156 :: y157 :: y158 :: y159 :: y160 :: y161 :: y162 :: y163 :: y164 :: y165 :: y166 :: y167 :: y168 :: y169 :: y170 :: y171 :: y172 :: y173 :: y174 :: y175 :: y176 :: y177 :: y178 :: y179 :: y180 :: y181 :: y182 :: y183 :: y184 :: y185 :: y186 :: y187 :: y188 :: y189 :: y190 :: y191 :: y192 :: y193 :: y194 :: y195 :: y196 :: y197 :: y198 :: []), defers := [] } w')) :
    Code.wp Tryd.prog (stepsPart 17) (onlyN F) { tmps := List.toArray ((.slice a xl c0) :: x1 :: x2 :: (.pointer (some ⟨d, 0, none⟩)) :: (.slice ax fs.length cx) :: (.int .i64 (j : Int)) :: (.pointer (some ⟨ob, 0, none⟩)) :: (.int .i64 (-1)) :: x8 :: x9 :: x10 :: x11 :: x12 :: x13 :: x14 :: x15 :: x16 :: x17 :: x18 :: x19 :: x20 :: x21 :: x22 :: x23 :: x24 :: x25 :: x26 :: x27 :: x28 :: x29 :: x30 :: x31 :: x32 :: x33 :: x34 :: x35 :: x36 :: x37 :: x38 :: x39 :: x40 :: x41 :: x42 :: x43 :: x44 :: x45 :: x46 :: x47 :: x48 :: x49 :: x50 :: x51 :: x52 :: x53 :: x54 :: x55 :: x56 :: x57 :: x58 :: x59 :: x60 :: x61 :: x62 :: x63 :: x64 :: x65 :: x66 :: x67 :: x68 :: x69 :: x70 :: x71 :: x72 :: x73 :: x74 :: x75 :: x76 :: x77 :: x78 :: x79 :: x80 :: x81 :: x82 :: x83 :: x84 :: x85 :: x86 :: x87 :: x88 :: x89 :: x90 :: x91 :: x92 :: x93 :: x94 :: x95 :: x96 :: x97 :: x98 :: x99 :: x100 :: x101 :: x102 :: x103 :: x104 :: x105 :: x106 :: x107 :: x108 :: x109 :: x110 :: x111 :: x112 :: x113 :: x114 :: x115 :: x116 :: x117 :: x118 :: x119 :: x120 :: x121 :: x122 :: x123 :: x124 :: x125 :: x126 :: x127 :: x128 :: x129 :: x130 :: x131 :: x132 :: x133 :: x134 :: x135 :: x136 :: x137 :: x138 :: x139 :: x140 :: x141 :: x142 :: x143 :: x144 :: x145 :: x146 :: x147 :: x148 :: x149 :: x150 :: x151 :: x152 :: x153 :: x154 :: x155 :: x156 :: x157 :: x158 :: x159 :: x160 :: x161 :: x162 :: x163 :: x164 :: x165 :: x166 :: x167 :: x168 :: x169 :: x170 :: x171 :: x172 :: x173 :: x174 :: x175 :: x176 :: x177 :: x178 :: x179 :: x180 :: x181 :: x182 :: x183 :: x184 :: x185 :: x186 :: x187 :: x188 :: x189 :: x190 :: x191 :: x192 :: x193 :: x194 :: x195 :: x196 :: x197 :: x198 :: []), defers := [] } w := by
  conv => arg 2; whnf
  have o0 : w.cell? ⟨ob, 0, none⟩ = some (.int .i64 kd) := HOB.out.cell 0 (by decide)
  have o1 : w.cell? ⟨ob, 1, none⟩ = some (.int .i64 oa) := HOB.out.cell 1 (by decide)
  have o2 : w.cell? ⟨ob, 2, none⟩ = some (.string nm) := HOB.out.cell 2 (by decide)
  have o3 : w.cell? ⟨ob, 3, none⟩ = some (.slice da bl.length dc) := HOB.out.cell 3 (by decide)
  have hbl := HDA.out.2.2.2.2
  have hmk := run_make_row' (P := Tryd.prog) 26 5 (.int .u8 0) 1 Tryd.underlying26 info5 rfl .i64 .i64 bl.length (by omega) (by omega)
  have hb0 := bel1 w (.cells (madeCells #[.int .u8 0] bl.length) 5)
  have q3 : (w.alloc (.cells (madeCells #[.int .u8 0] bl.length) 5)).cell? ⟨ob, 3, none⟩ = some (.slice da bl.length dc) := cell_later hb0 o3
  have HSRC : Hid (Bytes (w.alloc (.cells (madeCells #[.int .u8 0] bl.length) 5)) da bl.length (lat bl)) := HDA.out.1.later (HI.out.bel.trans (hb0.mono HI.out.bel.size))
  have HG0 : Hid ((w.alloc (.cells (madeCells #[.int .u8 0] bl.length) 5)).heap[w.heap.size]? = some (.cells (List.replicate bl.length (.int .u8 0)).toArray 5 (0, 0))) := by
    unfold Hid
    rw [heap_alloc_new w _]
    congr 2
    rw [← toList_madeCells_one]
  have hlen : (bl.map u8v).length = Nat.min bl.length bl.length := by simp
  clear hb0
  go_wp2_with (first
    | (refine wpList_copy_splice rfl _ _ 26 26 rfl 5 Tryd.underlying26 size5 _ _ bl.length bl.length bl.length dc rfl rfl w.heap.size 0 (List.replicate bl.length (.int .u8 0)) 5 HG0.out (bl.map u8v) hlen ?c1 (by simp) (by intro v hv; obtain ⟨z, _, rfl⟩ := List.mem_map.1 hv; rfl) w.heap.size w (bel1 w _) (Nat.le_refl _) ?_))
  case c1 =>
    intro h0
    have h0' : 0 < bl.length := by simpa using h0
    obtain ⟨b, off, rfl, _⟩ := HSRC.out 0 h0'
    refine ⟨_, rfl, ?_⟩
    intro j v hj
    have hj' : j < bl.length := (List.getElem?_eq_some_iff.1 hj).1
    obtain ⟨b', off', e, hc⟩ := HSRC.out j hj'
    simp only [Option.some.injEq, Addr.mk.injEq, and_true] at e
    obtain ⟨rfl, rfl⟩ := e
    rw [WideShapes.add_plain, hc]
    have hv : lat bl j = v := by simp [lat, hj]
    rw [hv]; rfl
  intro w2 hrow hB
  have hB2 : Below w.heap.size w w2 := hB
  have HOL : Hid (OL w2 w.heap.size (.slice (some ⟨w.heap.size, 0, none⟩) bl.length bl.length) bl) := by
    refine ol_copied rfl hbl ?_
    have := hrow.out
    simpa [splice] using this
  have hin2 : w.heap.size < w2.heap.size := (World.ownsRow.lt HOL.out w.heap.size rfl).2
  have r2 : w2.cell? ⟨ob, 2, none⟩ = some (.string nm) := cell_later hB2 o2
  have HOB2 := hidMk (Own.later HOB.out hB2)
  have HB2 := hidMk hB2
  have HI2 := hidMk (HI.out.later hB2)
  have hob : ob < w.heap.size := HOB.out.lt
  clear hrow hB hB2 hmk q3 HSRC HG0 hlen o0 o1 o2 o3
  have HC := hidMk (write_new w2 _ d mb lv fs nm (some ⟨w.heap.size, 0, none⟩) bl bl.length da dc HI2.out.pd HDA.out.2.2.2.1 HIN.out HOL.out.bytes.2 hbl (by omega) HI2.out.bel.size)
  go_wp2_with fail
  refine HC.out.mono ?_
  rintro e w3 ⟨rfl, hG, lv', pa, pc, hP, hlv, hpa⟩
  have HOL3 : Hid (OL w3 w.heap.size (.slice (some ⟨w.heap.size, 0, none⟩) bl.length bl.length) bl) := hG.own HOL.out (fun g hg s => by cases hg; exact Nat.lt_irrefl _ (HI.out.pd.dlt _ s))
  have HOB3 := hidMk (hG.own HOB2.out (fun g hg s => by cases hg; exact Nat.lt_irrefl _ (HLT.out _ s)))
  have HG := hidMk hG
  have HP := hidMk hP
  have HLV := hidMk hlv
  have HPA := hidMk hpa
  clear hG hP hlv hpa HC HOB HOB2 HOL r2
  go_wp2_with fail
  refine (told_nil w3).mono ?_
  rintro e w3' ⟨rfl, hw3⟩
  subst hw3
  go_wp2_with fail
  go_loopg [11] bl.length (fun gk i wr => ∃ (m : Nat) (ys : List UInt8), gk + m = bl.length ∧ i = .int .i64 m ∧ ys.length = bl.length ∧ wr.ownsRow w.heap.size 5 1 (.slice (some ⟨w.heap.size, 0, none⟩) bl.length bl.length) bl.length (ys.map u8v) ∧ Gs (fun i => i = w.heap.size) w3' wr)
  case atStart => exact ⟨0, bl, by omega, rfl, rfl, HOL3.out, Gs.refl _ _⟩
  case round =>
    obtain ⟨m, ys, hgm, rfl, hyl, hR, hGm⟩ := hrel
    by_cases hm : m < bl.length
    · have hm' : (m : Int) < (bl.length : Int) := by omega
      have cc : wr.cell? ⟨w.heap.size, m, none⟩ = some (u8v (ys[m]'(by omega))) := by
        rw [World.ownsRow.cellAt hR m (by omega), List.getElem?_map, List.getElem?_eq_getElem (by omega)]; rfl
      have ff : wr.frozen? ⟨w.heap.size, m, none⟩ = false := World.ownsRow.frozenAt hR m
      have hst := World.ownsRow.stored hR m (.int .u8 238)
      have HRn : Hid ((wr.setCell ⟨w.heap.size, m, none⟩ (.int .u8 238)).ownsRow w.heap.size 5 1 (.slice (some ⟨w.heap.size, 0, none⟩) bl.length bl.length) bl.length ((ys.set m 238).map u8v)) := by
        have h1 := hst.1
        rw [Hid, List.map_set]
        exact h1
      have HGn : Hid (Gs (fun i => i = w.heap.size) w3' (wr.setCell ⟨w.heap.size, m, none⟩ (.int .u8 238))) := hGm.trans (Gs.one hst.2 fun i hi => by cases hi; rfl)
      have HYL := hidMk hyl
      generalize u8v (ys[m]'(by omega)) = uv at cc
      clear hR hGm hst hyl
      go_wp2_with fail
      go_roundg (gk - 1)
      case measure => omega
      case rel => exact ⟨m + 1, ys.set m 238, by omega, by go_num, by rw [List.length_set]; exact HYL.out, HRn.out, HGn.out⟩
    · have hm' : ¬ (m : Int) < (bl.length : Int) := by omega
      have hmd := HI.out.mid HB2.out (Nat.le_refl _) hin2 HG.out HP.out HLV.out HPA.out hGm
      have HLr := hidMk hmd.1
      have hobr : Own wr ob 28 4 [.int .i64 kd, .int .i64 oa, .string nm, .slice da bl.length dc] := hGm.own HOB3.out (fun g hg s => by cases hg; have s' : ob = w.heap.size := s; omega)
      have p2 : wr.cell? ⟨ob, 2, none⟩ = some (.string nm) := hobr.cell 2 (by decide)
      have p3 : wr.cell? ⟨ob, 3, none⟩ = some (.slice da bl.length dc) := hobr.cell 3 (by decide)
      have hsr : W0.heap.size ≤ wr.heap.size := hmd.2.2.size
      obtain ⟨i0, hi0, hz0, hz1, hz2⟩ := info_parts infoF
      have HGm := hidMk hGm
      clear hR hGm hmd hobr HOB3
      go_wp2_with (first
        | (at_builtin; refine wpList_append_own_at _ rfl _ _ 25 rfl W0.heap.size 36 i0 (.agg #[.string ⟨#[]⟩, .slice none 0 0, .bool false]) 3 48 Tryd.underlying25 hi0 hz0 hz1 hz2 rfl (by decide) _ fs.length (fs.flatMap cellsF) rfl (World.ownsRow.alloc HLr.out _) ⟨wr.heap.size, 0, none⟩ 1 1 (cellsF ⟨nm, bl, true, pa, pc, da, dc⟩) rfl rfl ?c1 ?c2 ?c3 ?c4 ?c5 ?_))
      case c1 =>
        intro j u hj
        match j, hj with
        | 0, hj => simp [cellsF] at hj; subst hj; simp [Addr.add]
        | 1, hj => simp [cellsF] at hj; subst hj; simp [Addr.add]
        | 2, hj => simp [cellsF] at hj; subst hj; simp [Addr.add]
      case c2 => exact one_cellsF _
      case c3 => unfold maxLen; omega
      case c4 => omega
      case c5 => first | omega | (simp; omega)
      intro x5 w5 hown' hgrow _ hat
      obtain ⟨ax', cx', rfl⟩ := row_form hown'
      have HF := hidMk (HI.out.wrote (x' := .slice ax' (fs.length + 1) cx') HB2.out (Nat.le_refl _) hin2 HG.out HP.out HLV.out HPA.out HGm.out (f := ⟨nm, bl, true, pa, pc, da, dc⟩) ⟨HDA.out.1, HDA.out.2.1, HDA.out.2.2.1, HDA.out.2.2.2.1, HDA.out.2.2.2.2⟩ hown' hgrow hat)
      have hl1 : (fs ++ [(⟨nm, bl, true, pa, pc, da, dc⟩ : Fl)]).length = fs.length + 1 := by simp
      have HE := hidMk (HEX.out (fs ++ [⟨nm, bl, true, pa, pc, da, dc⟩]) lv' ax' cx' w5 (by rw [hl1]; exact HF.out) (by rw [hl1]; exact Nat.le_refl _))
      rw [hl1] at HE
      clear hown' hgrow hat HF HEX
      go_wp2_with fail
      exact HE.out _ _ _ _ _ _ _ _ _ _ _ _ _ _ _ _ _ _ _ _ _ _ _ _ _ _ _ _ _ _ _ _ _ _ _ _ _ _ _ _ _ _ _ _ _ _ _ _ _ _ _ _ _ _ _ _ _ _ _ _ _ _ _ _ _ _ _ _ _ _ _ _ _ _ _ _ _ _ _ _ _ _ _ _ _ _ _ _ _ _ _ _ _ _ _ _ _ _ _ _ _ _ _ _ _ _ _ _ _ _ _ _ _ _ _ _ _ _ _ _ _ _ _ _ _ _ _ _ _ _ _ _ _ _ _ _ _ _ _ _ _ _ _ _ _ _ _ _ _ _ _ _ _ _ _ _ _ _ _ _ _ _ _ _ _ _ _ _ _ _ _ _ _ _ _ _ _ _ _ _ _ _ _ _ _ _ _ _ _ _
theorem t17k (a : Option Addr) (xl c0 d mb j : Nat) (ax : Option Addr) (cx : Nat) (lv : Value) (fs : List Fl) (W0 w : World) (hn : fs.length ≤ 2513169434879) (HI : Hid (DInv W0 w d mb lv (.slice ax fs.length cx) fs)) (ob : Nat) (kd oa : Int) (nm : ByteArray) (da : Option Addr) (bl : List UInt8) (dc : Nat) (hoa : -9223372036854775808 ≤ oa ∧ oa ≤ 9223372036854775807) (HOB : Hid (Own w ob 28 4 [.int .i64 kd, .int .i64 oa, .string nm, .slice da bl.length dc])) (HLT : Hid (∀ i, dS d mb lv i → i < ob)) (HXL : Hid (∀ g, (Value.slice ax fs.length cx).ownBlock = some g → g < ob)) (HDA : Hid (Bytes W0 da bl.length (lat bl) ∧ bl.length ≤ dc ∧ True ∧ nm.size ≤ maxLen ∧ bl.length ≤ 140737488355328)) (k : Nat) (hk : k < fs.length) (HNM : Hid (nm = fs[k].nm)) (HET : Hid (Ety W0))
    (x1 x2 x8 x9 x10 x11 x12 x13 x14 x15 x16 x17 x18 x19 x20 x21 x22 x23 x24 x25 x26 x27 x28 x29 x30 x31 x32 x33 x34 x35 x36 x37 x38 x39 x40 x41 x42 x43 x44 x45 x46 x47 x48 x49 x50 x51 x52 x53 x54 x55 x56 x57 x58 x59 x60 x61 x62 x63 x64 x65 x66 x67 x68 x69 x70 x71 x72 x73 x74 x75 x76 x77 x78 x79 x80 x81 x82 x83 x84 x85 x86 x87 x88 x89 x90 x91 x92 x93 x94 x95 x96 x97 x98 x99 x100 x101 x102 x103 x104 x105 x106 x107 x108 x109 x110 x111 x112 x113 x114 x115 x116 x117 x118 x119 x120 x121 x122 x123 x124 x125 x126 x127 x128 x129 x130 x131 x132 x133 x134 x135 x136 x137 x138 x139 x140 x141 x142 x143 x144 x145 x146 x147 x148 x149 x150 x151 x152 x153 x154 x155 x156 x157 x158 x159 x160 x161 x162 x163 x164 x165 x166 x167 x168 x169 x170 x171 x172 x173 x174 x175 x176 x177 x178 x179 x180 x181 x182 x183 x184 x185 x186 x187 x188 x189 x190 x191 x192 x193 x194 x195 x196 x197 x198 : Value) (F : Act → World → Prop)
    (HEX : Hid (∀ (fs' : List Fl) (lv' : Value) (ax' : Option Addr) (cx' : Nat) (w' : World), DInv W0 w' d mb lv' (.slice ax' fs'.length cx') fs' → fs'.length ≤ fs.length + 1 → ∀ (y6 y7 y8 y9 y10 y11 y12 y13 y14 y15 y16 y17 y18 y19 y20 y21 y25 y26 y27 y28 y29 y30 y31 y32 y33 y34 y35 y36 y37 y38 y39 y40 y41 y42 y43 y44 y45 y46 y47 y48 y49 y50 y51 y52 y53 y54 y55 y56 y57 y58 y59 y60 y61 y62 y63 y64 y65 y66 y67 y68 y69 y70 y71 y72 y73 y74 y75 y76 y77 y78 y79 y80 y81 y82 y83 y84 y85 y86 y87 y88 y89 y90 y91 y92 y93 y94 y95 y96 y97 y98 y99 y100 y101 y102 y103 y104 y105 y106 y107 y108 y109 y110 y111 y112 y113 y114 y115 y116 y117 y118 y119 y120 y121 y122 y123 y124 y125 y126 y127 y128 y129 y130 y131 y132 y133 y134 y135 y136 y137 y138 y139 y140 y141 y142 y143 y144 y145 y146 y147 y148 y149 y150 y151 y152 y153 y154 y155 y156 y157 y158 y159 y160 y161 y162 y163 y164 y165 y166 y167 y168 y169 y170 y171 y172 y173 y174 y175 y176 y177 y178 y179 y180 y181 y182 y183 y184 y185 y186 y187 y188 y189 y190 y191 y192 y193 y194 y195 y196 y197 y198 : Value), F { tmps := List.toArray ((.slice a xl c0) :: (x1) :: (x2) :: (.pointer (some ⟨d, 0, none⟩)) :: (.slice ax' fs'.length cx') :: (.int .i64 (j : Int)) :: y6 :: y7 :: y8 :: y9 :: y10 :: y11 :: y12 :: y13 :: y14 :: y15 :: y16 :: y17 :: y18 :: y19 :: y20 :: y21 :: (x22) :: (x23) :: (x24) :: y25 :: y26 :: y27 :: y28 :: y29 :: y30 :: y31 :: y32 :: y33 :: y34 :: y35 :: y36 :: y37 :: y38 :: y39 :: y40 :: y41 :: y42 :: y43 :: y44 :: y45 :: y46 :: y47 :: y48 :: y49 :: y50 :: y51 :: y52 :: y53 :: y54 :: y55 :: y56 :: y57 :: y58 :: y59 :: y60 :: y61 :: y62 :: y63 :: y64 :: y65 :: y66 :: y67 :: y68 :: y69 :: y70 :: y71 :: y72 :: y73 :: y74 :: y75 :: y76 :: y77 :: y78 :: y79 :: y80 :: y81 :: y82 :: y83 :: y84 :: y85 :: y86 :: y87 :: y88 :: y89 :: y90 :: y91 :: y92 :: y93 :: y94 :: y95 :: y96 :: y97 :: y98 :: y99 :: y100 :: y101 :: y102 :: y103 :: y104 :: y105 :: y106 :: y107 :: y108 :: y109 :: y110 :: y111 :: y112 :: y113 :: y114 :: y115 :: y116 :: y117 :: y118 :: y119 :: y120 :: y121 :: y122 :: y123 :: y124 :: y125 :: y126 :: y127 :: y128 :: y129 :: y130 :: y131 :: y132 :: y133 :: y134 :: y135 :: y136 :: y137 :: y138 :: y139 :: y140 :: y141 :: y142 :: y143 :: y144 :: y145 :: y146 :: y147 :: y148 :: y149 :: y150 :: y151 :: y152 :: y153 :: y154 :: y155 :: y156 :: y157 :: y158 :: y159 :: y160 :: y161 :: y162 :: y163 :: y164 :: y165 :: y166 :: y167 :: y168 :: y169 :: y170 :: y171 :: y172 :: y173 :: y174 :: y175 :: y176 :: y177 :: y178 :: y179 :: y180 :: y181 :: y182 :: y183 :: y184 :: y185 :: y186 :: y187 :: y188 :: y189 :: y190 :: y191 :: y192 :: y193 :: y194 :: y195 :: y196 :: y197 :: y198 :: []), defers := [] } w')) :
    Code.wp Tryd.prog (stepsPart 17) (onlyN F) { tmps := List.toArray ((.slice a xl c0) :: x1 :: x2 :: (.pointer (some ⟨d, 0, none⟩)) :: (.slice ax fs.length cx) :: (.int .i64 (j : Int)) :: (.pointer (some ⟨ob, 0, none⟩)) :: (.int .i64 (k : Int)) :: x8 :: x9 :: x10 :: x11 :: x12 :: x13 :: x14 :: x15 :: x16 :: x17 :: x18 :: x19 :: x20 :: x21 :: x22 :: x23 :: x24 :: x25 :: x26 :: x27 :: x28 :: x29 :: x30 :: x31 :: x32 :: x33 :: x34 :: x35 :: x36 :: x37 :: x38 :: x39 :: x40 :: x41 :: x42 :: x43 :: x44 :: x45 :: x46 :: x47 :: x48 :: x49 :: x50 :: x51 :: x52 :: x53 :: x54 :: x55 :: x56 :: x57 :: x58 :: x59 :: x60 :: x61 :: x62 :: x63 :: x64 :: x65 :: x66 :: x67 :: x68 :: x69 :: x70 :: x71 :: x72 :: x73 :: x74 :: x75 :: x76 :: x77 :: x78 :: x79 :: x80 :: x81 :: x82 :: x83 :: x84 :: x85 :: x86 :: x87 :: x88 :: x89 :: x90 :: x91 :: x92 :: x93 :: x94 :: x95 :: x96 :: x97 :: x98 :: x99 :: x100 :: x101 :: x102 :: x103 :: x104 :: x105 :: x106 :: x107 :: x108 :: x109 :: x110 :: x111 :: x112 :: x113 :: x114 :: x115 :: x116 :: x117 :: x118 :: x119 :: x120 :: x121 :: x122 :: x123 :: x124 :: x125 :: x126 :: x127 :: x128 :: x129 :: x130 :: x131 :: x132 :: x133 :: x134 :: x135 :: x136 :: x137 :: x138 :: x139 :: x140 :: x141 :: x142 :: x143 :: x144 :: x145 :: x146 :: x147 :: x148 :: x149 :: x150 :: x151 :: x152 :: x153 :: x154 :: x155 :: x156 :: x157 :: x158 :: x159 :: x160 :: x161 :: x162 :: x163 :: x164 :: x165 :: x166 :: x167 :: x168 :: x169 :: x170 :: x171 :: x172 :: x173 :: x174 :: x175 :: x176 :: x177 :: x178 :: x179 :: x180 :: x181 :: x182 :: x183 :: x184 :: x185 :: x186 :: x187 :: x188 :: x189 :: x190 :: x191 :: x192 :: x193 :: x194 :: x195 :: x196 :: x197 :: x198 :: []), defers := [] } w := by
  conv => arg 2; whnf
  have o0 : w.cell? ⟨ob, 0, none⟩ = some (.int .i64 kd) := HOB.out.cell 0 (by decide)
  have o1 : w.cell? ⟨ob, 1, none⟩ = some (.int .i64 oa) := HOB.out.cell 1 (by decide)
  have o2 : w.cell? ⟨ob, 2, none⟩ = some (.string nm) := HOB.out.cell 2 (by decide)
  have o3 : w.cell? ⟨ob, 3, none⟩ = some (.slice da bl.length dc) := HOB.out.cell 3 (by decide)
  have hbl := HDA.out.2.2.2.2
  have hmk := run_make_row' (P := Tryd.prog) 26 5 (.int .u8 0) 1 Tryd.underlying26 info5 rfl .i64 .i64 bl.length (by omega) (by omega)
  have hb0 := bel1 w (.cells (madeCells #[.int .u8 0] bl.length) 5)
  have q3 : (w.alloc (.cells (madeCells #[.int .u8 0] bl.length) 5)).cell? ⟨ob, 3, none⟩ = some (.slice da bl.length dc) := cell_later hb0 o3
  have HSRC : Hid (Bytes (w.alloc (.cells (madeCells #[.int .u8 0] bl.length) 5)) da bl.length (lat bl)) := HDA.out.1.later (HI.out.bel.trans (hb0.mono HI.out.bel.size))
  have HG0 : Hid ((w.alloc (.cells (madeCells #[.int .u8 0] bl.length) 5)).heap[w.heap.size]? = some (.cells (List.replicate bl.length (.int .u8 0)).toArray 5 (0, 0))) := by
    unfold Hid
    rw [heap_alloc_new w _]
    congr 2
    rw [← toList_madeCells_one]
  have hlen : (bl.map u8v).length = Nat.min bl.length bl.length := by simp
  clear hb0
  go_wp2_with (first
    | (refine wpList_copy_splice rfl _ _ 26 26 rfl 5 Tryd.underlying26 size5 _ _ bl.length bl.length bl.length dc rfl rfl w.heap.size 0 (List.replicate bl.length (.int .u8 0)) 5 HG0.out (bl.map u8v) hlen ?c1 (by simp) (by intro v hv; obtain ⟨z, _, rfl⟩ := List.mem_map.1 hv; rfl) w.heap.size w (bel1 w _) (Nat.le_refl _) ?_))
  case c1 =>
    intro h0
    have h0' : 0 < bl.length := by simpa using h0
    obtain ⟨b, off, rfl, _⟩ := HSRC.out 0 h0'
    refine ⟨_, rfl, ?_⟩
    intro j v hj
    have hj' : j < bl.length := (List.getElem?_eq_some_iff.1 hj).1
    obtain ⟨b', off', e, hc⟩ := HSRC.out j hj'
    simp only [Option.some.injEq, Addr.mk.injEq, and_true] at e
    obtain ⟨rfl, rfl⟩ := e
    rw [WideShapes.add_plain, hc]
    have hv : lat bl j = v := by simp [lat, hj]
    rw [hv]; rfl
  intro w2 hrow hB
  have hB2 : Below w.heap.size w w2 := hB
  have HOL : Hid (OL w2 w.heap.size (.slice (some ⟨w.heap.size, 0, none⟩) bl.length bl.length) bl) := by
    refine ol_copied rfl hbl ?_
    have := hrow.out
    simpa [splice] using this
  have hin2 : w.heap.size < w2.heap.size := (World.ownsRow.lt HOL.out w.heap.size rfl).2
  have r2 : w2.cell? ⟨ob, 2, none⟩ = some (.string nm) := cell_later hB2 o2
  have HOB2 := hidMk (Own.later HOB.out hB2)
  have HB2 := hidMk hB2
  have HI2 := hidMk (HI.out.later hB2)
  have hob : ob < w.heap.size := HOB.out.lt
  clear hrow hB hB2 hmk q3 HSRC HG0 hlen o0 o1 o2 o3
  have hkz : (k : Int) ≥ 0 := by omega
  have hkd : decide ((k : Int) ≥ 0) = true := decide_eq_true hkz
  have hkn : ¬ (k : Int) < 0 := by omega
  have hkd2 : decide ((k : Int) < 0) = false := decide_eq_false hkn
  have HC := hidMk (write_old w2 _ d mb lv fs nm (.slice (some ⟨w.heap.size, 0, none⟩) bl.length bl.length) HI2.out.pd HDA.out.2.2.2.1 (by rw [HNM.out]; exact List.mem_map.2 ⟨_, List.getElem_mem hk, rfl⟩))
  go_wp2_with fail
  refine HC.out.mono ?_
  rintro e w3 ⟨rfl, hw3⟩
  subst hw3
  clear HC r2
  go_wp2_with fail
  refine (told_errno 6 w3 (HET.out.later HI2.out.bel)).mono ?_
  rintro e w4 ⟨rfl, hb4⟩
  have HOL3 : Hid (OL w4 w.heap.size (.slice (some ⟨w.heap.size, 0, none⟩) bl.length bl.length) bl) := HOL.out.later hb4
  have HB4 : Hid (Below w.heap.size w w4) := HB2.out.trans (hb4.mono HB2.out.size)
  clear hb4 HOL HOB2 HOB HI2 HB2
  go_wp2_with fail
  go_loopg [11] bl.length (fun gk i wr => ∃ (m : Nat) (ys : List UInt8), gk + m = bl.length ∧ i = .int .i64 m ∧ ys.length = bl.length ∧ wr.ownsRow w.heap.size 5 1 (.slice (some ⟨w.heap.size, 0, none⟩) bl.length bl.length) bl.length (ys.map u8v) ∧ Gs (fun i => i = w.heap.size) w4 wr)
  case atStart => exact ⟨0, bl, by omega, rfl, rfl, HOL3.out, Gs.refl _ _⟩
  case round =>
    obtain ⟨m, ys, hgm, rfl, hyl, hR, hGm⟩ := hrel
    by_cases hm : m < bl.length
    · have hm' : (m : Int) < (bl.length : Int) := by omega
      have cc : wr.cell? ⟨w.heap.size, m, none⟩ = some (u8v (ys[m]'(by omega))) := by
        rw [World.ownsRow.cellAt hR m (by omega), List.getElem?_map, List.getElem?_eq_getElem (by omega)]; rfl
      have ff : wr.frozen? ⟨w.heap.size, m, none⟩ = false := World.ownsRow.frozenAt hR m
      have hst := World.ownsRow.stored hR m (.int .u8 238)
      have HRn : Hid ((wr.setCell ⟨w.heap.size, m, none⟩ (.int .u8 238)).ownsRow w.heap.size 5 1 (.slice (some ⟨w.heap.size, 0, none⟩) bl.length bl.length) bl.length ((ys.set m 238).map u8v)) := by
        have h1 := hst.1
        rw [Hid, List.map_set]
        exact h1
      have HGn : Hid (Gs (fun i => i = w.heap.size) w4 (wr.setCell ⟨w.heap.size, m, none⟩ (.int .u8 238))) := hGm.trans (Gs.one hst.2 fun i hi => by cases hi; rfl)
      have HYL := hidMk hyl
      generalize u8v (ys[m]'(by omega)) = uv at cc
      clear hR hGm hst hyl
      go_wp2_with fail
      go_roundg (gk - 1)
      case measure => omega
      case rel => exact ⟨m + 1, ys.set m 238, by omega, by go_num, by rw [List.length_set]; exact HYL.out, HRn.out, HGn.out⟩
    · have hm' : ¬ (m : Int) < (bl.length : Int) := by omega
      have HE := hidMk (HEX.out fs lv ax cx wr (HI.out.new (S := fun i => i = w.heap.size) ((Gs.below HB4.out).trans hGm) (fun i s => by omega)) (by omega))
      clear hR hGm HI HEX
      go_wp2_with fail
      exact HE.out _ _ _ _ _ _ _ _ _ _ _ _ _ _ _ _ _ _ _ _ _ _ _ _ _ _ _ _ _ _ _ _ _ _ _ _ _ _ _ _ _ _ _ _ _ _ _ _ _ _ _ _ _ _ _ _ _ _ _ _ _ _ _ _ _ _ _ _ _ _ _ _ _ _ _ _ _ _ _ _ _ _ _ _ _ _ _ _ _ _ _ _ _ _ _ _ _ _ _ _ _ _ _ _ _ _ _ _ _ _ _ _ _ _ _ _ _ _ _ _ _ _ _ _ _ _ _ _ _ _ _ _ _ _ _ _ _ _ _ _ _ _ _ _ _ _ _ _ _ _ _ _ _ _ _ _ _ _ _ _ _ _ _ _ _ _ _ _ _ _ _ _ _ _ _ _ _ _ _ _ _ _ _ _ _ _ _ _ _ _
end Go.Proofs.YtojfhlhajemhdaaDoor
