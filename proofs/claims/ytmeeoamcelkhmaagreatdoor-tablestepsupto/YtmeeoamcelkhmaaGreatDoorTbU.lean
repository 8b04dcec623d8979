import Derived.Test.YtmeeoamcelkhmaaGreatDoorTbT
namespace Go.Proofs.YtmeeoamcelkhmaaGreatDoor
open Go.RowKit Go.Maps
set_option linter.unusedVariables false
set_option linter.unusedSimpArgs false
set_option maxRecDepth 100000
set_option maxHeartbeats 8000000
theorem t46k (a : Option Addr) (xl c0 t mp ms j : Nat) (ap : Option Addr) (cp : Nat) (ac : Option Addr) (cc : Nat) (hs cs : List Hp) (ss : List Sn) (W0 w : World) (hn : hs.length + cs.length ≤ 1048576) (hsum : lens hs + lens cs ≤ 1048576) (HI : Hid (TInv W0 w t mp ms (.slice ap hs.length cp) (.slice ac cs.length cc) hs cs ss)) (ob : Nat) (kd : Int) (x : Tx) (ra : Option Addr) (rs : List Rw) (rc : Nat) (HOB : Hid (Own w ob 30 5 [.int .i64 kd, .int .i64 x.m, .string x.sn, .int .i64 x.tk, .slice ra rs.length rc])) (HLT : Hid (∀ i, Tb t mp ms ss i → i < ob)) (HXL : Hid (∀ i, lawX (.slice ap hs.length cp) (.slice ac cs.length cc) i → i < ob)) (HLH : Hid (Lh W0 ⟨x, .slice none 0 0, [], rs, ra, rc⟩)) (hrs : lens hs + lens cs + rs.length ≤ 1048576) (k : Nat) (hk : k < hs.length) (HNM : Hid (x = hs[k].x))
    (x1 x2 x9 x10 x11 x12 x13 x14 x15 x16 x17 x18 x19 x20 x21 x22 x23 x24 x25 x26 x27 x28 x29 x30 x31 x32 x33 x34 x35 x36 x37 x38 x39 x40 x41 x42 x43 x44 x45 x46 x47 x48 x49 x50 x51 x52 x53 x54 x55 x56 x57 x58 x59 x60 x61 x62 x63 x64 x65 x66 x67 x68 x69 x70 x71 x72 x73 x74 x75 x76 x77 x78 x79 x80 x81 x82 x83 x84 x85 x86 x87 x88 x89 x90 x91 x92 x93 x94 x95 x96 x97 x98 x99 x100 x101 x102 x103 x104 x105 x106 x107 x108 x109 x110 x111 x112 x113 x114 x115 x116 x117 x118 x119 x120 x121 x122 x123 x124 x125 x126 x127 x128 x129 x130 x131 x132 x133 x134 x135 x136 x137 x138 x139 x140 x141 x142 x143 x144 x145 x146 x147 x148 x149 x150 x151 x152 x153 x154 x155 x156 x157 x158 x159 x160 x161 x162 x163 x164 x165 x166 x167 x168 x169 x170 x171 x172 x173 x174 x175 x176 x177 x178 x179 x180 x181 x182 x183 x184 x185 x186 x187 x188 x189 x190 x191 x192 x193 x194 x195 x196 x197 x198 x199 x200 x201 x202 x203 x204 x205 x206 : Value) (F : Act → World → Prop)
    (HEX : Hid (∀ (hs' cs' : List Hp) (ss' : List Sn) (ap' : Option Addr) (cp' : Nat) (ac' : Option Addr) (cc' : Nat) (w' : World), TInv W0 w' t mp ms (.slice ap' hs'.length cp') (.slice ac' cs'.length cc') hs' cs' ss' → hs'.length + cs'.length ≤ hs.length + cs.length + 1 → lens hs' + lens cs' ≤ lens hs + lens cs + rs.length → ∀ (y7 y8 y9 y10 y11 y12 y13 y14 y15 y16 y17 y18 y19 y20 y21 y22 y23 y24 y25 y29 y30 y31 y32 y33 y34 y35 y36 y37 y38 y39 y40 y41 y42 y43 y44 y45 y46 y47 y48 y49 y50 y51 y52 y53 y54 y55 y56 y57 y58 y59 y60 y61 y62 y63 y64 y65 y66 y67 y68 y69 y70 y71 y72 y73 y74 y75 y76 y77 y78 y79 y80 y81 y82 y83 y84 y85 y86 y87 y88 y89 y90 y91 y92 y93 y94 y95 y96 y97 y98 y99 y100 y101 y102 y103 y104 y105 y106 y107 y108 y109 y110 y111 y112 y113 y114 y115 y116 y117 y118 y119 y120 y121 y122 y123 y124 y125 y126 y127 y128 y129 y130 y131 y132 y133 y134 y135 y136 y137 y138 y139 y140 y141 y142 y143 y144 y145 y146 y147 y148 y149 y150 y151 y152 y153 y154 y155 y156 y157 y158 y159 y160 y161 y162 y163 y164 y165 y166 y167 y168 y169 y170 y171 y172 y173 y174 y175 y176 y177 y178 y179 y180 y181 y182 y183 y184 y185 y186 y187 y188 y189 y190 y191 y192 y193 y194 y195 y196 y197 y198 y199 y200 y201 y202 y203 y204 y205 y206 : Value), F { tmps := List.toArray ((.slice a xl c0) :: (x1) :: (x2) :: (.pointer (some ⟨t, 0, none⟩)) :: (.slice ap' hs'.length cp') :: (.slice ac' cs'.length cc') :: (.int .i64 (j : Int)) :: y7 :: y8 :: y9 :: y10 :: y11 :: y12 :: y13 :: y14 :: y15 :: y16 :: y17 :: y18 :: y19 :: y20 :: y21 :: y22 :: y23 :: y24 :: y25 :: (x26) :: (x27) :: (x28) :: y29 :: y30 :: y31 :: y32 :: y33 :: y34 :: y35 :: y36 :: y37 :: y38 :: y39 :: y40 :: y41 :: y42 :: y43 :: y44 :: y45 :: y46 :: y47 :: y48 :: y49 :: y50 :: y51 :: y52 :: y53 :: y54 :: y55 :: y56 :: y57 :: y58 :: y59 :: y60 :: y61 :: y62 :: y63 :: y64 :: y65 :: y66 :: y67 :: y68 :: y69 :: y70 :: y71 :: y72 :: y73 :: y74 :: y75 :: y76 :: y77 :: y78 :: y79 :: y80 :: y81 :: y82 :: y83 :: y84 :: y85 :: y86 :: y87 :: y88 :: y89 :: y90 :: y91 :: y92 :: y93 :: y94 :: y95 :: y96 :: y97 :: y98 :: y99 :: y100 :: y101 :: y102 :: y103 :: y104 :: y105 :: y106 :: y107 :: y108 :: y109 :: y110 :: y111 :: y112 :: y113 :: y114 :: y115 :: y116 :: y117 :: y118 :: y119 :: y120 :: y121 :: y122 :: y123 :: y124 :: y125 :: y126 :: y127 :: y128 :: y129 :: y130 :: y131 :: y132 :: y133 :: y134 :: y135 :: y136 :: y137 :: y138 :: y139 :: y140 :: y141 :: y142 :: y143 :: y144 :: y145 :: y146 :: y147 :: y148 :: y149 :: y150 :: y151 :: y152 :: y153 :: y154 :: y155 :: y156 :: y157 :: y158 :: y159 :: y160 :: y161 :: y162 :: y163 :: y164 :: y165 :: y166 :: y167 :: y168 :: y169 :: y170 :: y171 :: y172 :: y173 :: y174 :: y175 :: y176 :: y177 :: y178 :: y179 :: y180 :: y181 :: y182 :: y183 :: y184 :: y185 :: y186 :: y187 :: y188 :: y189 :: y190 :: y191 :: y192 :: y193 :: y194 :: y195 :: y196 :: y197 :: y198 :: y199 :: y200 :: y201 :: y202 :: y203 :: y204 :: y205 :: y206 :: []), defers := [] } w')) :
    Code.wp Tryz.prog (stepsPart 46) (onlyN F) { tmps := List.toArray ((.slice a xl c0) :: x1 :: x2 :: (.pointer (some ⟨t, 0, none⟩)) :: (.slice ap hs.length cp) :: (.slice ac cs.length cc) :: (.int .i64 (j : Int)) :: (.pointer (some ⟨ob, 0, none⟩)) :: (.int .i64 (k : Int)) :: x9 :: x10 :: x11 :: x12 :: x13 :: x14 :: x15 :: x16 :: x17 :: x18 :: x19 :: x20 :: x21 :: x22 :: x23 :: x24 :: x25 :: x26 :: x27 :: x28 :: x29 :: x30 :: x31 :: x32 :: x33 :: x34 :: x35 :: x36 :: x37 :: x38 :: x39 :: x40 :: x41 :: x42 :: x43 :: x44 :: x45 :: x46 :: x47 :: x48 :: x49 :: x50 :: x51 :: x52 :: x53 :: x54 :: x55 :: x56 :: x57 :: x58 :: x59 :: x60 :: x61 :: x62 :: x63 :: x64 :: x65 :: x66 :: x67 :: x68 :: x69 :: x70 :: x71 :: x72 :: x73 :: x74 :: x75 :: x76 :: x77 :: x78 :: x79 :: x80 :: x81 :: x82 :: x83 :: x84 :: x85 :: x86 :: x87 :: x88 :: x89 :: x90 :: x91 :: x92 :: x93 :: x94 :: x95 :: x96 :: x97 :: x98 :: x99 :: x100 :: x101 :: x102 :: x103 :: x104 :: x105 :: x106 :: x107 :: x108 :: x109 :: x110 :: x111 :: x112 :: x113 :: x114 :: x115 :: x116 :: x117 :: x118 :: x119 :: x120 :: x121 :: x122 :: x123 :: x124 :: x125 :: x126 :: x127 :: x128 :: x129 :: x130 :: x131 :: x132 :: x133 :: x134 :: x135 :: x136 :: x137 :: x138 :: x139 :: x140 :: x141 :: x142 :: x143 :: x144 :: x145 :: x146 :: x147 :: x148 :: x149 :: x150 :: x151 :: x152 :: x153 :: x154 :: x155 :: x156 :: x157 :: x158 :: x159 :: x160 :: x161 :: x162 :: x163 :: x164 :: x165 :: x166 :: x167 :: x168 :: x169 :: x170 :: x171 :: x172 :: x173 :: x174 :: x175 :: x176 :: x177 :: x178 :: x179 :: x180 :: x181 :: x182 :: x183 :: x184 :: x185 :: x186 :: x187 :: x188 :: x189 :: x190 :: x191 :: x192 :: x193 :: x194 :: x195 :: x196 :: x197 :: x198 :: x199 :: x200 :: x201 :: x202 :: x203 :: x204 :: x205 :: x206 :: []), defers := [] } w := by
  conv => arg 2; whnf
  obtain rfl := HNM.out
  clear HNM
  have o0 : w.cell? ⟨ob, 0, none⟩ = some (.int .i64 kd) := HOB.out.cell 0 (by decide)
  have o1 : w.cell? ⟨ob, 1, none⟩ = some (.int .i64 hs[k].x.m) := HOB.out.cell 1 (by decide)
  have o2 : w.cell? ⟨ob, 2, none⟩ = some (.string hs[k].x.sn) := HOB.out.cell 2 (by decide)
  have o3 : w.cell? ⟨ob, 3, none⟩ = some (.int .i64 hs[k].x.tk) := HOB.out.cell 3 (by decide)
  have o4 : w.cell? ⟨ob, 4, none⟩ = some (.slice ra rs.length rc) := HOB.out.cell 4 (by decide)
  obtain ⟨i0, hi0, hz0, hz1, hz2⟩ := info_parts infoF
  obtain ⟨hq, O, hfv⟩ := HI.out.hv hs[k] (List.getElem_mem hk)
  have hql := hq.length_eq
  rw [List.length_map] at hql
  have hsq := (HI.out.sn hs[k].x.sn).length_eq
  rw [List.length_map] at hsq
  have hsr := seenR_lens cs hs[k].x.sn
  have hml := mem_lens (List.getElem_mem hk)
  have hssl := HI.out.sl
  have HC := hidMk (commit_at w _ t mp ms _ hs ss hs[k] HI.out.pt (fun i hi => (HI.out.xlt hi).2) HI.out.bel.size HLH.out.1 (List.getElem_mem hk) O hfv (by omega) (by omega))
  unfold vv at HC
  have hkz : (k : Int) ≥ 0 := by omega
  have hkd : decide ((k : Int) ≥ 0) = true := decide_eq_true hkz
  have hkl : (k : Int) < (hs.length : Int) := by omega
  clear hq hql hsq hsr hfv
  go_wp2_with fail
  refine HC.out.mono ?_
  rintro e w1 ⟨rfl, hg, v', hp⟩
  obtain ⟨a1, a2, a3⟩ := HI.out.prog hg
  obtain ⟨g, rfl⟩ : ∃ g, ap = some ⟨g, 0, none⟩ := by
    obtain ⟨a4, c4, e, hcase⟩ := a1.form
    injection e with e1 e2 e3
    rcases hcase with ⟨h1, -⟩ | ⟨g, h1, -⟩
    · rw [h1] at hk; simp at hk
    · exact ⟨g, e1.trans h1⟩
  obtain ⟨l0, l1, l2, l3⟩ := LH.cells a1 k hk
  have A1 := hidMk a1
  have A2 := hidMk a2
  have A3 := hidMk a3.size
  have HP := hidMk hp
  have HG := hidMk hg
  clear hp hg a1 a2 a3 o0 o1 o2 o3 o4 HC HOB HLT HXL HLH
  go_wp2_with (first
    | (at_builtin; refine wpList_append_own_at _ rfl _ _ 25 rfl W0.heap.size 45 i0 (.agg #[.int .i64 0, .string ⟨#[]⟩, .int .i64 0, .slice none 0 0]) 4 56 Tryz.underlying25 hi0 hz0 hz1 hz2 rfl (by decide) _ cs.length (cs.flatMap cellsL) rfl (World.ownsRow.alloc A2.out _) ⟨w1.heap.size, 0, none⟩ 1 1 (cellsL hs[k]) rfl rfl ?c1 ?c2 ?c3 ?c4 ?c5 ?_))
  case c1 =>
    intro j u hj
    match j, hj with
    | 0, hj => simp [cellsL] at hj; subst hj; simp [Addr.add]
    | 1, hj => simp [cellsL] at hj; subst hj; simp [Addr.add]
    | 2, hj => simp [cellsL] at hj; subst hj; simp [Addr.add]
    | 3, hj => simp [cellsL] at hj; subst hj; simp [Addr.add]
  case c2 => exact one_cellsL _
  case c3 => unfold maxLen; omega
  case c4 => omega
  case c5 => have := A3.out; first | omega | (simp; omega)
  intro lc' w3 hown hgrow _ hat
  have hgr : Gs (fun i => (Value.slice ac cs.length cc).ownBlock = some i) w1 w3 := (Gs.below (bel1 w1 _)).trans (Gs.one hgrow fun i hi => hi)
  have A13 : LH w3 W0.heap.size (.slice (some ⟨g, 0, none⟩) hs.length cp) hs := hgr.own A1.out fun i q s => HI.out.two i q s
  have hc3 : LH w3 W0.heap.size lc' (cs ++ [hs[k]]) := by
    unfold LH
    rw [List.length_append, List.flatMap_append, List.length_singleton]
    simpa using hown
  have hat' : ∀ i, lc'.ownBlock = some i → (Value.slice ac cs.length cc).ownBlock = some i ∨ w1.heap.size ≤ i := fun i hi => by
    rcases hat with q | q
    · exact .inl (q ▸ hi)
    · rw [hi] at q
      have := Option.some.inj q
      first | exact .inr (by omega) | (simp at this; exact .inr (by omega))
  have HW := hidMk (without_any w3 _ (.slice (some ⟨g, 0, none⟩) hs.length cp) hs k A13 (by omega) hk)
  have HC3 := hidMk hc3
  have HGR := hidMk hgr
  have HAT := hidMk hat'
  obtain ⟨ac', cc', rfl⟩ := row_form hown
  clear hown hgrow hat hgr A13 hc3 hat' l0 l1 l2 l3
  go_wp2_with fail
  refine HW.out.mono ?_
  rintro e w4 ⟨x', rfl, hl, hb⟩
  obtain ⟨ap', cp', rfl⟩ := row_form hl
  have hout := len_out hk
  have hlen2 := lens_out hk
  have hl1 : (cs ++ [hs[k]]).length = cs.length + 1 := by simp
  have hl2 : lens (cs ++ [hs[k]]) = lens cs + hs[k].rs.length := by rw [lens_app]; simp [lens]
  have HE := hidMk (HEX.out (hs.take k ++ hs.drop (k + 1)) (cs ++ [hs[k]]) _ ap' cp' ac' cc' w4 (by rw [hl1]; exact HI.out.commit hk HP.out HG.out HC3.out HGR.out HAT.out hl hb) (by rw [hl1]; omega) (by rw [hl2]; omega))
  rw [hl1] at HE
  clear hl hb HI HEX HW HP HG HC3 HGR HAT hlen2 hl1 hl2
  generalize hs.take k ++ hs.drop (k + 1) = gs at *
  go_wp2_with fail
  exact HE.out _ _ _ _ _ _ _ _ _ _ _ _ _ _ _ _ _ _ _ _ _ _ _ _ _ _ _ _ _ _ _ _ _ _ _ _ _ _ _ _ _ _ _ _ _ _ _ _ _ _ _ _ _ _ _ _ _ _ _ _ _ _ _ _ _ _ _ _ _ _ _ _ _ _ _ _ _ _ _ _ _ _ _ _ _ _ _ _ _ _ _ _ _ _ _ _ _ _ _ _ _ _ _ _ _ _ _ _ _ _ _ _ _ _ _ _ _ _ _ _ _ _ _ _ _ _ _ _ _ _ _ _ _ _ _ _ _ _ _ _ _ _ _ _ _ _ _ _ _ _ _ _ _ _ _ _ _ _ _ _ _ _ _ _ _ _ _ _ _ _ _ _ _ _ _ _ _ _ _ _ _ _ _ _ _ _ _ _ _ _ _ _ _ _ _ _ _
end Go.Proofs.YtmeeoamcelkhmaaGreatDoor
