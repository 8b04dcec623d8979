import Derived.Test.YtpghfopbnicpmaaGtL
import Derived.Test.YtpghfopbnicpmaaGtM
import Derived.Test.YtpghfopbnicpmaaGtN
namespace Go.Proofs.Ytpghfopbnicpmaa
open Go.RowKit
set_option linter.unusedVariables false
set_option linter.unusedSimpArgs false
set_option maxRecDepth 100000
set_option maxHeartbeats 8000000
theorem onlyN_blk {F : Act → World → Prop} {n : Nat} : ∀ e a w, onlyN F e a w → Exit.inBlock n (onlyN F) e a w := by
  intro e a w h
  cases e with
  | normal => exact h
  | _ => exact (h : False).elim
theorem t21 (a : Option Addr) (xl c0 N g b c sB mB j : Nat) (tm mk la : Int) (es : List En) (W0 w : World) (hN1 : 1 ≤ N) (hN2 : N ≤ 64) (ps i : Nat) (hiN : i < N) (hi : i < es.length) (xk xrt : Int) (av : Option Addr) (xvs : List V) (cv : Nat) (xt xm : Int) (hvl : xvs.length ≤ 4398046511104)
    (e1 : w.cell? ⟨ps, 1, none⟩ = some (.int .i64 xk)) (e2 : w.cell? ⟨ps, 2, none⟩ = some (.int .i64 xrt)) (e3 : w.cell? ⟨ps, 3, none⟩ = some (.slice av xvs.length cv)) (e4 : w.cell? ⟨ps, 4, none⟩ = some (.int .i64 xt)) (e5 : w.cell? ⟨ps, 5, none⟩ = some (.int .i64 xm))
    (HV2 : Hid (VLies w av xvs)) (HPS : Hid (g < ps ∧ b < ps ∧ sB < ps ∧ mB < ps ∧ W0.heap.size ≤ ps)) (HM2 : Hid (KMem w W0 g b c sB mB N es tm mk)) (HINV : Hid (KInv es tm mk la N j)) (hla : la ≤ 4398046511104)
    (hmk1 : ∀ W : World, (Instr.makeSlice 29 (.int .i64 (N : Int)) (.int .i64 (N : Int))).run Try.prog W = .ok (.slice (some ⟨W.heap.size, 0, none⟩) N N) (W.alloc (.cells (madeCells #[.bool false] N) 4)))
    (HNS : Hid (¬ ((xk = 1 ∧ xrt < es[i].t) ∨ (xk = 3 ∧ xm ≠ la + 1))))
    (x2 x3 x4 x6 x9 x15 x16 x17 x18 x19 x20 x21 x22 x23 x24 x25 x26 x27 x28 x29 x30 x31 x32 x33 x34 x35 x36 x37 x38 x39 x40 x41 x42 x43 x44 x45 x46 x47 x48 x49 x50 x51 x52 x53 x54 x55 x56 x57 x58 x59 x60 x61 x62 x63 x64 x65 x66 x67 x68 x69 x70 x71 x72 x73 x74 x75 x76 x77 x78 x79 x80 x81 x82 x83 x84 x85 x86 x87 x88 x89 x90 x91 x92 x93 x94 x95 x96 x97 x98 x99 x100 x101 x102 x103 x104 x105 x106 x107 x108 x109 x110 x111 x112 x113 x114 x115 x116 x117 x118 x119 x120 x121 x122 x123 x124 x125 x126 x127 x128 x129 x130 x131 x132 x133 x134 x135 x136 x137 x138 x139 x140 x141 x142 x143 x144 x145 x146 x147 x148 x149 x150 x151 x152 x153 x154 x155 x156 x157 x158 x159 x160 x161 x162 x163 x164 x165 x166 x167 x168 x169 x170 x171 x172 x173 x174 x175 x176 x177 x178 x179 x180 x181 x182 x183 x184 x185 x186 x187 x188 x189 x190 x191 x192 x193 x194 x195 x196 x197 x198 x199 x200 x201 x202 x203 x204 x205 x206 x207 x208 x209 x210 x211 x212 x213 x214 x215 x216 x217 x218 x219 x220 x221 x222 x223 x224 x225 x226 x227 x228 x229 x230 x231 x232 x233 x234 x235 x236 x237 x238 x239 x240 x241 x242 x243 x244 : Value) (F : Act → World → Prop)
    (HEX : Hid (∀ (mB' : Nat) (es' : List En) (tm' mk' la' : Int) (w' : World), KMem w' W0 g b c sB mB' N es' tm' mk' → KInv es' tm' mk' la' N (j + 1) → ∀ (y4 y13 y14 y15 y16 y17 y18 y19 y20 y21 y51 y52 y53 y54 y55 y56 y57 y58 y59 y60 y61 y62 y63 y64 y65 y66 y67 y68 y69 y70 y71 y72 y73 y74 y75 y76 y77 y78 y79 y80 y81 y82 y83 y84 y85 y86 y87 y88 y89 y90 y91 y92 y93 y94 y95 y96 y97 y98 y99 y100 y101 y102 y103 y104 y105 y106 y107 y108 y109 y110 y111 y112 y113 y114 y115 y116 y117 y118 y119 y120 y121 y122 y123 y124 y125 y126 y127 y128 y129 y130 y131 y132 y133 y134 y135 y136 y137 y138 y139 y140 y141 y142 y143 y144 y145 y146 y147 y148 y149 y150 y151 y152 y153 y154 y155 y156 y157 y158 y159 y160 y161 y162 y163 y164 y165 y166 y167 y168 y169 y170 y171 y172 y173 y174 y175 y176 y177 y178 y179 y180 y181 y182 y183 y184 y185 y186 y187 y188 y189 y190 y191 y192 y193 y194 y195 y196 y197 y198 y199 y200 y201 y202 y203 y204 y205 y206 y207 y208 y209 y210 y211 y212 y213 y214 y215 y216 y217 y218 y219 y220 y221 y222 y223 y224 y225 y226 y227 y228 y229 y230 y231 y232 y233 y234 y235 y236 y237 y238 y239 y240 y241 y242 y243 y244 : Value), F { tmps := List.toArray ((.int .i64 (N : Int)) :: (.slice a xl c0) :: (x2) :: (x3) :: y4 :: (.pointer (some ⟨g, 0, none⟩)) :: (x6) :: (.slice (some ⟨sB, 0, none⟩) N N) :: (.slice (some ⟨mB', 0, none⟩) N N) :: (x9) :: (.int .i64 tm') :: (.int .i64 la') :: (.int .i64 (j : Int)) :: y13 :: y14 :: y15 :: y16 :: y17 :: y18 :: y19 :: y20 :: y21 :: (x22) :: (x23) :: (x24) :: (x25) :: (x26) :: (x27) :: (x28) :: (x29) :: (x30) :: (x31) :: (x32) :: (x33) :: (x34) :: (x35) :: (x36) :: (x37) :: (x38) :: (x39) :: (x40) :: (x41) :: (x42) :: (x43) :: (x44) :: (x45) :: (x46) :: (x47) :: (x48) :: (x49) :: (x50) :: y51 :: y52 :: y53 :: y54 :: y55 :: y56 :: y57 :: y58 :: y59 :: y60 :: y61 :: y62 :: y63 :: y64 :: y65 :: y66 :: y67 :: y68 :: y69 :: y70 :: y71 :: y72 :: y73 :: y74 :: y75 :: y76 :: y77 :: y78 :: y79 :: y80 :: y81 :: y82 :: y83 :: y84 :: y85 :: y86 :: y87 :: y88 :: y89 :: y90 :: y91 :: y92 :: y93 :: y94 :: y95 :: y96 :: y97 :: y98 :: y99 :: y100 :: y101 :: y102 :: y103 :: y104 :: y105 :: y106 :: y107 :: y108 :: y109 :: y110 :: y111 :: y112 :: y113 :: y114 :: y115 :: y116 :: y117 :: y118 :: y119 :: y120 :: y121 :: y122 :: y123 :: y124 :: y125 :: y126 :: y127 :: y128 :: y129 :: y130 :: y131 :: y132 :: y133 :: y134 :: y135 :: y136 :: y137 :: y138 :: y139 :: y140 :: y141 :: y142 :: y143 :: y144 :: y145 :: y146 :: y147 :: y148 :: y149 :: y150 :: y151 :: y152 :: y153 :: y154 :: y155 :: y156 :: y157 :: y158 :: y159 :: y160 :: y161 :: y162 :: y163 :: y164 :: y165 :: y166 :: y167 :: y168 :: y169 :: y170 :: y171 :: y172 :: y173 :: y174 :: y175 :: y176 :: y177 :: y178 :: y179 :: y180 :: y181 :: y182 :: y183 :: y184 :: y185 :: y186 :: y187 :: y188 :: y189 :: y190 :: y191 :: y192 :: y193 :: y194 :: y195 :: y196 :: y197 :: y198 :: y199 :: y200 :: y201 :: y202 :: y203 :: y204 :: y205 :: y206 :: y207 :: y208 :: y209 :: y210 :: y211 :: y212 :: y213 :: y214 :: y215 :: y216 :: y217 :: y218 :: y219 :: y220 :: y221 :: y222 :: y223 :: y224 :: y225 :: y226 :: y227 :: y228 :: y229 :: y230 :: y231 :: y232 :: y233 :: y234 :: y235 :: y236 :: y237 :: y238 :: y239 :: y240 :: y241 :: y242 :: y243 :: y244 :: []), defers := [] } w')) :
    Code.wp Try.prog (keepsPart 21) (Exit.inBlock 3 (onlyN F)) { tmps := List.toArray ((.int .i64 (N : Int)) :: (.slice a xl c0) :: x2 :: x3 :: x4 :: (.pointer (some ⟨g, 0, none⟩)) :: x6 :: (.slice (some ⟨sB, 0, none⟩) N N) :: (.slice (some ⟨mB, 0, none⟩) N N) :: x9 :: (.int .i64 tm) :: (.int .i64 la) :: (.int .i64 (j : Int)) :: (.pointer (some ⟨ps, 0, none⟩)) :: (.int .i64 (i : Int)) :: x15 :: x16 :: x17 :: x18 :: x19 :: x20 :: x21 :: x22 :: x23 :: x24 :: x25 :: x26 :: x27 :: x28 :: x29 :: x30 :: x31 :: x32 :: x33 :: x34 :: x35 :: x36 :: x37 :: x38 :: x39 :: x40 :: x41 :: x42 :: x43 :: x44 :: x45 :: x46 :: x47 :: x48 :: x49 :: x50 :: x51 :: x52 :: x53 :: x54 :: x55 :: x56 :: x57 :: x58 :: x59 :: x60 :: x61 :: x62 :: x63 :: x64 :: x65 :: x66 :: x67 :: x68 :: x69 :: x70 :: x71 :: x72 :: x73 :: x74 :: x75 :: x76 :: x77 :: x78 :: x79 :: x80 :: x81 :: x82 :: x83 :: x84 :: x85 :: x86 :: x87 :: x88 :: x89 :: x90 :: x91 :: x92 :: x93 :: x94 :: x95 :: x96 :: x97 :: x98 :: x99 :: x100 :: x101 :: x102 :: x103 :: x104 :: x105 :: x106 :: x107 :: x108 :: x109 :: x110 :: x111 :: x112 :: x113 :: x114 :: x115 :: x116 :: x117 :: x118 :: x119 :: x120 :: x121 :: x122 :: x123 :: x124 :: x125 :: x126 :: x127 :: x128 :: x129 :: x130 :: x131 :: x132 :: x133 :: x134 :: x135 :: x136 :: x137 :: x138 :: x139 :: x140 :: x141 :: x142 :: x143 :: x144 :: x145 :: x146 :: x147 :: x148 :: x149 :: x150 :: x151 :: x152 :: x153 :: x154 :: x155 :: x156 :: x157 :: x158 :: x159 :: x160 :: x161 :: x162 :: x163 :: x164 :: x165 :: x166 :: x167 :: x168 :: x169 :: x170 :: x171 :: x172 :: x173 :: x174 :: x175 :: x176 :: x177 :: x178 :: x179 :: x180 :: x181 :: x182 :: x183 :: x184 :: x185 :: x186 :: x187 :: x188 :: x189 :: x190 :: x191 :: x192 :: x193 :: x194 :: x195 :: x196 :: x197 :: x198 :: x199 :: x200 :: x201 :: x202 :: x203 :: x204 :: x205 :: x206 :: x207 :: x208 :: x209 :: x210 :: x211 :: x212 :: x213 :: x214 :: x215 :: x216 :: x217 :: x218 :: x219 :: x220 :: x221 :: x222 :: x223 :: x224 :: x225 :: x226 :: x227 :: x228 :: x229 :: x230 :: x231 :: x232 :: x233 :: x234 :: x235 :: x236 :: x237 :: x238 :: x239 :: x240 :: x241 :: x242 :: x243 :: x244 :: []), defers := [] } w := by
  conv => arg 2; whnf
  obtain ⟨q, HQ⟩ : ∃ q, Hid (es[i] = q) := ⟨es[i], hidMk rfl⟩
  have HOP : Hid (openB es (i : Int) = !q.b) := by
    unfold Hid openB
    rw [if_pos (by rw [HINV.out.len]; omega), Int.toNat_natCast]
    rw [← HQ.out]; simp [List.getD, hi]
  have hr := HM2.out.marked.at i hiN
  rw [markL_at es i hi, HQ.out] at hr
  have hiN' : (i : Int) < (N : Int) := by omega
  go_wp2_with fail
  refine (open_any w g b c tm mk es HM2.out.gate (i : Int)).mono ?_
  rintro e w3 ⟨rfl, hw3⟩
  rw [HOP.out]
  subst hw3
  cases hqb : q.b with
  | true =>
    rw [hqb] at hr
    go_wp2_with fail
    refine (take_shut _ g b c tm mk es HM2.out.gate (i : Int) (by rw [HOP.out, hqb]; rfl) xk xrt av xvs.length cv xt xm).mono ?_
    rintro e w3 ⟨he, hb3⟩
    unfold Bad at he
    subst he
    have HM3 := hidMk (HM2.out.later hb3)
    replace hr := cell_later hb3 hr
    clear hb3 HM2
    go_wp2
    exact HEX.out mB es tm mk la w3 HM3.out HINV.out.step _ _ _ _ _ _ _ _ _ _ _ _ _ _ _ _ _ _ _ _ _ _ _ _ _ _ _ _ _ _ _ _ _ _ _ _ _ _ _ _ _ _ _ _ _ _ _ _ _ _ _ _ _ _ _ _ _ _ _ _ _ _ _ _ _ _ _ _ _ _ _ _ _ _ _ _ _ _ _ _ _ _ _ _ _ _ _ _ _ _ _ _ _ _ _ _ _ _ _ _ _ _ _ _ _ _ _ _ _ _ _ _ _ _ _ _ _ _ _ _ _ _ _ _ _ _ _ _ _ _ _ _ _ _ _ _ _ _ _ _ _ _ _ _ _ _ _ _ _ _ _ _ _ _ _ _ _ _ _ _ _ _ _ _ _ _ _ _ _ _ _ _ _ _ _ _ _ _ _ _ _ _ _ _ _ _ _ _ _ _ _ _ _ _ _ _ _ _ _ _ _ _ _ _
  | false =>
    rw [hqb] at hr
    go_wp2_with fail
    have hqs : es[i].b = false := by rw [HQ.out]; exact hqb
    refine (take_open _ g b c tm mk es HM2.out.gate (by rw [HINV.out.len]; exact hN2) i hi hqs xk xrt av xvs cv HV2.out hvl xt xm).mono ?_
    intro e w3 hp
    have HPS1 : ps ≠ g ∧ ps ≠ b := by have := HPS.out; omega
    rcases hp with ⟨rfl, hch, hgt, a', c', ⟨p, hp1, he, o0, o1, o2, o3, o4⟩, -⟩ | ⟨rfl, hp⟩ | ⟨rfl, hp⟩ | ⟨hko, he, hch, hgt⟩
    · subst he
      have f1 := hch.cell e1 HPS1.1 HPS1.2
      obtain ⟨r1, r2, r3⟩ := HM2.out.after hch
      have HM3 := hidMk (HM2.out.again hgt r1 r2 r3)
      have g1 := r2.at i hiN
      rw [markL_at es i hi, hqs] at g1
      have hnt : ¬ xrt < tm := by
        have h9 := HNS.out
        have h8 := HINV.out.low es[i] (List.getElem_mem hi)
        intro h7
        exact h9 (.inl ⟨rfl, by omega⟩)
      clear hch hgt r1 r2 r3 e1 e2 e3 e4 e5 hr hqs HM2 HV2 o2 o3 o4
      go_upto_region 25 with fail
      go_cut [119] from 51 to 244 (fun v wx => v = .bool false ∧ wx = w3)
      case first =>
        go_wp2
        go_meet
        exact ⟨rfl, rfl⟩
      case rest =>
        obtain ⟨rfl, hwc⟩ := hcut
        subst hwc
        apply_assumption
        refine wp_cond_false rfl (wp_skip ?_)
        apply_assumption
        exact wp_mono (t28_row a xl c0 N g b c sB mB j tm mk la es W0 _ hN1 hN2 ps i p xrt f1 o1 (by omega) HM3 HINV _ _ _ _ _ _ _ _ _ _ _ _ _ _ _ _ _ _ _ _ _ _ _ _ _ _ _ _ _ _ _ _ _ _ _ _ _ _ _ _ _ _ _ _ _ _ _ _ _ _ _ _ _ _ _ _ _ _ _ _ _ _ _ _ _ _ _ _ _ _ _ _ _ _ _ _ _ _ _ _ _ _ _ _ _ _ _ _ _ _ _ _ _ _ _ _ _ _ _ _ _ _ _ _ _ _ _ _ _ _ _ _ _ _ _ _ _ _ _ _ _ _ _ _ _ _ _ _ _ _ _ _ _ _ _ _ _ _ _ _ _ _ _ _ _ _ _ _ _ _ _ _ _ _ _ _ _ _ _ _ _ _ _ _ _ _ _ _ _ _ _ _ _ _ _ _ _ _ _ _ _ _ _ _ _ _ _ _ _ _ _ _ _ _ _ _ _ _ _ _ _ _ _ _ _ _ _ _ _ _ _ _ _ _ _ _ _ _ _ _ _ _ _ _ _ _ _ _ _ _ _ _ _ F HEX) onlyN_blk
    · obtain ⟨hch, ⟨hno, he, hgt⟩ | ⟨ht1, ht2, ⟨hle, he, hgt⟩ | ⟨hle, ⟨p, hp1, he, o0, o1, o2, o3, o4⟩, hgt⟩⟩⟩ := hp
      · unfold Bad at he
        subst he
        have f1 := hch.cell e1 HPS1.1 HPS1.2
        have f4 := hch.cell e4 HPS1.1 HPS1.2
        obtain ⟨r1, r2, r3⟩ := HM2.out.after hch
        have g1 := r2.at i hiN
        rw [markL_at es i hi, hqs] at g1
        have sc : ∃ v, w3.cell? ⟨sB, i, none⟩ = some (.int .i64 v) := ⟨es[i].t, by rw [r1.at i hiN, saidL_at es i hi]⟩
        have sf := r1.soft i
        have sc2 : ∃ v, w3.cell? ⟨mB, i, none⟩ = some (.bool v) := ⟨false, g1⟩
        have sf2 := r2.soft i
        have SC := hidMk sc
        have SF := hidMk sf
        have SC2 := hidMk sc2
        have SF2 := hidMk sf2
        have HM3 := hidMk (HM2.out.again hgt r1 r2 r3)
        clear hch hgt r1 r2 r3 e1 e2 e3 e4 e5 hr hqs HM2 HV2 sc sf sc2 sf2
        go_upto_region 25 with fail
        go_cut [119] from 51 to 244 (fun v wx => v = .bool false ∧ wx = w3)
        case first =>
          go_wp2
          go_meet
          exact ⟨rfl, rfl⟩
        case rest =>
          obtain ⟨rfl, hwc⟩ := hcut
          subst hwc
          apply_assumption
          refine wp_cond_false rfl (wp_skip ?_)
          apply_assumption
          exact wp_mono (t28_timeBad a xl c0 N g b c sB mB j tm mk la es W0 _ hN1 hN2 ps i 4 f1 HM3 HINV _ _ _ _ _ _ _ _ _ _ _ _ _ _ _ _ _ _ _ _ _ _ _ _ _ _ _ _ _ _ _ _ _ _ _ _ _ _ _ _ _ _ _ _ _ _ _ _ _ _ _ _ _ _ _ _ _ _ _ _ _ _ _ _ _ _ _ _ _ _ _ _ _ _ _ _ _ _ _ _ _ _ _ _ _ _ _ _ _ _ _ _ _ _ _ _ _ _ _ _ _ _ _ _ _ _ _ _ _ _ _ _ _ _ _ _ _ _ _ _ _ _ _ _ _ _ _ _ _ _ _ _ _ _ _ _ _ _ _ _ _ _ _ _ _ _ _ _ _ _ _ _ _ _ _ _ _ _ _ _ _ _ _ _ _ _ _ _ _ _ _ _ _ _ _ _ _ _ _ _ _ _ _ _ _ _ _ _ _ _ _ _ _ _ _ _ _ _ _ _ _ _ _ _ _ _ _ _ _ _ _ _ _ _ _ _ _ _ _ _ _ _ _ _ _ _ _ _ _ _ _ _ _ F HEX) onlyN_blk
      · unfold Nothing at he
        subst he
        have f1 := hch.cell e1 HPS1.1 HPS1.2
        have f4 := hch.cell e4 HPS1.1 HPS1.2
        obtain ⟨r1, r2, r3⟩ := HM2.out.after hch
        have g1 := r2.at i hiN
        rw [markL_at es i hi, hqs] at g1
        have sc : ∃ v, w3.cell? ⟨sB, i, none⟩ = some (.int .i64 v) := ⟨es[i].t, by rw [r1.at i hiN, saidL_at es i hi]⟩
        have sf := r1.soft i
        have sc2 : ∃ v, w3.cell? ⟨mB, i, none⟩ = some (.bool v) := ⟨false, g1⟩
        have sf2 := r2.soft i
        have SC := hidMk sc
        have SF := hidMk sf
        have SC2 := hidMk sc2
        have SF2 := hidMk sf2
        have HM3 := hidMk (HM2.out.say hch i hi xt hgt)
        have HI3 : Hid (KInv (es.set i ⟨xt, es[i].b⟩) tm mk la N j) := ⟨by rw [List.length_set]; exact HINV.out.len, fun e he => by
          rcases mem_set_of he with h | rfl
          · exact HINV.out.low e h
          · have := HINV.out.low es[i] (List.getElem_mem hi); show tm ≤ xt; omega, HINV.out.mark, HINV.out.last0, HINV.out.lastj⟩
        clear hch hgt r1 r2 r3 e1 e2 e3 e4 e5 hr hqs HM2 HV2 sc sf sc2 sf2
        go_upto_region 25 with fail
        go_cut [119] from 51 to 244 (fun v wx => v = .bool false ∧ wx = w3)
        case first =>
          go_wp2
          go_meet
          exact ⟨rfl, rfl⟩
        case rest =>
          obtain ⟨rfl, hwc⟩ := hcut
          subst hwc
          apply_assumption
          refine wp_cond_false rfl (wp_skip ?_)
          apply_assumption
          exact wp_mono (t28_timeNone a xl c0 N g b c sB mB j tm mk la es W0 _ hN1 hN2 ps i hi xt f1 f4 hiN' SC.out SF.out _ HM3 HI3 _ _ _ _ _ _ _ _ _ _ _ _ _ _ _ _ _ _ _ _ _ _ _ _ _ _ _ _ _ _ _ _ _ _ _ _ _ _ _ _ _ _ _ _ _ _ _ _ _ _ _ _ _ _ _ _ _ _ _ _ _ _ _ _ _ _ _ _ _ _ _ _ _ _ _ _ _ _ _ _ _ _ _ _ _ _ _ _ _ _ _ _ _ _ _ _ _ _ _ _ _ _ _ _ _ _ _ _ _ _ _ _ _ _ _ _ _ _ _ _ _ _ _ _ _ _ _ _ _ _ _ _ _ _ _ _ _ _ _ _ _ _ _ _ _ _ _ _ _ _ _ _ _ _ _ _ _ _ _ _ _ _ _ _ _ _ _ _ _ _ _ _ _ _ _ _ _ _ _ _ _ _ _ _ _ _ _ _ _ _ _ _ _ _ _ _ _ _ _ _ _ _ _ _ _ _ _ _ _ _ _ _ _ _ _ _ _ _ _ _ _ _ _ _ _ _ _ _ _ _ _ _ _ F HEX) onlyN_blk
      · subst he
        have f1 := hch.cell e1 HPS1.1 HPS1.2
        have f4 := hch.cell e4 HPS1.1 HPS1.2
        obtain ⟨r1, r2, r3⟩ := HM2.out.after hch
        have g1 := r2.at i hiN
        rw [markL_at es i hi, hqs] at g1
        have sc : ∃ v, w3.cell? ⟨sB, i, none⟩ = some (.int .i64 v) := ⟨es[i].t, by rw [r1.at i hiN, saidL_at es i hi]⟩
        have sf := r1.soft i
        have sc2 : ∃ v, w3.cell? ⟨mB, i, none⟩ = some (.bool v) := ⟨false, g1⟩
        have sf2 := r2.soft i
        have SC := hidMk sc
        have SF := hidMk sf
        have SC2 := hidMk sc2
        have SF2 := hidMk sf2
        have HM3 := hidMk (HM2.out.say hch i hi xt hgt)
        have hps : p ≠ sB := by have := HM2.out.said.lt; omega
        have HI3 : Hid (KInv (es.set i ⟨xt, es[i].b⟩) (leastE (es.set i ⟨xt, es[i].b⟩)) mk la N j) := ⟨by rw [List.length_set]; exact HINV.out.len, leastE_le _, HINV.out.mark, HINV.out.last0, HINV.out.lastj⟩
        have O0 := hidMk o0
        have O3 := hidMk o3
        have HLE := hidMk hle
        clear o0 o1 o2 o3 o4 hle
        clear hch hgt r1 r2 r3 e1 e2 e3 e4 e5 hr hqs HM2 HV2 sc sf sc2 sf2
        go_upto_region 25 with fail
        go_cut [119] from 51 to 244 (fun v wx => v = .bool false ∧ wx = w3)
        case first =>
          go_wp2
          go_meet
          exact ⟨rfl, rfl⟩
        case rest =>
          obtain ⟨rfl, hwc⟩ := hcut
          subst hwc
          apply_assumption
          refine wp_cond_false rfl (wp_skip ?_)
          apply_assumption
          exact wp_mono (t28_timeOne a xl c0 N g b c sB mB j tm mk la es W0 _ hN1 hN2 ps i p hi xt f1 f4 hiN' SC.out SF.out hps _ HLE.out O0.out O3.out _ HM3 HI3 _ _ _ _ _ _ _ _ _ _ _ _ _ _ _ _ _ _ _ _ _ _ _ _ _ _ _ _ _ _ _ _ _ _ _ _ _ _ _ _ _ _ _ _ _ _ _ _ _ _ _ _ _ _ _ _ _ _ _ _ _ _ _ _ _ _ _ _ _ _ _ _ _ _ _ _ _ _ _ _ _ _ _ _ _ _ _ _ _ _ _ _ _ _ _ _ _ _ _ _ _ _ _ _ _ _ _ _ _ _ _ _ _ _ _ _ _ _ _ _ _ _ _ _ _ _ _ _ _ _ _ _ _ _ _ _ _ _ _ _ _ _ _ _ _ _ _ _ _ _ _ _ _ _ _ _ _ _ _ _ _ _ _ _ _ _ _ _ _ _ _ _ _ _ _ _ _ _ _ _ _ _ _ _ _ _ _ _ _ _ _ _ _ _ _ _ _ _ _ _ _ _ _ _ _ _ _ _ _ _ _ _ _ _ _ _ _ _ _ _ _ _ _ _ _ _ _ _ _ _ _ _ _ F HEX) onlyN_blk
    · have hxm : xm = la + 1 := by
        have h9 := HNS.out
        rcases Int.decEq xm (la + 1) with h | h
        · exact absurd (.inr ⟨rfl, h⟩) h9
        · exact h
      have hla0 := HINV.out.last0
      have hwl : wrap64 (la + 1) = la + 1 := w64 (by omega) (by omega)
      have hwl2 : IntKind.i64.wrap (la + 1) = la + 1 := wi64 (by omega) (by omega)
      obtain ⟨hch, ⟨hno, he, hgt⟩ | ⟨ht1, ht2, ⟨hle, he, hgt⟩ | ⟨hle, ⟨p, hp1, he, o0, o1, o2, o3, o4⟩, hgt⟩⟩⟩ := hp
      · exfalso
        apply hno
        refine ⟨by omega, ?_⟩
        by_cases h0 : mk = 0
        · exact .inl h0
        · exact .inr (by rw [hxm]; exact (HINV.out.mark h0).symm)
      · unfold Nothing at he
        subst he
        have f1 := hch.cell e1 HPS1.1 HPS1.2
        have f4 := hch.cell e4 HPS1.1 HPS1.2
        obtain ⟨r1, r2, r3⟩ := HM2.out.after hch
        have g1 := r2.at i hiN
        rw [markL_at es i hi, hqs] at g1
        have sc : ∃ v, w3.cell? ⟨sB, i, none⟩ = some (.int .i64 v) := ⟨es[i].t, by rw [r1.at i hiN, saidL_at es i hi]⟩
        have sf := r1.soft i
        have sc2 : ∃ v, w3.cell? ⟨mB, i, none⟩ = some (.bool v) := ⟨false, g1⟩
        have sf2 := r2.soft i
        have SC := hidMk sc
        have SF := hidMk sf
        have SC2 := hidMk sc2
        have SF2 := hidMk sf2
        have HM3 := hidMk (HM2.out.sign hch i hi hgt)
        have HA : Hid ((es.set i ⟨es[i].t, true⟩).all (fun e => e.b) = false) := by rw [Hid, all_not_any, hle]; rfl
        have HI3 : Hid (KInv (es.set i ⟨es[i].t, true⟩) tm xm la N j) := ⟨by rw [List.length_set]; exact HINV.out.len, fun e he => by
          rcases mem_set_of he with h | rfl
          · exact HINV.out.low e h
          · exact HINV.out.low es[i] (List.getElem_mem hi), fun _ => hxm, HINV.out.last0, HINV.out.lastj⟩
        clear hle
        clear hch hgt r1 r2 r3 e1 e2 e3 e4 e5 hr hqs HM2 HV2 sc sf sc2 sf2
        go_upto_region 25 with fail
        go_cut [119] from 51 to 244 (fun v wx => v = .bool false ∧ wx = w3)
        case first =>
          go_wp2
          go_meet
          exact ⟨rfl, rfl⟩
        case rest =>
          obtain ⟨rfl, hwc⟩ := hcut
          subst hwc
          apply_assumption
          refine wp_cond_false rfl (wp_skip ?_)
          apply_assumption
          exact wp_mono (t28_markNone a xl c0 N g b c sB mB j tm mk la es W0 _ hN1 hN2 ps i hi f1 hiN' SC2.out SF2.out _ xm HA HI3.out.len HM3.out.marked HM3 HI3 _ _ _ _ _ _ _ _ _ _ _ _ _ _ _ _ _ _ _ _ _ _ _ _ _ _ _ _ _ _ _ _ _ _ _ _ _ _ _ _ _ _ _ _ _ _ _ _ _ _ _ _ _ _ _ _ _ _ _ _ _ _ _ _ _ _ _ _ _ _ _ _ _ _ _ _ _ _ _ _ _ _ _ _ _ _ _ _ _ _ _ _ _ _ _ _ _ _ _ _ _ _ _ _ _ _ _ _ _ _ _ _ _ _ _ _ _ _ _ _ _ _ _ _ _ _ _ _ _ _ _ _ _ _ _ _ _ _ _ _ _ _ _ _ _ _ _ _ _ _ _ _ _ _ _ _ _ _ _ _ _ _ _ _ _ _ _ _ _ _ _ _ _ _ _ _ _ _ _ _ _ _ _ _ _ _ _ _ _ _ _ _ _ _ _ _ _ _ _ _ _ _ _ _ _ _ _ _ _ _ _ _ _ _ _ _ _ _ _ _ _ _ _ _ _ _ _ _ _ _ _ _ _ F HEX) onlyN_blk
      · subst he
        have f1 := hch.cell e1 HPS1.1 HPS1.2
        have f4 := hch.cell e4 HPS1.1 HPS1.2
        obtain ⟨r1, r2, r3⟩ := HM2.out.after hch
        have g1 := r2.at i hiN
        rw [markL_at es i hi, hqs] at g1
        have sc : ∃ v, w3.cell? ⟨sB, i, none⟩ = some (.int .i64 v) := ⟨es[i].t, by rw [r1.at i hiN, saidL_at es i hi]⟩
        have sf := r1.soft i
        have sc2 : ∃ v, w3.cell? ⟨mB, i, none⟩ = some (.bool v) := ⟨false, g1⟩
        have sf2 := r2.soft i
        have SC := hidMk sc
        have SF := hidMk sf
        have SC2 := hidMk sc2
        have SF2 := hidMk sf2
        have hpm : p ≠ mB := by have := HM2.out.marked.lt; omega
        have HA : Hid ((es.set i ⟨es[i].t, true⟩).all (fun e => e.b) = true) := by rw [Hid, all_not_any, hle]; rfl
        have hlen : (es.set i ⟨es[i].t, true⟩).length = N := by rw [List.length_set]; exact HINV.out.len
        obtain ⟨p1, p2⟩ := r2.put i (.bool true)
        have HR : Hid (Row1 (w3.setCell ⟨mB, i, none⟩ (.bool true)) mB N 4 (markL (es.set i ⟨es[i].t, true⟩))) := by rw [Hid, markL_set]; exact p1
        have HM3 := hidMk (HM2.out.fresh (w3 := w3.setCell ⟨mB, i, none⟩ (.bool true)) hlen hN2 (hgt.grown p2 (fun e => HM2.out.m1 e.symm) (fun e => HM2.out.m2 e.symm)) (by rw [saidL_same es i hi]; exact r1.grown p2 (fun e => HM2.out.ms e.symm)) (r3.setCell (p := ⟨mB, i, none⟩) HM2.out.mW _))
        have HI3 : Hid (KInv ((es.set i ⟨es[i].t, true⟩).map clr) tm 0 (la + 1) N (j + 1)) := ⟨by rw [List.length_map]; exact hlen, fun e he => by
          obtain ⟨e', he', rfl⟩ := List.mem_map.1 he
          rcases mem_set_of he' with h | rfl
          · exact HINV.out.low e' h
          · exact HINV.out.low es[i] (List.getElem_mem hi), fun h => absurd rfl h, by omega, by have := HINV.out.lastj; omega⟩
        have O0 := hidMk o0
        have O4 : Hid (w3.cell? ⟨p, 4, none⟩ = some (.int .i64 (la + 1))) := by rw [← hxm]; exact o4
        clear o0 o1 o2 o3 o4 hle p1 p2
        clear hch hgt r1 r2 r3 e1 e2 e3 e4 e5 hr hqs HM2 HV2 sc sf sc2 sf2
        go_upto_region 25 with fail
        go_cut [119] from 51 to 244 (fun v wx => v = .bool false ∧ wx = w3)
        case first =>
          go_wp2
          go_meet
          exact ⟨rfl, rfl⟩
        case rest =>
          obtain ⟨rfl, hwc⟩ := hcut
          subst hwc
          apply_assumption
          refine wp_cond_false rfl (wp_skip ?_)
          apply_assumption
          exact wp_mono (t28_markOne a xl c0 N g b c sB mB j tm mk la es W0 _ hN1 hN2 ps i p hi f1 hiN' SC2.out SF2.out hpm hwl hwl2 hmk1 O0.out O4.out _ HA hlen HR.out HM3 HI3 _ _ _ _ _ _ _ _ _ _ _ _ _ _ _ _ _ _ _ _ _ _ _ _ _ _ _ _ _ _ _ _ _ _ _ _ _ _ _ _ _ _ _ _ _ _ _ _ _ _ _ _ _ _ _ _ _ _ _ _ _ _ _ _ _ _ _ _ _ _ _ _ _ _ _ _ _ _ _ _ _ _ _ _ _ _ _ _ _ _ _ _ _ _ _ _ _ _ _ _ _ _ _ _ _ _ _ _ _ _ _ _ _ _ _ _ _ _ _ _ _ _ _ _ _ _ _ _ _ _ _ _ _ _ _ _ _ _ _ _ _ _ _ _ _ _ _ _ _ _ _ _ _ _ _ _ _ _ _ _ _ _ _ _ _ _ _ _ _ _ _ _ _ _ _ _ _ _ _ _ _ _ _ _ _ _ _ _ _ _ _ _ _ _ _ _ _ _ _ _ _ _ _ _ _ _ _ _ _ _ _ _ _ _ _ _ _ _ _ _ _ _ _ _ _ _ _ _ _ _ _ _ _ F HEX) onlyN_blk
    · unfold Bad at he
      subst he
      have f1 := hch.cell e1 HPS1.1 HPS1.2
      have f4 := hch.cell e4 HPS1.1 HPS1.2
      obtain ⟨r1, r2, r3⟩ := HM2.out.after hch
      have g1 := r2.at i hiN
      rw [markL_at es i hi, hqs] at g1
      have sc : ∃ v, w3.cell? ⟨sB, i, none⟩ = some (.int .i64 v) := ⟨es[i].t, by rw [r1.at i hiN, saidL_at es i hi]⟩
      have sf := r1.soft i
      have sc2 : ∃ v, w3.cell? ⟨mB, i, none⟩ = some (.bool v) := ⟨false, g1⟩
      have sf2 := r2.soft i
      have SC := hidMk sc
      have SF := hidMk sf
      have SC2 := hidMk sc2
      have SF2 := hidMk sf2
      have HM3 := hidMk (HM2.out.again hgt r1 r2 r3)
      have k1 : (xk == 1) = false := by simp; omega
      have k2 : (xk == 2) = false := by simp; omega
      have k3 : (xk == 3) = false := by simp; omega
      clear hch hgt r1 r2 r3 e1 e2 e3 e4 e5 hr hqs HM2 HV2 sc sf sc2 sf2
      go_upto_region 25 with fail
      go_cut [119] from 51 to 244 (fun v wx => v = .bool false ∧ wx = w3)
      case first =>
        go_wp2
        go_meet
        exact ⟨rfl, rfl⟩
      case rest =>
        obtain ⟨rfl, hwc⟩ := hcut
        subst hwc
        apply_assumption
        refine wp_cond_false rfl (wp_skip ?_)
        apply_assumption
        exact wp_mono (t28_other a xl c0 N g b c sB mB j tm mk la es W0 _ hN1 hN2 ps i xk 4 f1 k1 k2 k3 HM3 HINV _ _ _ _ _ _ _ _ _ _ _ _ _ _ _ _ _ _ _ _ _ _ _ _ _ _ _ _ _ _ _ _ _ _ _ _ _ _ _ _ _ _ _ _ _ _ _ _ _ _ _ _ _ _ _ _ _ _ _ _ _ _ _ _ _ _ _ _ _ _ _ _ _ _ _ _ _ _ _ _ _ _ _ _ _ _ _ _ _ _ _ _ _ _ _ _ _ _ _ _ _ _ _ _ _ _ _ _ _ _ _ _ _ _ _ _ _ _ _ _ _ _ _ _ _ _ _ _ _ _ _ _ _ _ _ _ _ _ _ _ _ _ _ _ _ _ _ _ _ _ _ _ _ _ _ _ _ _ _ _ _ _ _ _ _ _ _ _ _ _ _ _ _ _ _ _ _ _ _ _ _ _ _ _ _ _ _ _ _ _ _ _ _ _ _ _ _ _ _ _ _ _ _ _ _ _ _ _ _ _ _ _ _ _ _ _ _ _ _ _ _ _ _ _ _ _ _ _ _ _ _ _ _ F HEX) onlyN_blk
end Go.Proofs.Ytpghfopbnicpmaa
