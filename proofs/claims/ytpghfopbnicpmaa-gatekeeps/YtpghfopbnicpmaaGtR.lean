import Derived.Test.YtpghfopbnicpmaaGtQ
namespace Go.Proofs.Ytpghfopbnicpmaa
open Go.RowKit
set_option linter.unusedVariables false
set_option linter.unusedSimpArgs false
set_option maxRecDepth 100000
set_option maxHeartbeats 8000000
theorem keeps_walk (xs : List Ie) (a : Option Addr) (c0 : Nat) (n : Int) (W : World) (h : ILies W a xs) (hl : xs.length ≤ 4398046510976) (hg : ∀ x ∈ xs, x.vs.length ≤ 4398046511104) :
    Calls Try.prog 3 #[.int .i64 n, .slice a xs.length c0] W fun e W' => e = .returned (.bool true) ∧ Below W.heap.size W W' := by
  have HI := hidMk h
  have HVB := hidMk hg
  clear h hg
  obtain ⟨N, hN1, hN2, HNn⟩ : ∃ N : Nat, 1 ≤ N ∧ N ≤ 64 ∧ Hid ((¬ (n < 1 ∨ n > 64) → n = (N : Int)) ∧ ((n < 1 ∨ n > 64) → N = 3)) := by
    by_cases hn : n < 1 ∨ n > 64
    · exact ⟨3, by omega, by omega, fun k => absurd hn k, fun _ => rfl⟩
    · exact ⟨n.toNat, by omega, by omega, fun _ => by omega, fun k => absurd k hn⟩
  obtain ⟨i0, hi0, hz0, hz1, hz2⟩ := info_parts infoI
  obtain ⟨i1, hi1, hy0, hy1, hy2⟩ := info_parts infoB
  have hmk0 : ∀ W : World, (Instr.makeSlice 28 (.int .i64 (N : Int)) (.int .i64 (N : Int))).run Try.prog W = .ok (.slice (some ⟨W.heap.size, 0, none⟩) N N) (W.alloc (.cells (madeCells #[.int .i64 0] N) 2)) := fun W => by
    have := run_make (P := Try.prog) W 28 2 i0 (.int .i64 0) Try.underlying28 hi0 hz0 .i64 .i64 (N : Int) (N : Int) (by omega) (by omega) (by rw [hz2]; omega) (by omega)
    rw [this, hz1]
    rw [show ((N : Int)).toNat = N by omega, Nat.mul_one]
    rfl
  have hmk1 : ∀ W : World, (Instr.makeSlice 29 (.int .i64 (N : Int)) (.int .i64 (N : Int))).run Try.prog W = .ok (.slice (some ⟨W.heap.size, 0, none⟩) N N) (W.alloc (.cells (madeCells #[.bool false] N) 4)) := fun W => by
    have := run_make (P := Try.prog) W 29 4 i1 (.bool false) Try.underlying29 hi1 hy0 .i64 .i64 (N : Int) (N : Int) (by omega) (by omega) (by rw [hy2]; omega) (by omega)
    rw [this, hy1]
    rw [show ((N : Int)).toNat = N by omega, Nat.mul_one]
    rfl
  clear hi0 hz0 hz1 hz2 hi1 hy0 hy1 hy2
  have hcase : (n < 1) ∨ (¬ n < 1 ∧ n > 64) ∨ (¬ n < 1 ∧ ¬ n > 64 ∧ n = (N : Int)) := by
    by_cases h1 : n < 1
    · exact .inl h1
    · by_cases h2 : n > 64
      · exact .inr (.inl ⟨h1, h2⟩)
      · exact .inr (.inr ⟨h1, h2, HNn.out.1 (by omega)⟩)
  have HN3 : Hid (n < 1 ∨ n > 64 → (N : Int) = 3) := fun hh => by rw [HNn.out.2 hh]; rfl
  clear HNn
  go_enter Try.func3, Try.ntmps3
  rcases hcase with h1 | ⟨h1, h2⟩ | ⟨h1, h2, h3⟩
  all_goals
    go_upto_if 27 with fail
    go_cut [0] (fun v wx => v = .int .i64 N ∧ wx = W)
    case first =>
      go_wp2
      go_meet
      first
        | exact ⟨by rw [HN3.out (.inl h1)], rfl⟩
        | exact ⟨by rw [HN3.out (.inr (by assumption))], rfl⟩
        | exact ⟨rfl, rfl⟩
    case rest =>
      obtain ⟨rfl, hwc⟩ := hcut
      subst hwc
      clear h1
      go_wp2_with fail
      refine (new_any N _).mono ?_
      rintro e w1 ⟨hb1, ⟨hbad, -⟩ | ⟨-, -, g, b, c, rfl, hgW, hbW, hGT⟩⟩
      · exact absurd (by omega) hbad
      rw [Int.toNat_natCast] at hGT
      have HGT := hidMk hGT
      have HB1 := hidMk hb1
      have HLT := hidMk hGT.lt
      have hws := hb1.size
      clear hGT hb1
      have HS0 : Hid (Row1 (w1.alloc (.cells (madeCells #[.int .i64 0] N) 2)) w1.heap.size N 2 (List.replicate N (.int .i64 0))) := Row1.new _ _ _ _ hN2
      have HM0 : Hid (Row1 ((w1.alloc (.cells (madeCells #[.int .i64 0] N) 2)).alloc (.cells (madeCells #[.bool false] N) 4)) (w1.heap.size + 1) N 4 (List.replicate N (.bool false))) := by
        have := Row1.new (w1.alloc (.cells (madeCells #[.int .i64 0] N) 2)) (.bool false) N 4 hN2
        rw [show (w1.alloc (.cells (madeCells #[.int .i64 0] N) 2)).heap.size = w1.heap.size + 1 by simp] at this
        exact this
      go_wp2_with fail
      have HB2 : Hid (Below w1.heap.size w1 ((w1.alloc (.cells (madeCells #[.int .i64 0] N) 2)).alloc (.cells (madeCells #[.bool false] N) 4))) := (bel1 _ _).trans ((bel1 _ _).mono (by simp))
      have HS1 : Hid (Row1 ((w1.alloc (.cells (madeCells #[.int .i64 0] N) 2)).alloc (.cells (madeCells #[.bool false] N) 4)) w1.heap.size N 2 (List.replicate N (.int .i64 0))) := HS0.out.later (bel1 _ _)
      generalize (w1.alloc (.cells (madeCells #[.int .i64 0] N) 2)).alloc (.cells (madeCells #[.bool false] N) 4) = w2 at *
      clear HS0
      go_loopg [9] N (fun gk i wr => ∃ (k : Nat), gk + k = N ∧ i = .int .i64 k ∧ Row1 wr w1.heap.size N 2 (List.replicate k (.int .i64 (-1)) ++ List.replicate (N - k) (.int .i64 0)) ∧ w2.grownBy wr (some w1.heap.size))
      case atStart => exact ⟨0, by omega, rfl, by simpa using HS1.out, grown_refl _ _⟩
      case round =>
        obtain ⟨k, hgk, rfl, hr, hgr⟩ := hrel
        have HR := hidMk hr
        have HGR := hidMk hgr
        by_cases hk : k < N
        · have hk' : (k : Int) < (N : Int) := by omega
          have d0 := hr.at k hk
          have hd : (List.replicate k (Value.int .i64 (-1)) ++ List.replicate (N - k) (.int .i64 0))[k]? = some (.int .i64 0) := by
            rw [List.getElem?_append_right (by simp), List.length_replicate, Nat.sub_self, List.getElem?_replicate, if_pos (by omega)]
          rw [hd] at d0
          have sf := hr.soft k
          have hp := hr.put k (.int .i64 (-1))
          rw [rep_step _ _ _ _ hk] at hp
          have HP := hidMk hp.1
          have HPG := hidMk (grown_trans hgr hp.2)
          clear hr hgr hd hp HR HGR
          go_wp2
          go_roundg (gk - 1)
          case measure => omega
          case rel => exact ⟨k + 1, by omega, by go_num, HP.out, HPG.out⟩
        · have hk' : ¬ (k : Int) < (N : Int) := by omega
          obtain rfl : N = k := by omega
          clear hr hgr
          have HMEM : Hid (KMem wr wc g b c w1.heap.size (w1.heap.size + 1) N (List.replicate N ⟨-1, false⟩) (-1) 0) := by
            obtain ⟨l1, l2⟩ := HLT.out
            have hr := HR.out
            rw [Nat.sub_self, List.replicate_zero, List.append_nil] at hr
            refine ⟨(HGT.out.later HB2.out).grown HGR.out (by omega) (by omega), by rw [saidL_new]; exact hr, by rw [markL_new]; exact HM0.out.grown HGR.out (by omega), (HB1.out.trans (HB2.out.mono hws)).grown HGR.out (by have := HB2.out.size; omega) (fun j ej => by cases ej; exact hws), hgW, hbW, hws, by omega, by omega, by omega, by omega, by omega, by omega⟩
          clear HR HGR HM0 HS1 HB2 HGT HB1 HLT
          obtain ⟨sB, hsB⟩ : ∃ sB, sB = w1.heap.size := ⟨_, rfl⟩
          rw [← hsB] at HMEM ⊢
          clear hsB
          go_wp2
          have HINV0 : Hid (KInv (List.replicate N ⟨-1, false⟩) (-1) 0 0 N 0) := ⟨by simp, fun e he => by rw [(List.mem_replicate.1 he).2]; exact Int.le_refl _, fun h => absurd rfl h, by omega, by omega⟩
          refine wp_mono (keeps_loop xs a c0 N g b c sB (sB + 1) (-1) 0 0 (List.replicate N ⟨-1, false⟩) wc wr HI hl HVB hN1 hN2 hmk1 HMEM.out HINV0.out _ _ _ _ _ _ _ _ _ _ _ _ _ _ _ _ _ _ _ _ _ _ _ _ _ _ _ _ _ _ _ _ _ _ _ _ _ _ _ _ _ _ _ _ _ _ _ _ _ _ _ _ _ _ _ _ _ _ _ _ _ _ _ _ _ _ _ _ _ _ _ _ _ _ _ _ _ _ _ _ _ _ _ _ _ _ _ _ _ _ _ _ _ _ _ _ _ _ _ _ _ _ _ _ _ _ _ _ _ _ _ _ _ _ _ _ _ _ _ _ _ _ _ _ _ _ _ _ _ _ _ _ _ _ _ _ _ _ _ _ _ _ _ _ _ _ _ _ _ _ _ _ _ _ _ _ _ _ _ _ _ _ _ _ _ _ _ _ _ _ _ _ _ _ _ _ _ _ _ _ _ _ _ _ _ _ _ _ _ _ _ _ _ _ _ _ _ _ _ _ _ _ _ _ _ _ _ _ _ _ _ _ _ _ _ _ _ _ _ _ _ _ _ _ _ _ _ _ _ _ _ _ _ _ _ _ _ _ ?hx) onlyN_le
          case hx =>
            intro z0 z1 z2 z3 z4 z5 z6 z7 z8 z9 z10 z11 z12 z13 z14 z15 z16 z17 z18 z19 z20 z21 z22 z23 z24 z25 z26 z27 z28 z29 z30 z31 z32 z33 z34 z35 z36 z37 z38 z39 z40 z41 z42 z43 z44 z45 z46 z47 z48 z49 z50 z51 z52 z53 z54 z55 z56 z57 z58 z59 z60 z61 z62 z63 z64 z65 z66 z67 z68 z69 z70 z71 z72 z73 z74 z75 z76 z77 z78 z79 z80 z81 z82 z83 z84 z85 z86 z87 z88 z89 z90 z91 z92 z93 z94 z95 z96 z97 z98 z99 z100 z101 z102 z103 z104 z105 z106 z107 z108 z109 z110 z111 z112 z113 z114 z115 z116 z117 z118 z119 z120 z121 z122 z123 z124 z125 z126 z127 z128 z129 z130 z131 z132 z133 z134 z135 z136 z137 z138 z139 z140 z141 z142 z143 z144 z145 z146 z147 z148 z149 z150 z151 z152 z153 z154 z155 z156 z157 z158 z159 z160 z161 z162 z163 z164 z165 z166 z167 z168 z169 z170 z171 z172 z173 z174 z175 z176 z177 z178 z179 z180 z181 z182 z183 z184 z185 z186 z187 z188 z189 z190 z191 z192 z193 z194 z195 z196 z197 z198 z199 z200 z201 z202 z203 z204 z205 z206 z207 z208 z209 z210 z211 z212 z213 z214 z215 z216 z217 z218 z219 z220 z221 z222 z223 z224 z225 z226 z227 z228 z229 z230 z231 z232 z233 z234 z235 z236 z237 z238 z239 z240 z241 z242 z243 z244 w' hb
            have HBF := hidMk hb
            clear hb
            go_wp2
            go_ret
            exact ⟨rfl, HBF.out⟩
end Go.Proofs.Ytpghfopbnicpmaa
