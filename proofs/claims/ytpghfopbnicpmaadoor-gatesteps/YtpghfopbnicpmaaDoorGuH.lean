import Derived.Test.YtpghfopbnicpmaaDoorGuF
namespace Go.Proofs.YtpghfopbnicpmaaDoor
open Go.RowKit
set_option linter.unusedVariables false
set_option linter.unusedSimpArgs false
set_option maxRecDepth 100000
set_option maxHeartbeats 8000000
theorem steps_walk (xs : List Ie) (a : Option Addr) (c0 : Nat) (n : Int) (W : World) (h : ILies W a xs) (hl : xs.length ≤ 4398046510976) (hg : ∀ x ∈ xs, x.vs.length ≤ 4398046511104) (het : Ety W) :
    Calls Tryd.prog 3 #[.int .i64 n, .slice a xs.length c0] W fun e W' => e = .returned (.bool true) ∧ Below W.heap.size W W' := by
  have HI := hidMk h
  have HVB := hidMk hg
  have HET := hidMk het
  clear h hg het
  go_enter Tryd.func3, Tryd.ntmps3
  go_wp2_with fail
  refine (new_any n _).mono ?_
  rintro e w1 ⟨hb1, ⟨hbad, rfl⟩ | ⟨hn1, hn2, g, b, c, rfl, hgW, hbW, hGT⟩⟩
  · have HB1 := hidMk hb1
    have HE1 := hidMk (HET.out.later hb1)
    clear hb1
    go_wp2_with fail
    refine (told_errno 4 _ HE1.out).mono ?_
    rintro e w2 ⟨rfl, hb2⟩
    have HB2 : Hid (Below W.heap.size W w2) := HB1.out.trans (hb2.mono HB1.out.size)
    clear hb2 HB1 HE1
    by_cases h1 : n < 1
    · go_wp2
      go_ret
      exact ⟨rfl, HB2.out⟩
    · have h2 : 64 < n := by omega
      go_wp2
      go_ret
      exact ⟨rfl, HB2.out⟩
  · obtain ⟨N, rfl⟩ : ∃ N : Nat, n = (N : Int) := ⟨n.toNat, by omega⟩
    rw [Int.toNat_natCast] at hGT
    have HB1 := hidMk hb1
    have HGT := hidMk hGT
    have h1 : ¬ (N : Int) < 1 := by omega
    have h2 : ¬ 64 < (N : Int) := by omega
    clear hb1 hGT
    go_wp2_with fail
    refine (told_nil _).mono ?_
    rintro e w2 ⟨rfl, hw2⟩
    subst hw2
    go_wp2_with fail
    refine (newD_any N (by omega) (by omega) _).mono ?_
    rintro e w3 ⟨d, p, q, cp, cq, rfl, hd, hp, hq, hGR, hb3⟩
    have HMEM : Hid (SMem w3 W g b c d p q cp cq N (List.replicate N ⟨-1, false⟩) (-1) 0) := by
      obtain ⟨l1, l2⟩ := HGT.out.lt
      have hs := HB1.out.size
      exact ⟨HGT.out.later hb3, hGR, waits_new N, by simp, HB1.out.trans (hb3.mono hs), ⟨hgW, hbW, by omega, by omega, by omega⟩, ⟨by omega, by omega, by omega, by omega, by omega, by omega⟩⟩
    clear hGR hb3 HB1 HGT
    go_wp2
    refine wp_mono (steps_loop xs a c0 N g b c d p q cp cq (-1) 0 (List.replicate N ⟨-1, false⟩) W w3 HI hl HVB (by omega) HET HMEM.out _ _ _ _ _ _ _ _ _ _ _ _ _ _ _ _ _ _ _ _ _ _ _ _ _ _ _ _ _ _ _ _ _ _ _ _ _ _ _ _ _ _ _ _ _ _ _ _ _ _ _ _ _ _ _ _ _ _ _ _ _ _ _ _ _ _ _ _ _ _ _ _ _ _ _ _ _ _ _ _ _ _ _ _ _ _ _ _ _ _ _ _ _ _ _ _ _ _ _ _ _ _ _ _ _ _ _ _ _ _ _ _ _ _ _ _ _ _ _ _ _ _ _ _ _ _ _ _ _ _ _ _ _ _ _ _ _ _ _ _ _ _ _ _ _ _ _ _ _ _ _ _ _ _ _ _ _ _ _ _ _ _ _ _ _ _ _ _ _ _ _ _ _ _ _ _ _ _ _ _ _ _ _ _ _ _ _ _ _ _ _ _ _ _ _ _ _ _ _ _ _ _ _ _ ?hx) onlyN_le
    case hx =>
      intro z0 z1 z2 z3 z4 z5 z6 z7 z8 z9 z10 z11 z12 z13 z14 z15 z16 z17 z18 z19 z20 z21 z22 z23 z24 z25 z26 z27 z28 z29 z30 z31 z32 z33 z34 z35 z36 z37 z38 z39 z40 z41 z42 z43 z44 z45 z46 z47 z48 z49 z50 z51 z52 z53 z54 z55 z56 z57 z58 z59 z60 z61 z62 z63 z64 z65 z66 z67 z68 z69 z70 z71 z72 z73 z74 z75 z76 z77 z78 z79 z80 z81 z82 z83 z84 z85 z86 z87 z88 z89 z90 z91 z92 z93 z94 z95 z96 z97 z98 z99 z100 z101 z102 z103 z104 z105 z106 z107 z108 z109 z110 z111 z112 z113 z114 z115 z116 z117 z118 z119 z120 z121 z122 z123 z124 z125 z126 z127 z128 z129 z130 z131 z132 z133 z134 z135 z136 z137 z138 z139 z140 z141 z142 z143 z144 z145 z146 z147 z148 z149 z150 z151 z152 z153 z154 z155 z156 z157 z158 z159 z160 z161 z162 z163 z164 z165 z166 z167 z168 z169 z170 z171 z172 z173 z174 z175 z176 z177 z178 z179 z180 z181 z182 z183 z184 z185 z186 z187 z188 z189 z190 z191 z192 z193 z194 z195 z196 z197 z198 z199 z200 z201 z202 z203 z204 z205 z206 z207 w' hb
      have HBF := hidMk hb
      clear hb
      go_wp2
      go_ret
      exact ⟨rfl, HBF.out⟩
end Go.Proofs.YtpghfopbnicpmaaDoor
