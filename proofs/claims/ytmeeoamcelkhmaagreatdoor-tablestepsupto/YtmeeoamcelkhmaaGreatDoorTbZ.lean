import Derived.Test.YtmeeoamcelkhmaaGreatDoorTbY
namespace Go.Proofs.YtmeeoamcelkhmaaGreatDoor
open Go.RowKit Go.Maps
set_option linter.unusedVariables false
set_option linter.unusedSimpArgs false
set_option maxRecDepth 100000
set_option maxHeartbeats 8000000
theorem steps_walk (xs : List Sop) (a : Option Addr) (c0 : Nat) (W : World) (h : SLies W a xs) (hl : xs.length ≤ 1048576) (hbk : bulkR xs ≤ 1048576) (hg : ∀ x ∈ xs, Sok W x) (het : Ety W) :
    Calls Tryz.prog 3 #[.slice a xs.length c0] W fun e W' => e = .returned (.bool true) ∧ Below W.heap.size W W' := by
  have HSL := hidMk h
  have HSO := hidMk hg
  have HET := hidMk het
  clear h hg het
  go_enter Tryz.func3, Tryz.ntmps3
  go_wp2_with fail
  refine (new_any W).mono ?_
  rintro e w1 ⟨t, mp, ms, rfl, hP, hb⟩
  have HINV : Hid (TInv W w1 t mp ms (.slice none 0 0) (.slice none 0 0) [] [] []) := ⟨hP.law (S := fun _ => False) (Gs.refl _ _) (fun _ _ s => s.elim) (fun i x => by rcases x with x | x <;> cases x), World.ownsRow_nil _ _ _ _, World.ownsRow_nil _ _ _ _, hb, (fun f hf => by cases hf), (fun f hf => by cases hf), (fun nm => by simp [seenQ, seenR]), (fun i hi => by cases hi), Nat.le_refl _⟩
  clear hP hb
  go_wp2_with fail
  refine wp_mono (steps_loop xs a c0 t mp ms W _ hl hbk HSL HSO HET HINV.out _ _ _ _ _ _ _ _ _ _ _ _ _ _ _ _ _ _ _ _ _ _ _ _ _ _ _ _ _ _ _ _ _ _ _ _ _ _ _ _ _ _ _ _ _ _ _ _ _ _ _ _ _ _ _ _ _ _ _ _ _ _ _ _ _ _ _ _ _ _ _ _ _ _ _ _ _ _ _ _ _ _ _ _ _ _ _ _ _ _ _ _ _ _ _ _ _ _ _ _ _ _ _ _ _ _ _ _ _ _ _ _ _ _ _ _ _ _ _ _ _ _ _ _ _ _ _ _ _ _ _ _ _ _ _ _ _ _ _ _ _ _ _ _ _ _ _ _ _ _ _ _ _ _ _ _ _ _ _ _ _ _ _ _ _ _ _ _ _ _ _ _ _ _ _ _ _ _ _ _ _ _ _ _ _ _ _ _ _ _ _ _ _ _ _ _ _ _ _ _ _ _ _ ?hx) onlyN_le
  case hx =>
    intro y0 y1 y2 y3 y4 y5 y6 y7 y8 y9 y10 y11 y12 y13 y14 y15 y16 y17 y18 y19 y20 y21 y22 y23 y24 y25 y26 y27 y28 y29 y30 y31 y32 y33 y34 y35 y36 y37 y38 y39 y40 y41 y42 y43 y44 y45 y46 y47 y48 y49 y50 y51 y52 y53 y54 y55 y56 y57 y58 y59 y60 y61 y62 y63 y64 y65 y66 y67 y68 y69 y70 y71 y72 y73 y74 y75 y76 y77 y78 y79 y80 y81 y82 y83 y84 y85 y86 y87 y88 y89 y90 y91 y92 y93 y94 y95 y96 y97 y98 y99 y100 y101 y102 y103 y104 y105 y106 y107 y108 y109 y110 y111 y112 y113 y114 y115 y116 y117 y118 y119 y120 y121 y122 y123 y124 y125 y126 y127 y128 y129 y130 y131 y132 y133 y134 y135 y136 y137 y138 y139 y140 y141 y142 y143 y144 y145 y146 y147 y148 y149 y150 y151 y152 y153 y154 y155 y156 y157 y158 y159 y160 y161 y162 y163 y164 y165 y166 y167 y168 y169 y170 y171 y172 y173 y174 y175 y176 y177 y178 y179 y180 y181 y182 y183 y184 y185 y186 y187 y188 y189 y190 y191 y192 y193 y194 y195 y196 y197 y198 y199 y200 w' hB
    have HB := hidMk hB
    clear hB
    go_wp2_with fail
    go_ret
    exact ⟨rfl, HB.out⟩
end Go.Proofs.YtmeeoamcelkhmaaGreatDoor
