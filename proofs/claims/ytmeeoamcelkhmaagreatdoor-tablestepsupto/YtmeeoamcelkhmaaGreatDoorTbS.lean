import Derived.Test.YtmeeoamcelkhmaaGreatDoorTbR
namespace Go.Proofs.YtmeeoamcelkhmaaGreatDoor
open Go.RowKit Go.Maps
set_option linter.unusedVariables false
set_option linter.unusedSimpArgs false
set_option maxRecDepth 100000
set_option maxHeartbeats 8000000
/-- A statement that ends by itself. -/
def onlyN (N : Act → World → Prop) : Exit → Act → World → Prop
  | .normal, a, w => N a w
  | _, _, _ => False
theorem onlyN_le {Q : Exit → Act → World → Prop} {n : Nat} : ∀ e a w, Exit.inBlock n (onlyN (Q .normal)) e a w → Exit.inBlock n Q e a w := by
  intro e a w h
  cases e with
  | normal => exact h
  | exit m =>
    by_cases hm : m = n
    · simp only [Exit.inBlock, if_pos hm] at h ⊢; exact h
    · simp only [Exit.inBlock, if_neg hm] at h; exact (h : False).elim
  | _ => exact (h : False).elim
def firstReg : Code → Option Nat
  | .region n _ _ => some n
  | .seq a b => match firstReg a with
    | some x => some x
    | none => firstReg b
  | .block _ c => firstReg c
  | .scope c => firstReg c
  | .loop c => firstReg c
  | .cond _ a b => match firstReg a with
    | some x => some x
    | none => firstReg b
  | _ => none
/-- The body of the loop whose first region has that number. -/
def loopOf (n : Nat) : Code → Option Code
  | .loop c => match firstReg c with
    | some m => match Nat.beq m n with
      | true => some c
      | false => loopOf n c
    | none => loopOf n c
  | .seq a b => match loopOf n a with
    | some c => some c
    | none => loopOf n b
  | .block _ c => loopOf n c
  | .scope c => loopOf n c
  | .cond _ a b => match loopOf n a with
    | some c => some c
    | none => loopOf n b
  | _ => none
/-- The largest part of a code whose first region has that number. -/
def partOf (n : Nat) : Code → Option Code
  | .loop c => match firstReg (.loop c) with
    | some m => match Nat.beq m n with
      | true => some (.loop c)
      | false => partOf n c
    | none => partOf n c
  | .seq a b => match firstReg (.seq a b) with
    | some m => match Nat.beq m n with
      | true => some (.seq a b)
      | false => match partOf n a with
        | some c => some c
        | none => partOf n b
    | none => match partOf n a with
        | some c => some c
        | none => partOf n b
  | .block _ c => partOf n c
  | .scope c => partOf n c
  | .cond _ a b => match partOf n a with
    | some c => some c
    | none => partOf n b
  | _ => none
theorem onlyN_blkQ {Q : Exit → Act → World → Prop} {n : Nat} : ∀ e a w, onlyN (Q .normal) e a w → Exit.inBlock n Q e a w := by
  intro e a w h
  cases e with
  | normal => exact h
  | _ => exact (h : False).elim
theorem onlyN_any {Q : Exit → Act → World → Prop} : ∀ e a w, onlyN (Q .normal) e a w → Q e a w := by
  intro e a w h
  cases e with
  | normal => exact h
  | _ => exact (h : False).elim
noncomputable def stepsLoop (n : Nat) : Code := (Tryz.f3.body.bind (loopOf n)).getD .skip
noncomputable def stepsPart (n : Nat) : Code := (Tryz.f3.body.bind (partOf n)).getD .skip
theorem sumL_eq {W w : World} {t mp ms : Nat} {lp lc : Value} {hs cs : List Hp} {ss : List Sn} (h : TInv W w t mp ms lp lc hs cs ss) : sumL (hs.map entH) = lens hs := by
  unfold sumL lens
  rw [List.map_map]
  congr 1
  refine List.map_congr_left fun p hp => ?_
  obtain ⟨h1, O, h2⟩ := h.hv p hp
  have := h1.length_eq
  rw [List.length_map] at this
  simp only [Function.comp, entH, h2, lenV]
  exact this
theorem seenR_lens (cs : List Hp) (nm : ByteArray) : (seenR cs nm).length ≤ lens cs := by
  unfold seenR lens
  induction cs with
  | nil => simp
  | cons h l ih =>
    rw [List.flatMap_cons, List.length_append, List.map_cons, List.sum_cons]
    split
    · omega
    · simp only [List.length_nil]; omega
theorem mem_lens {hs : List Hp} {h : Hp} (hh : h ∈ hs) : h.rs.length ≤ lens hs := by
  unfold lens
  induction hs with
  | nil => cases hh
  | cons p l ih =>
    rw [List.map_cons, List.sum_cons]
    rcases List.mem_cons.1 hh with rfl | hh
    · omega
    · have := ih hh; omega
theorem lens_app (l m : List Hp) : lens (l ++ m) = lens l + lens m := by unfold lens; rw [List.map_append, List.sum_append]
theorem lens_out {hs : List Hp} {k : Nat} (hk : k < hs.length) : lens (hs.take k ++ hs.drop (k + 1)) + hs[k].rs.length = lens hs := by
  have e : hs = hs.take k ++ (hs[k] :: hs.drop (k + 1)) := by rw [← List.drop_eq_getElem_cons hk, List.take_append_drop]
  have h2 : lens hs = lens (hs.take k ++ (hs[k] :: hs.drop (k + 1))) := congrArg lens e
  have h3 : lens (hs[k] :: hs.drop (k + 1)) = hs[k].rs.length + lens (hs.drop (k + 1)) := by unfold lens; rw [List.map_cons, List.sum_cons]
  rw [h2, lens_app, lens_app, h3]
  omega
theorem len_out {hs : List Hp} {k : Nat} (hk : k < hs.length) : (hs.take k ++ hs.drop (k + 1)).length + 1 = hs.length := by
  rw [List.length_append, List.length_take, List.length_drop]; omega
theorem t58 (a : Option Addr) (xl c0 t mp ms j : Nat) (ap : Option Addr) (cp : Nat) (ac : Option Addr) (cc : Nat) (hs cs : List Hp) (ss : List Sn) (W0 w : World) (hn : hs.length + cs.length ≤ 1048576) (hsum : lens hs + lens cs ≤ 1048576) (HI : Hid (TInv W0 w t mp ms (.slice ap hs.length cp) (.slice ac cs.length cc) hs cs ss)) 
    (x1 x2 x7 x8 x9 x10 x11 x12 x13 x14 x15 x16 x17 x18 x19 x20 x21 x22 x23 x24 x25 x26 x27 x28 x29 x30 x31 x32 x33 x34 x35 x36 x37 x38 x39 x40 x41 x42 x43 x44 x45 x46 x47 x48 x49 x50 x51 x52 x53 x54 x55 x56 x57 x58 x59 x60 x61 x62 x63 x64 x65 x66 x67 x68 x69 x70 x71 x72 x73 x74 x75 x76 x77 x78 x79 x80 x81 x82 x83 x84 x85 x86 x87 x88 x89 x90 x91 x92 x93 x94 x95 x96 x97 x98 x99 x100 x101 x102 x103 x104 x105 x106 x107 x108 x109 x110 x111 x112 x113 x114 x115 x116 x117 x118 x119 x120 x121 x122 x123 x124 x125 x126 x127 x128 x129 x130 x131 x132 x133 x134 x135 x136 x137 x138 x139 x140 x141 x142 x143 x144 x145 x146 x147 x148 x149 x150 x151 x152 x153 x154 x155 x156 x157 x158 x159 x160 x161 x162 x163 x164 x165 x166 x167 x168 x169 x170 x171 x172 x173 x174 x175 x176 x177 x178 x179 x180 x181 x182 x183 x184 x185 x186 x187 x188 x189 x190 x191 x192 x193 x194 x195 x196 x197 x198 x199 x200 x201 x202 x203 x204 x205 x206 : Value) (F : Act → World → Prop)
    (HEX : Hid (∀ (hs' cs' : List Hp) (ss' : List Sn) (ap' : Option Addr) (cp' : Nat) (ac' : Option Addr) (cc' : Nat) (w' : World), TInv W0 w' t mp ms (.slice ap' hs'.length cp') (.slice ac' cs'.length cc') hs' cs' ss' → hs'.length + cs'.length ≤ hs.length + cs.length → lens hs' + lens cs' ≤ lens hs + lens cs → ∀ (y7 y8 y9 y10 y11 y12 y13 y14 y15 y16 y17 y18 y19 y20 y21 y22 y23 y24 y25 y29 y30 y31 y32 y33 y34 y35 y36 y37 y38 y39 y40 y41 y42 y43 y44 y45 y46 y47 y48 y49 y50 y51 y52 y53 y54 y55 y56 y57 y58 y59 y60 y61 y62 y63 y64 y65 y66 y67 y68 y69 y70 y71 y72 y73 y74 y75 y76 y77 y78 y79 y80 y81 y82 y83 y84 y85 y86 y87 y88 y89 y90 y91 y92 y93 y94 y95 y96 y97 y98 y99 y100 y101 y102 y103 y104 y105 y106 y107 y108 y109 y110 y111 y112 y113 y114 y115 y116 y117 y118 y119 y120 y121 y122 y123 y124 y125 y126 y127 y128 y129 y130 y131 y132 y133 y134 y135 y136 y137 y138 y139 y140 y141 y142 y143 y144 y145 y146 y147 y148 y149 y150 y151 y152 y153 y154 y155 y156 y157 y158 y159 y160 y161 y162 y163 y164 y165 y166 y167 y168 y169 y170 y171 y172 y173 y174 y175 y176 y177 y178 y179 y180 y181 y182 y183 y184 y185 y186 y187 y188 y189 y190 y191 y192 y193 y194 y195 y196 y197 y198 y199 y200 y201 y202 y203 y204 y205 y206 : Value), F { tmps := List.toArray ((.slice a xl c0) :: (x1) :: (x2) :: (.pointer (some ⟨t, 0, none⟩)) :: (.slice ap' hs'.length cp') :: (.slice ac' cs'.length cc') :: (.int .i64 (j : Int)) :: y7 :: y8 :: y9 :: y10 :: y11 :: y12 :: y13 :: y14 :: y15 :: y16 :: y17 :: y18 :: y19 :: y20 :: y21 :: y22 :: y23 :: y24 :: y25 :: (x26) :: (x27) :: (x28) :: y29 :: y30 :: y31 :: y32 :: y33 :: y34 :: y35 :: y36 :: y37 :: y38 :: y39 :: y40 :: y41 :: y42 :: y43 :: y44 :: y45 :: y46 :: y47 :: y48 :: y49 :: y50 :: y51 :: y52 :: y53 :: y54 :: y55 :: y56 :: y57 :: y58 :: y59 :: y60 :: y61 :: y62 :: y63 :: y64 :: y65 :: y66 :: y67 :: y68 :: y69 :: y70 :: y71 :: y72 :: y73 :: y74 :: y75 :: y76 :: y77 :: y78 :: y79 :: y80 :: y81 :: y82 :: y83 :: y84 :: y85 :: y86 :: y87 :: y88 :: y89 :: y90 :: y91 :: y92 :: y93 :: y94 :: y95 :: y96 :: y97 :: y98 :: y99 :: y100 :: y101 :: y102 :: y103 :: y104 :: y105 :: y106 :: y107 :: y108 :: y109 :: y110 :: y111 :: y112 :: y113 :: y114 :: y115 :: y116 :: y117 :: y118 :: y119 :: y120 :: y121 :: y122 :: y123 :: y124 :: y125 :: y126 :: y127 :: y128 :: y129 :: y130 :: y131 :: y132 :: y133 :: y134 :: y135 :: y136 :: y137 :: y138 :: y139 :: y140 :: y141 :: y142 :: y143 :: y144 :: y145 :: y146 :: y147 :: y148 :: y149 :: y150 :: y151 :: y152 :: y153 :: y154 :: y155 :: y156 :: y157 :: y158 :: y159 :: y160 :: y161 :: y162 :: y163 :: y164 :: y165 :: y166 :: y167 :: y168 :: y169 :: y170 :: y171 :: y172 :: y173 :: y174 :: y175 :: y176 :: y177 :: y178 :: y179 :: y180 :: y181 :: y182 :: y183 :: y184 :: y185 :: y186 :: y187 :: y188 :: y189 :: y190 :: y191 :: y192 :: y193 :: y194 :: y195 :: y196 :: y197 :: y198 :: y199 :: y200 :: y201 :: y202 :: y203 :: y204 :: y205 :: y206 :: []), defers := [] } w')) :
    Code.wp Tryz.prog (stepsPart 58) (onlyN F) { tmps := List.toArray ((.slice a xl c0) :: x1 :: x2 :: (.pointer (some ⟨t, 0, none⟩)) :: (.slice ap hs.length cp) :: (.slice ac cs.length cc) :: (.int .i64 (j : Int)) :: x7 :: x8 :: x9 :: x10 :: x11 :: x12 :: x13 :: x14 :: x15 :: x16 :: x17 :: x18 :: x19 :: x20 :: x21 :: x22 :: x23 :: x24 :: x25 :: x26 :: x27 :: x28 :: x29 :: x30 :: x31 :: x32 :: x33 :: x34 :: x35 :: x36 :: x37 :: x38 :: x39 :: x40 :: x41 :: x42 :: x43 :: x44 :: x45 :: x46 :: x47 :: x48 :: x49 :: x50 :: x51 :: x52 :: x53 :: x54 :: x55 :: x56 :: x57 :: x58 :: x59 :: x60 :: x61 :: x62 :: x63 :: x64 :: x65 :: x66 :: x67 :: x68 :: x69 :: x70 :: x71 :: x72 :: x73 :: x74 :: x75 :: x76 :: x77 :: x78 :: x79 :: x80 :: x81 :: x82 :: x83 :: x84 :: x85 :: x86 :: x87 :: x88 :: x89 :: x90 :: x91 :: x92 :: x93 :: x94 :: x95 :: x96 :: x97 :: x98 :: x99 :: x100 :: x101 :: x102 :: x103 :: x104 :: x105 :: x106 :: x107 :: x108 :: x109 :: x110 :: x111 :: x112 :: x113 :: x114 :: x115 :: x116 :: x117 :: x118 :: x119 :: x120 :: x121 :: x122 :: x123 :: x124 :: x125 :: x126 :: x127 :: x128 :: x129 :: x130 :: x131 :: x132 :: x133 :: x134 :: x135 :: x136 :: x137 :: x138 :: x139 :: x140 :: x141 :: x142 :: x143 :: x144 :: x145 :: x146 :: x147 :: x148 :: x149 :: x150 :: x151 :: x152 :: x153 :: x154 :: x155 :: x156 :: x157 :: x158 :: x159 :: x160 :: x161 :: x162 :: x163 :: x164 :: x165 :: x166 :: x167 :: x168 :: x169 :: x170 :: x171 :: x172 :: x173 :: x174 :: x175 :: x176 :: x177 :: x178 :: x179 :: x180 :: x181 :: x182 :: x183 :: x184 :: x185 :: x186 :: x187 :: x188 :: x189 :: x190 :: x191 :: x192 :: x193 :: x194 :: x195 :: x196 :: x197 :: x198 :: x199 :: x200 :: x201 :: x202 :: x203 :: x204 :: x205 :: x206 :: []), defers := [] } w := by
  conv => arg 2; whnf
  have HS : Hid (sumL (hs.map entH) = lens hs) := sumL_eq HI.out
  have HSL : Hid (∀ p ∈ hs.map entH, ∃ a n c, p.2 = .slice a n c) := fun p hp => by
    obtain ⟨q, hq, rfl⟩ := List.mem_map.1 hp
    obtain ⟨_, O, e⟩ := HI.out.hv q hq
    exact ⟨_, _, _, e⟩
  go_wp2_with fail
  refine (prepared_any w t mp (.map (some ms)) (hs.map entH) HI.out.pt.own HI.out.pt.pre (by rw [List.length_map]; omega)).mono ?_
  rintro e w1 ⟨u, vs, rfl, hr, ho, hb⟩
  have HI1 := hidMk (HI.out.later hb)
  have hr' : vs.Perm (hs.map (·.x)) := by
    have := hr.1
    rw [List.map_map] at this
    exact this
  have HR := hidMk hr'
  have HA := hidMk hr.2
  have HO := hidMk ho
  obtain ⟨au, cu, rfl⟩ := row_form ho
  have HW := hidMk (waiting_any w1 t mp (.map (some ms)) (hs.map entH) HI1.out.pt.own HI1.out.pt.pre HSL.out (by rw [HS.out]; omega))
  rw [HS.out] at HW
  clear hr ho hb HI hr'
  go_wp2_with fail
  refine HW.out.mono ?_
  rintro e w2 ⟨rfl, hb⟩
  have HI2 := hidMk (HI1.out.later hb)
  have HO2 : Hid (OT w2 w.heap.size (.slice au vs.length cu) vs) := own_later HO.out hb
  clear hb HI1 HO HW HS HSL
  have HC := hidMk (lwaiting_any w2 W0.heap.size w.heap.size (.slice ap hs.length cp) (.slice au vs.length cu) hs vs HI2.out.pl HO2.out HR.out HA.out HI2.out.pt.nodup (by omega) (by omega))
  go_wp2_with fail
  refine HC.out.mono ?_
  rintro e w3 ⟨rfl, hb⟩
  have HI3 := hidMk (HI2.out.later hb)
  clear hb HI2 HO2 HC
  go_wp2_with fail
  exact HEX.out hs cs ss ap cp ac cc w3 HI3.out (by omega) (by omega) _ _ _ _ _ _ _ _ _ _ _ _ _ _ _ _ _ _ _ _ _ _ _ _ _ _ _ _ _ _ _ _ _ _ _ _ _ _ _ _ _ _ _ _ _ _ _ _ _ _ _ _ _ _ _ _ _ _ _ _ _ _ _ _ _ _ _ _ _ _ _ _ _ _ _ _ _ _ _ _ _ _ _ _ _ _ _ _ _ _ _ _ _ _ _ _ _ _ _ _ _ _ _ _ _ _ _ _ _ _ _ _ _ _ _ _ _ _ _ _ _ _ _ _ _ _ _ _ _ _ _ _ _ _ _ _ _ _ _ _ _ _ _ _ _ _ _ _ _ _ _ _ _ _ _ _ _ _ _ _ _ _ _ _ _ _ _ _ _ _ _ _ _ _ _ _ _ _ _ _ _ _ _ _ _ _ _ _ _ _ _ _ _ _ _ _ _
end Go.Proofs.YtmeeoamcelkhmaaGreatDoor
