import Derived.Test.YtobhccmnlmlapaaGreatDoorRa
import Derived.Deep.CutBlock
import Derived.Deep.Cut
import Derived.Test.YtobhccmnlmlapaaGreatDoorPd
import Derived.Test.YtobhccmnlmlapaaGreatDoorCards
import Derived.Test.YtobhccmnlmlapaaGreatDoorTie
import Derived.Test.YtobhccmnlmlapaaGreatDoorQStZq
import Derived.WalkKit
import Derived.ProofKit
import Derived.OpenShut
import Derived.ShutString
import Derived.ChangeOld
import Derived.ChangeSlices
import Derived.Below
import Derived.LaidSub
import Derived.LaidHandle
import Derived.SizedLaws
import Derived.Deep.DeepHandedRow
import Derived.Lib.LaidTab
import Derived.Lib.SmallJoins
import Derived.Deep.Slices
import Derived.Deep.Strs
namespace Go.Proofs.YtobhccmnlmlapaaGreatDoor
open Go.RowKit Go.Maps
set_option linter.unusedVariables false
set_option linter.unusedSimpArgs false
set_option maxRecDepth 100000
set_option maxHeartbeats 8000000 in
theorem loads_c0 (w0 W : World) (B1 B2 t mp s : Nat) (ss : List Sh) (u : Value) (qs : List Cx) (pb : Option Addr) (pc : Nat) (ps : List Pc) (bb : Option Addr) (bc : Nat) (bs : List Pc) (wh ho at' : Int) (h : LS w0 W B1 B2 t mp s ss u qs pb pc ps bb bc bs) (hwh : -9223372036854775808 ≤ wh ∧ wh ≤ 9223372036854775807) (hho : -9223372036854775808 ≤ ho ∧ ho ≤ 9223372036854775807) (hat : -9223372036854775808 ≤ at' ∧ at' ≤ 9223372036854775807) (hcase : pickP ho 7 = 0) (ht : ∀ W, Below w0.heap.size w0 W → Vl.Tab W ∧ Wr.Quart W ∧ Wr.Ety W)
    (x0 x4 x5 x6 x7 x8 x10 x12 x13 x14 x15 x16 x19 x20 x21 x22 x23 x24 x25 x26 x27 x28 x29 x30 x31 x32 x33 x34 x35 x36 x37 x38 x39 x40 x41 x42 x43 x44 x45 x46 x47 x48 x49 x50 x51 x52 x53 x54 x55 x56 x57 x58 x59 x60 x61 x62 x63 x64 x65 x66 x67 x68 x69 x70 x71 x72 x73 x74 x75 x76 x77 x78 x79 x80 x81 x82 x83 x84 x85 x86 x87 x88 x89 x90 x91 x92 x93 x94 x95 x96 x97 x98 x99 x100 x101 x102 x103 x104 x105 x106 x107 x108 x109 x110 x111 x112 x113 x114 x115 x116 x117 x118 x119 x120 x121 x122 x123 x124 x125 x126 x127 x128 x129 x130 x131 x132 x133 x134 x135 x136 x137 x138 x139 x140 x141 x142 x143 x144 x145 x146 x147 x148 x149 x150 x151 x152 x153 x154 x155 x156 x157 x158 x159 x160 x161 x162 x163 x164 x165 x166 x167 x168 x169 x170 x171 x172 x173 x174 x175 x176 x177 x178 x179 x180 x181 x182 x183 x184 x185 x186 x187 x188 x189 x190 x191 x192 x193 x194 x195 x196 x197 x198 x199 x200 x201 x202 x203 x204 x205 x206 x207 x208 x209 x210 x211 x212 x213 x214 x215 x216 x217 x218 x219 x220 x221 x222 x223 x224 x225 x226 x227 x228 x229 x230 x231 x232 x233 x234 x235 x236 x237 x238 x239 x240 x241 x242 x243 x244 x245 x246 : Value) :
    Code.wp Tryz.prog (ldPart 19) (bodyPost Tryz.prog Tryz.f5 fun e w' => e = .returned (.bool true) ∧ Below w0.heap.size w0 w') { tmps := List.toArray (x0 :: (.int .i64 wh) :: (.int .i64 ho) :: (.int .i64 at') :: x4 :: x5 :: x6 :: x7 :: x8 :: (.pointer (some ⟨t, 0, none⟩)) :: x10 :: (.pointer (some ⟨s, 0, none⟩)) :: x12 :: x13 :: x14 :: x15 :: x16 :: (.slice pb ps.length pc) :: (.slice bb bs.length bc) :: x19 :: x20 :: x21 :: x22 :: x23 :: x24 :: x25 :: x26 :: x27 :: x28 :: x29 :: x30 :: x31 :: x32 :: x33 :: x34 :: x35 :: x36 :: x37 :: x38 :: x39 :: x40 :: x41 :: x42 :: x43 :: x44 :: x45 :: x46 :: x47 :: x48 :: x49 :: x50 :: x51 :: x52 :: x53 :: x54 :: x55 :: x56 :: x57 :: x58 :: x59 :: x60 :: x61 :: x62 :: x63 :: x64 :: x65 :: x66 :: x67 :: x68 :: x69 :: x70 :: x71 :: x72 :: x73 :: x74 :: x75 :: x76 :: x77 :: x78 :: x79 :: x80 :: x81 :: x82 :: x83 :: x84 :: x85 :: x86 :: x87 :: x88 :: x89 :: x90 :: x91 :: x92 :: x93 :: x94 :: x95 :: x96 :: x97 :: x98 :: x99 :: x100 :: x101 :: x102 :: x103 :: x104 :: x105 :: x106 :: x107 :: x108 :: x109 :: x110 :: x111 :: x112 :: x113 :: x114 :: x115 :: x116 :: x117 :: x118 :: x119 :: x120 :: x121 :: x122 :: x123 :: x124 :: x125 :: x126 :: x127 :: x128 :: x129 :: x130 :: x131 :: x132 :: x133 :: x134 :: x135 :: x136 :: x137 :: x138 :: x139 :: x140 :: x141 :: x142 :: x143 :: x144 :: x145 :: x146 :: x147 :: x148 :: x149 :: x150 :: x151 :: x152 :: x153 :: x154 :: x155 :: x156 :: x157 :: x158 :: x159 :: x160 :: x161 :: x162 :: x163 :: x164 :: x165 :: x166 :: x167 :: x168 :: x169 :: x170 :: x171 :: x172 :: x173 :: x174 :: x175 :: x176 :: x177 :: x178 :: x179 :: x180 :: x181 :: x182 :: x183 :: x184 :: x185 :: x186 :: x187 :: x188 :: x189 :: x190 :: x191 :: x192 :: x193 :: x194 :: x195 :: x196 :: x197 :: x198 :: x199 :: x200 :: x201 :: x202 :: x203 :: x204 :: x205 :: x206 :: x207 :: x208 :: x209 :: x210 :: x211 :: x212 :: x213 :: x214 :: x215 :: x216 :: x217 :: x218 :: x219 :: x220 :: x221 :: x222 :: x223 :: x224 :: x225 :: x226 :: x227 :: x228 :: x229 :: x230 :: x231 :: x232 :: x233 :: x234 :: x235 :: x236 :: x237 :: x238 :: x239 :: x240 :: x241 :: x242 :: x243 :: x244 :: x245 :: x246 :: []), defers := [] } W := by
  have HLS := hidMk h
  have HT := hidMk ht
  have hpos := h.pos
  obtain ⟨hfew, hbl⟩ := h.few
  have HBL := hidMk hbl
  clear hbl
  have HP1 := hidMk (fun V => pick_any wh ps.length V h.pos (by omega) hwh)
  have HP2 := hidMk (fun V => pick_any ho 7 V (by decide) (by decide) hho)
  rw [hcase] at HP2
  have HRD := hidMk h.reads
  have hk := pick_lt wh ps.length h.pos
  obtain ⟨rb, rfl, hrb1, hrb2⟩ := h.row
  generalize pickP wh ps.length = k at *
  have hk' : (k : Int) < (ps.length : Int) := by omega
  obtain ⟨c0, c1, f0, f1⟩ := h.slot k hk
  obtain ⟨va, vc, hv, hvb, hvc, hvm, hvl⟩ := ol_at (h.lo.byt _ (List.getElem_mem hk))
  rw [hv] at c1
  obtain ⟨hsb, hsl⟩ := HRD.out.byt _ (List.getElem_mem hk)
  have hbl8 : ps[k].b.length = (encBody (ofG (ces ss) ps[k].g)).length + 8 := by
    have q := congrArg List.length hsb
    rw [Wr.sealed_len] at q
    exact q
  obtain ⟨vb, hva, hvo⟩ : ∃ vb, va = some ⟨vb, 0, none⟩ ∧ ps[k].v.ownBlock = some vb := by
    rcases (h.lo.byt _ (List.getElem_mem hk)).2 with ⟨k1, k2⟩ | ⟨g, cap, cur, k1, -⟩
    · omega
    · rw [hv] at k1; injection k1 with k1; exact ⟨g, k1, by rw [hv, k1]; rfl⟩
  subst hva
  have HSB := hidMk hsb
  have HL8 := hidMk hbl8
  have hge8 : 8 ≤ ps[k].b.length ∧ ps[k].b.length ≤ 134217736 := by omega
  clear hbl8
  have HVO := hidMk hvo
  have HV := hidMk hv
  have HVB := hidMk hvb
  have HVL := hidMk (hvl _ rfl)
  clear h ht hsb hvo hv hvb hvl
  conv => arg 2; whnf
  go_wp2_with fail
  refine (HP1.out _).mono ?_
  rintro e w' ⟨rfl, hw⟩
  replace hw := hw.symm; subst hw
  clear HP1
  go_wp2_with fail
  refine (HP2.out _).mono ?_
  rintro e w' ⟨rfl, hw⟩
  replace hw := hw.symm; subst hw
  clear HP2
  go_upto_block 2 with fail
  have hord := HLS.out.ord
  have hbA : Below W.heap.size W (W.alloc (.cells #[.int .i64 (ps[k].g : Int), .slice (some ⟨vb, 0, none⟩) ps[k].b.length vc] 57)) := bel1 _ _
  have lS : (W.alloc (.cells #[.int .i64 (ps[k].g : Int), .slice (some ⟨vb, 0, none⟩) ps[k].b.length vc] 57)).heap.size = W.heap.size + 1 := by simp
  have HRA : Hid ((W.alloc (.cells #[.int .i64 (ps[k].g : Int), .slice (some ⟨vb, 0, none⟩) ps[k].b.length vc] 57)).ownsRow B1 57 2 (.slice (some ⟨rb, 0, none⟩) ps.length pc) ps.length (ps.flatMap cellsP)) := own_later HLS.out.lo.own hbA
  have HIA : Hid (PIn (W.alloc (.cells #[.int .i64 (ps[k].g : Int), .slice (some ⟨vb, 0, none⟩) ps[k].b.length vc] 57)) (W.heap.size + 1) (some ⟨W.heap.size, 0, none⟩) [ps[k]]) := by
    refine ⟨fun i hi => ?_, fun p hp => ?_⟩
    · have hi0 : i = 0 := by simp at hi; omega
      subst hi0
      refine ⟨W.heap.size, 0, rfl, by omega, ?_, ?_⟩
      · exact cell_of_row _ _ 0 #[.int .i64 (ps[k].g : Int), .slice (some ⟨vb, 0, none⟩) ps[k].b.length vc] 57 (0, 0) (heap_alloc_new W _)
      · show _ = some ps[k].v
        rw [HV.out]
        exact cell_of_row _ _ 1 #[.int .i64 (ps[k].g : Int), .slice (some ⟨vb, 0, none⟩) ps[k].b.length vc] 57 (0, 0) (heap_alloc_new W _)
    · rw [List.mem_singleton.1 hp]
      exact ⟨_, _, HV.out, HVB.out.later hbA, hvc, hvm, fun y hy => by cases hy; have := HVL.out; exact Nat.lt_succ_of_lt this⟩
  have HB0 : Hid (∀ p ∈ ps ++ [ps[k]], p ∈ ps) := fun p hp => by
    rcases List.mem_append.1 hp with hp | hp
    · exact hp
    · rw [List.mem_singleton.1 hp]; exact List.getElem_mem hk
  go_cut [17, 22] from 23 (fun l n wc => n = .int .i64 ((6 : Nat) : Int) ∧ (∃ a4 k4, l = .slice a4 (ps ++ [ps[k]]).length k4 ∧ PIn wc wc.heap.size a4 (ps ++ [ps[k]])) ∧ Gs (fun i => B1 ≤ i ∧ i < B2) W wc)
  case first =>
    go_wp2_with (at_builtin; refine app_P rfl _ _ rfl B1 (W.heap.size + 1) (.slice (some ⟨rb, 0, none⟩) ps.length pc) ps [ps[k]] (some ⟨W.heap.size, 0, none⟩) 1 rfl HRA.out rfl HIA.out (by simp; omega) (by omega) ?_)
    intro v4 w4 h4 g4
    have HZ : Hid ((∃ a4 k4, v4 = .slice a4 (ps ++ [ps[k]]).length k4 ∧ PIn w4 w4.heap.size a4 (ps ++ [ps[k]])) ∧ Gs (fun i => B1 ≤ i ∧ i < B2) W w4) := by
      have h5 : w4.ownsRow B1 57 2 v4 (ps ++ [ps[k]]).length ((ps ++ [ps[k]]).flatMap cellsP) := by simpa using h4
      refine ⟨pin_of h5 (fun p hp => ⟨B1, own_grown (own_later (HLS.out.lo.byt p (HB0.out p hp)) hbA) g4 fun j hj e => HLS.out.lo.out p (HB0.out p hp) j hj e.symm⟩), (Gs.below hbA).trans (Gs.one g4 (fun j e => by cases e; exact ⟨hrb1, hrb2⟩))⟩
    clear h4 g4
    go_wp2_with fail
    go_meet
    case rel => exact ⟨rfl, HZ.out⟩
  case rest =>
    apply_assumption
    obtain ⟨rfl, ⟨a4, k4, rfl, hP⟩, hG⟩ := hcut
    obtain ⟨q1, q2⟩ := HLS.out.kept hG
    exact loads_t3 w0 _ t mp w0.heap.size ss a4 k4 (ps ++ [ps[k]]) ps.length 6 (ofG (ces ss)) bb bc B2 bs q1.ps hP (by simp) (by simp; omega) (by rw [List.take_left' rfl]; exact HRD.out) (by decide) (fun V t1 m1 hV1 hV2 => fault_twice (List.mem_map.2 ⟨ps[k], List.getElem_mem hk, rfl⟩) (HRD.out.grp _ (List.getElem_mem hk))) q2 HLS.out.eq2 (by have := HBL.out; omega) q1.bel HT.out _ _ _ _ _ _ _ _ _ _ _ _ _ _ _ _ _ _ _ _ _ _ _ _ _ _ _ _ _ _ _ _ _ _ _ _ _ _ _ _ _ _ _ _ _ _ _ _ _ _ _ _ _ _ _ _ _ _ _ _ _ _ _ _ _ _ _ _ _ _ _ _ _ _ _ _ _ _ _ _ _ _ _ _ _ _ _ _ _ _ _ _ _ _ _ _ _ _ _ _ _ _ _ _ _ _ _ _ _ _ _ _ _ _ _ _ _ _ _ _ _ _ _ _ _ _ _ _ _ _ _ _ _ _ _ _ _ _ _ _ _ _ _ _ _ _ _ _ _ _ _ _ _ _ _ _ _ _ _ _ _ _ _ _ _ _ _ _ _ _ _ _ _ _ _ _ _ _ _ _ _ _ _ _ _ _ _ _ _ _ _ _ _ _ _ _ _ _ _ _ _ _ _ _ _ _ _ _ _ _ _ _ _ _ _ _ _ _ _ _ _ _ _ _ _ _ _ _ _ _ _ _ _ _ _ _ _ _ _ _ _ _ _
end Go.Proofs.YtobhccmnlmlapaaGreatDoor
namespace Go.Proofs.YtobhccmnlmlapaaGreatDoor
open Go.RowKit Go.Maps
set_option linter.unusedVariables false
set_option linter.unusedSimpArgs false
set_option maxRecDepth 100000
set_option maxHeartbeats 8000000 in
theorem loads_c1 (w0 W : World) (B1 B2 t mp s : Nat) (ss : List Sh) (u : Value) (qs : List Cx) (pb : Option Addr) (pc : Nat) (ps : List Pc) (bb : Option Addr) (bc : Nat) (bs : List Pc) (wh ho at' : Int) (h : LS w0 W B1 B2 t mp s ss u qs pb pc ps bb bc bs) (hwh : -9223372036854775808 ≤ wh ∧ wh ≤ 9223372036854775807) (hho : -9223372036854775808 ≤ ho ∧ ho ≤ 9223372036854775807) (hat : -9223372036854775808 ≤ at' ∧ at' ≤ 9223372036854775807) (hcase : pickP ho 7 = 1) (ht : ∀ W, Below w0.heap.size w0 W → Vl.Tab W ∧ Wr.Quart W ∧ Wr.Ety W)
    (x0 x4 x5 x6 x7 x8 x10 x12 x13 x14 x15 x16 x19 x20 x21 x22 x23 x24 x25 x26 x27 x28 x29 x30 x31 x32 x33 x34 x35 x36 x37 x38 x39 x40 x41 x42 x43 x44 x45 x46 x47 x48 x49 x50 x51 x52 x53 x54 x55 x56 x57 x58 x59 x60 x61 x62 x63 x64 x65 x66 x67 x68 x69 x70 x71 x72 x73 x74 x75 x76 x77 x78 x79 x80 x81 x82 x83 x84 x85 x86 x87 x88 x89 x90 x91 x92 x93 x94 x95 x96 x97 x98 x99 x100 x101 x102 x103 x104 x105 x106 x107 x108 x109 x110 x111 x112 x113 x114 x115 x116 x117 x118 x119 x120 x121 x122 x123 x124 x125 x126 x127 x128 x129 x130 x131 x132 x133 x134 x135 x136 x137 x138 x139 x140 x141 x142 x143 x144 x145 x146 x147 x148 x149 x150 x151 x152 x153 x154 x155 x156 x157 x158 x159 x160 x161 x162 x163 x164 x165 x166 x167 x168 x169 x170 x171 x172 x173 x174 x175 x176 x177 x178 x179 x180 x181 x182 x183 x184 x185 x186 x187 x188 x189 x190 x191 x192 x193 x194 x195 x196 x197 x198 x199 x200 x201 x202 x203 x204 x205 x206 x207 x208 x209 x210 x211 x212 x213 x214 x215 x216 x217 x218 x219 x220 x221 x222 x223 x224 x225 x226 x227 x228 x229 x230 x231 x232 x233 x234 x235 x236 x237 x238 x239 x240 x241 x242 x243 x244 x245 x246 : Value) :
    Code.wp Tryz.prog (ldPart 19) (bodyPost Tryz.prog Tryz.f5 fun e w' => e = .returned (.bool true) ∧ Below w0.heap.size w0 w') { tmps := List.toArray (x0 :: (.int .i64 wh) :: (.int .i64 ho) :: (.int .i64 at') :: x4 :: x5 :: x6 :: x7 :: x8 :: (.pointer (some ⟨t, 0, none⟩)) :: x10 :: (.pointer (some ⟨s, 0, none⟩)) :: x12 :: x13 :: x14 :: x15 :: x16 :: (.slice pb ps.length pc) :: (.slice bb bs.length bc) :: x19 :: x20 :: x21 :: x22 :: x23 :: x24 :: x25 :: x26 :: x27 :: x28 :: x29 :: x30 :: x31 :: x32 :: x33 :: x34 :: x35 :: x36 :: x37 :: x38 :: x39 :: x40 :: x41 :: x42 :: x43 :: x44 :: x45 :: x46 :: x47 :: x48 :: x49 :: x50 :: x51 :: x52 :: x53 :: x54 :: x55 :: x56 :: x57 :: x58 :: x59 :: x60 :: x61 :: x62 :: x63 :: x64 :: x65 :: x66 :: x67 :: x68 :: x69 :: x70 :: x71 :: x72 :: x73 :: x74 :: x75 :: x76 :: x77 :: x78 :: x79 :: x80 :: x81 :: x82 :: x83 :: x84 :: x85 :: x86 :: x87 :: x88 :: x89 :: x90 :: x91 :: x92 :: x93 :: x94 :: x95 :: x96 :: x97 :: x98 :: x99 :: x100 :: x101 :: x102 :: x103 :: x104 :: x105 :: x106 :: x107 :: x108 :: x109 :: x110 :: x111 :: x112 :: x113 :: x114 :: x115 :: x116 :: x117 :: x118 :: x119 :: x120 :: x121 :: x122 :: x123 :: x124 :: x125 :: x126 :: x127 :: x128 :: x129 :: x130 :: x131 :: x132 :: x133 :: x134 :: x135 :: x136 :: x137 :: x138 :: x139 :: x140 :: x141 :: x142 :: x143 :: x144 :: x145 :: x146 :: x147 :: x148 :: x149 :: x150 :: x151 :: x152 :: x153 :: x154 :: x155 :: x156 :: x157 :: x158 :: x159 :: x160 :: x161 :: x162 :: x163 :: x164 :: x165 :: x166 :: x167 :: x168 :: x169 :: x170 :: x171 :: x172 :: x173 :: x174 :: x175 :: x176 :: x177 :: x178 :: x179 :: x180 :: x181 :: x182 :: x183 :: x184 :: x185 :: x186 :: x187 :: x188 :: x189 :: x190 :: x191 :: x192 :: x193 :: x194 :: x195 :: x196 :: x197 :: x198 :: x199 :: x200 :: x201 :: x202 :: x203 :: x204 :: x205 :: x206 :: x207 :: x208 :: x209 :: x210 :: x211 :: x212 :: x213 :: x214 :: x215 :: x216 :: x217 :: x218 :: x219 :: x220 :: x221 :: x222 :: x223 :: x224 :: x225 :: x226 :: x227 :: x228 :: x229 :: x230 :: x231 :: x232 :: x233 :: x234 :: x235 :: x236 :: x237 :: x238 :: x239 :: x240 :: x241 :: x242 :: x243 :: x244 :: x245 :: x246 :: []), defers := [] } W := by
  have HLS := hidMk h
  have HT := hidMk ht
  have hpos := h.pos
  obtain ⟨hfew, hbl⟩ := h.few
  have HBL := hidMk hbl
  clear hbl
  have HP1 := hidMk (fun V => pick_any wh ps.length V h.pos (by omega) hwh)
  have HP2 := hidMk (fun V => pick_any ho 7 V (by decide) (by decide) hho)
  rw [hcase] at HP2
  have HRD := hidMk h.reads
  have hk := pick_lt wh ps.length h.pos
  obtain ⟨rb, rfl, hrb1, hrb2⟩ := h.row
  generalize pickP wh ps.length = k at *
  have hk' : (k : Int) < (ps.length : Int) := by omega
  obtain ⟨c0, c1, f0, f1⟩ := h.slot k hk
  obtain ⟨va, vc, hv, hvb, hvc, hvm, hvl⟩ := ol_at (h.lo.byt _ (List.getElem_mem hk))
  rw [hv] at c1
  clear h ht
  conv => arg 2; whnf
  go_wp2_with fail
  refine (HP1.out _).mono ?_
  rintro e w' ⟨rfl, hw⟩
  replace hw := hw.symm; subst hw
  clear HP1
  go_wp2_with fail
  refine (HP2.out _).mono ?_
  rintro e w' ⟨rfl, hw⟩
  replace hw := hw.symm; subst hw
  clear HP2
  go_upto_block 2 with fail
  have HP3 := hidMk (fun V => pick_any at' 9 V (by decide) (by decide) hat)
  have hq := pick_lt at' 9 (by decide)
  generalize pickP at' 9 = z at *
  go_cut [17, 22] from 23 (fun l n wc => l = .slice (some ⟨rb, 0, none⟩) ps.length pc ∧ n = .int .i64 ((4 : Nat) : Int) ∧ wc = W.setCell ⟨rb, k * 2, none⟩ (.int .i64 ((32 + z : Nat) : Int)))
  case first =>
    go_wp2_with fail
    refine (HP3.out _).mono ?_
    rintro e w' ⟨rfl, hw⟩
    replace hw := hw.symm; subst hw
    have hz : IntKind.i64.wrap ((32 : Int) + (z : Int)) = ((32 + z : Nat) : Int) := (wi64 (by omega) (by omega)).trans (by omega)
    go_wp2_with fail
    go_meet
    case rel => exact ⟨rfl, rfl, rfl⟩
  case rest =>
    apply_assumption
    obtain ⟨rfl, rfl, hcut⟩ := hcut
    obtain ⟨hP, hG⟩ := HLS.out.setG k hk (32 + z)
    rw [← hcut] at hP hG
    have hl : ps.length = (ps.set k ⟨32 + z, ps[k].v, ps[k].b⟩).length := (List.length_set ..).symm
    obtain ⟨q1, q2⟩ := HLS.out.kept hG
    rw [hl]
    exact loads_t3 w0 _ t mp w0.heap.size ss _ pc (ps.set k ⟨32 + z, ps[k].v, ps[k].b⟩) k 4 (ofG (ces ss)) bb bc B2 bs q1.ps hP (by rw [← hl]; exact hk) (by rw [← hl]; omega) (by rw [set_take]; exact HRD.out.take k) (by decide) (fun V t1 m1 hV1 hV2 => fault_none hk (show 32 ≤ 32 + z by omega) (show 32 + z ≤ 100 by omega)) q2 HLS.out.eq2 (by have := HBL.out; omega) q1.bel HT.out _ _ _ _ _ _ _ _ _ _ _ _ _ _ _ _ _ _ _ _ _ _ _ _ _ _ _ _ _ _ _ _ _ _ _ _ _ _ _ _ _ _ _ _ _ _ _ _ _ _ _ _ _ _ _ _ _ _ _ _ _ _ _ _ _ _ _ _ _ _ _ _ _ _ _ _ _ _ _ _ _ _ _ _ _ _ _ _ _ _ _ _ _ _ _ _ _ _ _ _ _ _ _ _ _ _ _ _ _ _ _ _ _ _ _ _ _ _ _ _ _ _ _ _ _ _ _ _ _ _ _ _ _ _ _ _ _ _ _ _ _ _ _ _ _ _ _ _ _ _ _ _ _ _ _ _ _ _ _ _ _ _ _ _ _ _ _ _ _ _ _ _ _ _ _ _ _ _ _ _ _ _ _ _ _ _ _ _ _ _ _ _ _ _ _ _ _ _ _ _ _ _ _ _ _ _ _ _ _ _ _ _ _ _ _ _ _ _ _ _ _ _ _ _ _ _ _ _ _ _ _ _ _ _ _ _ _ _ _ _ _ _ _
end Go.Proofs.YtobhccmnlmlapaaGreatDoor
namespace Go.Proofs.YtobhccmnlmlapaaGreatDoor
open Go.RowKit Go.Maps
set_option linter.unusedVariables false
set_option linter.unusedSimpArgs false
set_option maxRecDepth 100000
set_option maxHeartbeats 8000000 in
theorem loads_c2 (w0 W : World) (B1 B2 t mp s : Nat) (ss : List Sh) (u : Value) (qs : List Cx) (pb : Option Addr) (pc : Nat) (ps : List Pc) (bb : Option Addr) (bc : Nat) (bs : List Pc) (wh ho at' : Int) (h : LS w0 W B1 B2 t mp s ss u qs pb pc ps bb bc bs) (hwh : -9223372036854775808 ≤ wh ∧ wh ≤ 9223372036854775807) (hho : -9223372036854775808 ≤ ho ∧ ho ≤ 9223372036854775807) (hat : -9223372036854775808 ≤ at' ∧ at' ≤ 9223372036854775807) (hcase : pickP ho 7 = 2) (ht : ∀ W, Below w0.heap.size w0 W → Vl.Tab W ∧ Wr.Quart W ∧ Wr.Ety W)
    (x0 x4 x5 x6 x7 x8 x10 x12 x13 x14 x15 x16 x19 x20 x21 x22 x23 x24 x25 x26 x27 x28 x29 x30 x31 x32 x33 x34 x35 x36 x37 x38 x39 x40 x41 x42 x43 x44 x45 x46 x47 x48 x49 x50 x51 x52 x53 x54 x55 x56 x57 x58 x59 x60 x61 x62 x63 x64 x65 x66 x67 x68 x69 x70 x71 x72 x73 x74 x75 x76 x77 x78 x79 x80 x81 x82 x83 x84 x85 x86 x87 x88 x89 x90 x91 x92 x93 x94 x95 x96 x97 x98 x99 x100 x101 x102 x103 x104 x105 x106 x107 x108 x109 x110 x111 x112 x113 x114 x115 x116 x117 x118 x119 x120 x121 x122 x123 x124 x125 x126 x127 x128 x129 x130 x131 x132 x133 x134 x135 x136 x137 x138 x139 x140 x141 x142 x143 x144 x145 x146 x147 x148 x149 x150 x151 x152 x153 x154 x155 x156 x157 x158 x159 x160 x161 x162 x163 x164 x165 x166 x167 x168 x169 x170 x171 x172 x173 x174 x175 x176 x177 x178 x179 x180 x181 x182 x183 x184 x185 x186 x187 x188 x189 x190 x191 x192 x193 x194 x195 x196 x197 x198 x199 x200 x201 x202 x203 x204 x205 x206 x207 x208 x209 x210 x211 x212 x213 x214 x215 x216 x217 x218 x219 x220 x221 x222 x223 x224 x225 x226 x227 x228 x229 x230 x231 x232 x233 x234 x235 x236 x237 x238 x239 x240 x241 x242 x243 x244 x245 x246 : Value) :
    Code.wp Tryz.prog (ldPart 19) (bodyPost Tryz.prog Tryz.f5 fun e w' => e = .returned (.bool true) ∧ Below w0.heap.size w0 w') { tmps := List.toArray (x0 :: (.int .i64 wh) :: (.int .i64 ho) :: (.int .i64 at') :: x4 :: x5 :: x6 :: x7 :: x8 :: (.pointer (some ⟨t, 0, none⟩)) :: x10 :: (.pointer (some ⟨s, 0, none⟩)) :: x12 :: x13 :: x14 :: x15 :: x16 :: (.slice pb ps.length pc) :: (.slice bb bs.length bc) :: x19 :: x20 :: x21 :: x22 :: x23 :: x24 :: x25 :: x26 :: x27 :: x28 :: x29 :: x30 :: x31 :: x32 :: x33 :: x34 :: x35 :: x36 :: x37 :: x38 :: x39 :: x40 :: x41 :: x42 :: x43 :: x44 :: x45 :: x46 :: x47 :: x48 :: x49 :: x50 :: x51 :: x52 :: x53 :: x54 :: x55 :: x56 :: x57 :: x58 :: x59 :: x60 :: x61 :: x62 :: x63 :: x64 :: x65 :: x66 :: x67 :: x68 :: x69 :: x70 :: x71 :: x72 :: x73 :: x74 :: x75 :: x76 :: x77 :: x78 :: x79 :: x80 :: x81 :: x82 :: x83 :: x84 :: x85 :: x86 :: x87 :: x88 :: x89 :: x90 :: x91 :: x92 :: x93 :: x94 :: x95 :: x96 :: x97 :: x98 :: x99 :: x100 :: x101 :: x102 :: x103 :: x104 :: x105 :: x106 :: x107 :: x108 :: x109 :: x110 :: x111 :: x112 :: x113 :: x114 :: x115 :: x116 :: x117 :: x118 :: x119 :: x120 :: x121 :: x122 :: x123 :: x124 :: x125 :: x126 :: x127 :: x128 :: x129 :: x130 :: x131 :: x132 :: x133 :: x134 :: x135 :: x136 :: x137 :: x138 :: x139 :: x140 :: x141 :: x142 :: x143 :: x144 :: x145 :: x146 :: x147 :: x148 :: x149 :: x150 :: x151 :: x152 :: x153 :: x154 :: x155 :: x156 :: x157 :: x158 :: x159 :: x160 :: x161 :: x162 :: x163 :: x164 :: x165 :: x166 :: x167 :: x168 :: x169 :: x170 :: x171 :: x172 :: x173 :: x174 :: x175 :: x176 :: x177 :: x178 :: x179 :: x180 :: x181 :: x182 :: x183 :: x184 :: x185 :: x186 :: x187 :: x188 :: x189 :: x190 :: x191 :: x192 :: x193 :: x194 :: x195 :: x196 :: x197 :: x198 :: x199 :: x200 :: x201 :: x202 :: x203 :: x204 :: x205 :: x206 :: x207 :: x208 :: x209 :: x210 :: x211 :: x212 :: x213 :: x214 :: x215 :: x216 :: x217 :: x218 :: x219 :: x220 :: x221 :: x222 :: x223 :: x224 :: x225 :: x226 :: x227 :: x228 :: x229 :: x230 :: x231 :: x232 :: x233 :: x234 :: x235 :: x236 :: x237 :: x238 :: x239 :: x240 :: x241 :: x242 :: x243 :: x244 :: x245 :: x246 :: []), defers := [] } W := by
  have HLS := hidMk h
  have HT := hidMk ht
  have hpos := h.pos
  obtain ⟨hfew, hbl⟩ := h.few
  have HBL := hidMk hbl
  clear hbl
  have HP1 := hidMk (fun V => pick_any wh ps.length V h.pos (by omega) hwh)
  have HP2 := hidMk (fun V => pick_any ho 7 V (by decide) (by decide) hho)
  rw [hcase] at HP2
  have HRD := hidMk h.reads
  have hk := pick_lt wh ps.length h.pos
  obtain ⟨rb, rfl, hrb1, hrb2⟩ := h.row
  generalize pickP wh ps.length = k at *
  have hk' : (k : Int) < (ps.length : Int) := by omega
  obtain ⟨c0, c1, f0, f1⟩ := h.slot k hk
  obtain ⟨va, vc, hv, hvb, hvc, hvm, hvl⟩ := ol_at (h.lo.byt _ (List.getElem_mem hk))
  rw [hv] at c1
  obtain ⟨hsb, hsl⟩ := HRD.out.byt _ (List.getElem_mem hk)
  have hbl8 : ps[k].b.length = (encBody (ofG (ces ss) ps[k].g)).length + 8 := by
    have q := congrArg List.length hsb
    rw [Wr.sealed_len] at q
    exact q
  obtain ⟨vb, hva, hvo⟩ : ∃ vb, va = some ⟨vb, 0, none⟩ ∧ ps[k].v.ownBlock = some vb := by
    rcases (h.lo.byt _ (List.getElem_mem hk)).2 with ⟨k1, k2⟩ | ⟨g, cap, cur, k1, -⟩
    · omega
    · rw [hv] at k1; injection k1 with k1; exact ⟨g, k1, by rw [hv, k1]; rfl⟩
  subst hva
  have HSB := hidMk hsb
  have HL8 := hidMk hbl8
  have hge8 : 8 ≤ ps[k].b.length ∧ ps[k].b.length ≤ 134217736 := by omega
  clear hbl8
  have HVO := hidMk hvo
  have HV := hidMk hv
  have HVB := hidMk hvb
  have HVL := hidMk (hvl _ rfl)
  clear h ht hsb hvo hv hvb hvl
  conv => arg 2; whnf
  go_wp2_with fail
  refine (HP1.out _).mono ?_
  rintro e w' ⟨rfl, hw⟩
  replace hw := hw.symm; subst hw
  clear HP1
  go_wp2_with fail
  refine (HP2.out _).mono ?_
  rintro e w' ⟨rfl, hw⟩
  replace hw := hw.symm; subst hw
  clear HP2
  go_upto_block 2 with fail
  have HP3 := hidMk (fun V => pick_any at' ps[k].b.length V (by omega) (by omega) hat)
  have hq := pick_lt at' ps[k].b.length (by omega)
  generalize pickP at' ps[k].b.length = z at *
  have hst := fun V => Wr.slice_to vb 0 ps[k].b.length vc z (by omega) V
  have hsta := fun V => Wr.sliceAt_to vb 0 ps[k].b.length vc z (by omega) V
  go_cut [17, 22] from 23 (fun l n wc => l = .slice (some ⟨rb, 0, none⟩) ps.length pc ∧ n = .int .i64 ((7 : Nat) : Int) ∧ wc = W.setCell ⟨rb, k * 2 + 1, none⟩ (.slice (some ⟨vb, 0, none⟩) z vc))
  case first =>
    go_wp2_with fail
    refine (HP3.out _).mono ?_
    rintro e w' ⟨rfl, hw⟩
    replace hw := hw.symm; subst hw
    go_wp2_with fail
    go_meet
    case rel => exact ⟨rfl, rfl, rfl⟩
  case rest =>
    apply_assumption
    obtain ⟨rfl, rfl, hcut⟩ := hcut
    have hzl : (ps[k].b.take z).length = z := by rw [List.length_take]; omega
    have hne : rb ≠ vb := fun e => HLS.out.lo.out _ (List.getElem_mem hk) vb HVO.out (by rw [← e]; rfl)
    obtain ⟨hP, hG⟩ := HLS.out.setV k hk (W1 := W) (Gs.refl _ _) (.slice (some ⟨vb, 0, none⟩) z vc) (ps[k].b.take z) ⟨some ⟨vb, 0, none⟩, vc, by rw [hzl], fun i hi => by
      rw [hzl] at hi
      obtain ⟨b', o', e', q⟩ := HVB.out i (by omega)
      cases e'
      refine ⟨vb, 0, rfl, ?_⟩
      have hlat : Wr.lat (ps[k].b.take z) i = Wr.lat ps[k].b i := by unfold Wr.lat; simp only [List.getD]; rw [List.getElem?_take_of_lt hi]
      rw [hlat, ← q]
      exact World.cell?_setCell_far _ _ _ _ (show rb ≠ vb from hne), by rw [hzl]; omega, hvm, fun y hy => by cases hy; rw [size_set]; exact HVL.out⟩
    rw [← hcut] at hP hG
    have hl : ps.length = (ps.set k ⟨ps[k].g, .slice (some ⟨vb, 0, none⟩) z vc, ps[k].b.take z⟩).length := (List.length_set ..).symm
    obtain ⟨q1, q2⟩ := HLS.out.kept hG
    rw [hl]
    exact loads_t3 w0 _ t mp w0.heap.size ss _ pc (ps.set k ⟨ps[k].g, .slice (some ⟨vb, 0, none⟩) z vc, ps[k].b.take z⟩) k 7 (ofG (ces ss)) bb bc B2 bs q1.ps hP (by rw [← hl]; exact hk) (by rw [← hl]; omega) (by rw [set_take]; exact HRD.out.take k) (by decide) (fun V t1 m1 hV1 hV2 => fault_open hk HRD.out rfl (by decide) (show (ps[k].b.take z).length ≤ _ by rw [List.length_take]; omega) (show Wr.opnE (Wr.lat (ps[k].b.take z)) (ps[k].b.take z).length 0 = 7 by rw [List.length_take, Nat.min_eq_left (by omega), HSB.out]; exact opnE_cut _ (by omega) z (by have := HL8.out; omega))) q2 HLS.out.eq2 (by have := HBL.out; omega) q1.bel HT.out _ _ _ _ _ _ _ _ _ _ _ _ _ _ _ _ _ _ _ _ _ _ _ _ _ _ _ _ _ _ _ _ _ _ _ _ _ _ _ _ _ _ _ _ _ _ _ _ _ _ _ _ _ _ _ _ _ _ _ _ _ _ _ _ _ _ _ _ _ _ _ _ _ _ _ _ _ _ _ _ _ _ _ _ _ _ _ _ _ _ _ _ _ _ _ _ _ _ _ _ _ _ _ _ _ _ _ _ _ _ _ _ _ _ _ _ _ _ _ _ _ _ _ _ _ _ _ _ _ _ _ _ _ _ _ _ _ _ _ _ _ _ _ _ _ _ _ _ _ _ _ _ _ _ _ _ _ _ _ _ _ _ _ _ _ _ _ _ _ _ _ _ _ _ _ _ _ _ _ _ _ _ _ _ _ _ _ _ _ _ _ _ _ _ _ _ _ _ _ _ _ _ _ _ _ _ _ _ _ _ _ _ _ _ _ _ _ _ _ _ _ _ _ _ _ _ _ _ _ _ _ _ _ _ _ _ _ _ _ _ _ _ _
end Go.Proofs.YtobhccmnlmlapaaGreatDoor
namespace Go.Proofs.YtobhccmnlmlapaaGreatDoor
open Go.RowKit Go.Maps
set_option linter.unusedVariables false
set_option linter.unusedSimpArgs false
set_option maxRecDepth 100000
set_option maxHeartbeats 8000000 in
theorem loads_c3 (w0 W : World) (B1 B2 t mp s : Nat) (ss : List Sh) (u : Value) (qs : List Cx) (pb : Option Addr) (pc : Nat) (ps : List Pc) (bb : Option Addr) (bc : Nat) (bs : List Pc) (wh ho at' : Int) (h : LS w0 W B1 B2 t mp s ss u qs pb pc ps bb bc bs) (hwh : -9223372036854775808 ≤ wh ∧ wh ≤ 9223372036854775807) (hho : -9223372036854775808 ≤ ho ∧ ho ≤ 9223372036854775807) (hat : -9223372036854775808 ≤ at' ∧ at' ≤ 9223372036854775807) (hcase : pickP ho 7 = 3) (ht : ∀ W, Below w0.heap.size w0 W → Vl.Tab W ∧ Wr.Quart W ∧ Wr.Ety W)
    (x0 x4 x5 x6 x7 x8 x10 x12 x13 x14 x15 x16 x19 x20 x21 x22 x23 x24 x25 x26 x27 x28 x29 x30 x31 x32 x33 x34 x35 x36 x37 x38 x39 x40 x41 x42 x43 x44 x45 x46 x47 x48 x49 x50 x51 x52 x53 x54 x55 x56 x57 x58 x59 x60 x61 x62 x63 x64 x65 x66 x67 x68 x69 x70 x71 x72 x73 x74 x75 x76 x77 x78 x79 x80 x81 x82 x83 x84 x85 x86 x87 x88 x89 x90 x91 x92 x93 x94 x95 x96 x97 x98 x99 x100 x101 x102 x103 x104 x105 x106 x107 x108 x109 x110 x111 x112 x113 x114 x115 x116 x117 x118 x119 x120 x121 x122 x123 x124 x125 x126 x127 x128 x129 x130 x131 x132 x133 x134 x135 x136 x137 x138 x139 x140 x141 x142 x143 x144 x145 x146 x147 x148 x149 x150 x151 x152 x153 x154 x155 x156 x157 x158 x159 x160 x161 x162 x163 x164 x165 x166 x167 x168 x169 x170 x171 x172 x173 x174 x175 x176 x177 x178 x179 x180 x181 x182 x183 x184 x185 x186 x187 x188 x189 x190 x191 x192 x193 x194 x195 x196 x197 x198 x199 x200 x201 x202 x203 x204 x205 x206 x207 x208 x209 x210 x211 x212 x213 x214 x215 x216 x217 x218 x219 x220 x221 x222 x223 x224 x225 x226 x227 x228 x229 x230 x231 x232 x233 x234 x235 x236 x237 x238 x239 x240 x241 x242 x243 x244 x245 x246 : Value) :
    Code.wp Tryz.prog (ldPart 19) (bodyPost Tryz.prog Tryz.f5 fun e w' => e = .returned (.bool true) ∧ Below w0.heap.size w0 w') { tmps := List.toArray (x0 :: (.int .i64 wh) :: (.int .i64 ho) :: (.int .i64 at') :: x4 :: x5 :: x6 :: x7 :: x8 :: (.pointer (some ⟨t, 0, none⟩)) :: x10 :: (.pointer (some ⟨s, 0, none⟩)) :: x12 :: x13 :: x14 :: x15 :: x16 :: (.slice pb ps.length pc) :: (.slice bb bs.length bc) :: x19 :: x20 :: x21 :: x22 :: x23 :: x24 :: x25 :: x26 :: x27 :: x28 :: x29 :: x30 :: x31 :: x32 :: x33 :: x34 :: x35 :: x36 :: x37 :: x38 :: x39 :: x40 :: x41 :: x42 :: x43 :: x44 :: x45 :: x46 :: x47 :: x48 :: x49 :: x50 :: x51 :: x52 :: x53 :: x54 :: x55 :: x56 :: x57 :: x58 :: x59 :: x60 :: x61 :: x62 :: x63 :: x64 :: x65 :: x66 :: x67 :: x68 :: x69 :: x70 :: x71 :: x72 :: x73 :: x74 :: x75 :: x76 :: x77 :: x78 :: x79 :: x80 :: x81 :: x82 :: x83 :: x84 :: x85 :: x86 :: x87 :: x88 :: x89 :: x90 :: x91 :: x92 :: x93 :: x94 :: x95 :: x96 :: x97 :: x98 :: x99 :: x100 :: x101 :: x102 :: x103 :: x104 :: x105 :: x106 :: x107 :: x108 :: x109 :: x110 :: x111 :: x112 :: x113 :: x114 :: x115 :: x116 :: x117 :: x118 :: x119 :: x120 :: x121 :: x122 :: x123 :: x124 :: x125 :: x126 :: x127 :: x128 :: x129 :: x130 :: x131 :: x132 :: x133 :: x134 :: x135 :: x136 :: x137 :: x138 :: x139 :: x140 :: x141 :: x142 :: x143 :: x144 :: x145 :: x146 :: x147 :: x148 :: x149 :: x150 :: x151 :: x152 :: x153 :: x154 :: x155 :: x156 :: x157 :: x158 :: x159 :: x160 :: x161 :: x162 :: x163 :: x164 :: x165 :: x166 :: x167 :: x168 :: x169 :: x170 :: x171 :: x172 :: x173 :: x174 :: x175 :: x176 :: x177 :: x178 :: x179 :: x180 :: x181 :: x182 :: x183 :: x184 :: x185 :: x186 :: x187 :: x188 :: x189 :: x190 :: x191 :: x192 :: x193 :: x194 :: x195 :: x196 :: x197 :: x198 :: x199 :: x200 :: x201 :: x202 :: x203 :: x204 :: x205 :: x206 :: x207 :: x208 :: x209 :: x210 :: x211 :: x212 :: x213 :: x214 :: x215 :: x216 :: x217 :: x218 :: x219 :: x220 :: x221 :: x222 :: x223 :: x224 :: x225 :: x226 :: x227 :: x228 :: x229 :: x230 :: x231 :: x232 :: x233 :: x234 :: x235 :: x236 :: x237 :: x238 :: x239 :: x240 :: x241 :: x242 :: x243 :: x244 :: x245 :: x246 :: []), defers := [] } W := by
  have HLS := hidMk h
  have HT := hidMk ht
  have hpos := h.pos
  obtain ⟨hfew, hbl⟩ := h.few
  have HBL := hidMk hbl
  clear hbl
  have HP1 := hidMk (fun V => pick_any wh ps.length V h.pos (by omega) hwh)
  have HP2 := hidMk (fun V => pick_any ho 7 V (by decide) (by decide) hho)
  rw [hcase] at HP2
  have HRD := hidMk h.reads
  have hk := pick_lt wh ps.length h.pos
  obtain ⟨rb, rfl, hrb1, hrb2⟩ := h.row
  generalize pickP wh ps.length = k at *
  have hk' : (k : Int) < (ps.length : Int) := by omega
  obtain ⟨c0, c1, f0, f1⟩ := h.slot k hk
  obtain ⟨va, vc, hv, hvb, hvc, hvm, hvl⟩ := ol_at (h.lo.byt _ (List.getElem_mem hk))
  rw [hv] at c1
  obtain ⟨hsb, hsl⟩ := HRD.out.byt _ (List.getElem_mem hk)
  have hbl8 : ps[k].b.length = (encBody (ofG (ces ss) ps[k].g)).length + 8 := by
    have q := congrArg List.length hsb
    rw [Wr.sealed_len] at q
    exact q
  obtain ⟨vb, hva, hvo⟩ : ∃ vb, va = some ⟨vb, 0, none⟩ ∧ ps[k].v.ownBlock = some vb := by
    rcases (h.lo.byt _ (List.getElem_mem hk)).2 with ⟨k1, k2⟩ | ⟨g, cap, cur, k1, -⟩
    · omega
    · rw [hv] at k1; injection k1 with k1; exact ⟨g, k1, by rw [hv, k1]; rfl⟩
  subst hva
  have HSB := hidMk hsb
  have HL8 := hidMk hbl8
  have hge8 : 8 ≤ ps[k].b.length ∧ ps[k].b.length ≤ 134217736 := by omega
  clear hbl8
  have HVO := hidMk hvo
  have HV := hidMk hv
  have HVB := hidMk hvb
  have HVL := hidMk (hvl _ rfl)
  clear h ht hsb hvo hv hvb hvl
  conv => arg 2; whnf
  go_wp2_with fail
  refine (HP1.out _).mono ?_
  rintro e w' ⟨rfl, hw⟩
  replace hw := hw.symm; subst hw
  clear HP1
  go_wp2_with fail
  refine (HP2.out _).mono ?_
  rintro e w' ⟨rfl, hw⟩
  replace hw := hw.symm; subst hw
  clear HP2
  go_upto_block 2 with fail
  have hl4 : ((ps[k].b.length - 4 : Nat) : Int) = (ps[k].b.length : Int) - 4 := by omega
  have HP3 := hidMk (fun V => pick_any at' (ps[k].b.length - 4) V (by omega) (by omega) hat)
  have hq := pick_lt at' (ps[k].b.length - 4) (by omega)
  generalize pickP at' (ps[k].b.length - 4) = z at *
  rw [hl4] at HP3
  clear hl4
  have hi4 : 4 + z < ps[k].b.length := by omega
  have hi4' : ((4 + z : Nat) : Int) < (ps[k].b.length : Int) := by omega
  have hc5 : W.cell? ⟨vb, 4 + z, none⟩ = some (.int .u8 (Wr.lat ps[k].b (4 + z)).toNat) := by
    obtain ⟨b', o', e', q⟩ := HVB.out (4 + z) hi4
    cases e'
    rw [Nat.zero_add] at q
    exact q
  have hrow := HLS.out.lo.byt _ (List.getElem_mem hk)
  have hf5 : W.frozen? ⟨vb, 4 + z, none⟩ = false := by
    rw [HV.out] at hrow
    exact World.ownsRow.frozenAt hrow _
  clear hrow
  generalize hy : Wr.lat ps[k].b (4 + z) = y at *
  have HY := hidMk hy
  clear hy
  have hyw : IntKind.u8.wrap ((y.toNat : Int) + 1) = ((y + 1).toNat : Int) := u8_next y
  go_cut [17, 22] from 23 (fun l n wc => l = .slice (some ⟨rb, 0, none⟩) ps.length pc ∧ n = .int .i64 ((8 : Nat) : Int) ∧ wc = W.setCell ⟨vb, 4 + z, none⟩ (.int .u8 ((y + 1).toNat : Int)))
  case first =>
    go_wp2_with fail
    refine (HP3.out _).mono ?_
    rintro e w' ⟨rfl, hw⟩
    replace hw := hw.symm; subst hw
    have hz : IntKind.i64.wrap ((4 : Int) + (z : Int)) = ((4 + z : Nat) : Int) := (wi64 (by omega) (by omega)).trans (by omega)
    go_wp2_with fail
    go_meet
    case rel => exact ⟨rfl, rfl, rfl⟩
  case rest =>
    apply_assumption
    obtain ⟨rfl, rfl, hcut⟩ := hcut
    obtain ⟨hP, hG⟩ := HLS.out.setB k hk HV.out HVO.out (4 + z) hi4 (y + 1)
    rw [← hcut] at hP hG
    have hl : ps.length = (ps.set k ⟨ps[k].g, .slice (some ⟨vb, 0, none⟩) ps[k].b.length vc, ps[k].b.set (4 + z) (y + 1)⟩).length := (List.length_set ..).symm
    obtain ⟨q1, q2⟩ := HLS.out.kept hG
    rw [hl]
    exact loads_t3 w0 _ t mp w0.heap.size ss _ pc (ps.set k ⟨ps[k].g, .slice (some ⟨vb, 0, none⟩) ps[k].b.length vc, ps[k].b.set (4 + z) (y + 1)⟩) k 8 (ofG (ces ss)) bb bc B2 bs q1.ps hP (by rw [← hl]; exact hk) (by rw [← hl]; omega) (by rw [set_take]; exact HRD.out.take k) (by decide) (fun V t1 m1 hV1 hV2 => fault_open hk HRD.out rfl (by decide) (show (ps[k].b.set (4 + z) (y + 1)).length ≤ _ by rw [List.length_set]; omega) (show Wr.opnE (Wr.lat (ps[k].b.set (4 + z) (y + 1))) (ps[k].b.set (4 + z) (y + 1)).length 0 = 8 by rw [List.length_set, HL8.out, HSB.out]; exact Wr.open_turned _ hsl (4 + z) (by omega) (by have := HL8.out; omega) (y + 1) (by rw [← HSB.out, HY.out]; exact u8_ne y))) q2 HLS.out.eq2 (by have := HBL.out; omega) q1.bel HT.out _ _ _ _ _ _ _ _ _ _ _ _ _ _ _ _ _ _ _ _ _ _ _ _ _ _ _ _ _ _ _ _ _ _ _ _ _ _ _ _ _ _ _ _ _ _ _ _ _ _ _ _ _ _ _ _ _ _ _ _ _ _ _ _ _ _ _ _ _ _ _ _ _ _ _ _ _ _ _ _ _ _ _ _ _ _ _ _ _ _ _ _ _ _ _ _ _ _ _ _ _ _ _ _ _ _ _ _ _ _ _ _ _ _ _ _ _ _ _ _ _ _ _ _ _ _ _ _ _ _ _ _ _ _ _ _ _ _ _ _ _ _ _ _ _ _ _ _ _ _ _ _ _ _ _ _ _ _ _ _ _ _ _ _ _ _ _ _ _ _ _ _ _ _ _ _ _ _ _ _ _ _ _ _ _ _ _ _ _ _ _ _ _ _ _ _ _ _ _ _ _ _ _ _ _ _ _ _ _ _ _ _ _ _ _ _ _ _ _ _ _ _ _ _ _ _ _ _ _ _ _ _ _ _ _ _ _ _ _ _ _ _ _
end Go.Proofs.YtobhccmnlmlapaaGreatDoor
namespace Go.Proofs.YtobhccmnlmlapaaGreatDoor
open Go.RowKit Go.Maps
set_option linter.unusedVariables false
set_option linter.unusedSimpArgs false
set_option maxRecDepth 100000
set_option maxHeartbeats 8000000 in
theorem loads_c4 (w0 W : World) (B1 B2 t mp s : Nat) (ss : List Sh) (u : Value) (qs : List Cx) (pb : Option Addr) (pc : Nat) (ps : List Pc) (bb : Option Addr) (bc : Nat) (bs : List Pc) (wh ho at' : Int) (h : LS w0 W B1 B2 t mp s ss u qs pb pc ps bb bc bs) (hwh : -9223372036854775808 ≤ wh ∧ wh ≤ 9223372036854775807) (hho : -9223372036854775808 ≤ ho ∧ ho ≤ 9223372036854775807) (hat : -9223372036854775808 ≤ at' ∧ at' ≤ 9223372036854775807) (hcase : pickP ho 7 = 4) (ht : ∀ W, Below w0.heap.size w0 W → Vl.Tab W ∧ Wr.Quart W ∧ Wr.Ety W)
    (x0 x4 x5 x6 x7 x8 x10 x12 x13 x14 x15 x16 x19 x20 x21 x22 x23 x24 x25 x26 x27 x28 x29 x30 x31 x32 x33 x34 x35 x36 x37 x38 x39 x40 x41 x42 x43 x44 x45 x46 x47 x48 x49 x50 x51 x52 x53 x54 x55 x56 x57 x58 x59 x60 x61 x62 x63 x64 x65 x66 x67 x68 x69 x70 x71 x72 x73 x74 x75 x76 x77 x78 x79 x80 x81 x82 x83 x84 x85 x86 x87 x88 x89 x90 x91 x92 x93 x94 x95 x96 x97 x98 x99 x100 x101 x102 x103 x104 x105 x106 x107 x108 x109 x110 x111 x112 x113 x114 x115 x116 x117 x118 x119 x120 x121 x122 x123 x124 x125 x126 x127 x128 x129 x130 x131 x132 x133 x134 x135 x136 x137 x138 x139 x140 x141 x142 x143 x144 x145 x146 x147 x148 x149 x150 x151 x152 x153 x154 x155 x156 x157 x158 x159 x160 x161 x162 x163 x164 x165 x166 x167 x168 x169 x170 x171 x172 x173 x174 x175 x176 x177 x178 x179 x180 x181 x182 x183 x184 x185 x186 x187 x188 x189 x190 x191 x192 x193 x194 x195 x196 x197 x198 x199 x200 x201 x202 x203 x204 x205 x206 x207 x208 x209 x210 x211 x212 x213 x214 x215 x216 x217 x218 x219 x220 x221 x222 x223 x224 x225 x226 x227 x228 x229 x230 x231 x232 x233 x234 x235 x236 x237 x238 x239 x240 x241 x242 x243 x244 x245 x246 : Value) :
    Code.wp Tryz.prog (ldPart 19) (bodyPost Tryz.prog Tryz.f5 fun e w' => e = .returned (.bool true) ∧ Below w0.heap.size w0 w') { tmps := List.toArray (x0 :: (.int .i64 wh) :: (.int .i64 ho) :: (.int .i64 at') :: x4 :: x5 :: x6 :: x7 :: x8 :: (.pointer (some ⟨t, 0, none⟩)) :: x10 :: (.pointer (some ⟨s, 0, none⟩)) :: x12 :: x13 :: x14 :: x15 :: x16 :: (.slice pb ps.length pc) :: (.slice bb bs.length bc) :: x19 :: x20 :: x21 :: x22 :: x23 :: x24 :: x25 :: x26 :: x27 :: x28 :: x29 :: x30 :: x31 :: x32 :: x33 :: x34 :: x35 :: x36 :: x37 :: x38 :: x39 :: x40 :: x41 :: x42 :: x43 :: x44 :: x45 :: x46 :: x47 :: x48 :: x49 :: x50 :: x51 :: x52 :: x53 :: x54 :: x55 :: x56 :: x57 :: x58 :: x59 :: x60 :: x61 :: x62 :: x63 :: x64 :: x65 :: x66 :: x67 :: x68 :: x69 :: x70 :: x71 :: x72 :: x73 :: x74 :: x75 :: x76 :: x77 :: x78 :: x79 :: x80 :: x81 :: x82 :: x83 :: x84 :: x85 :: x86 :: x87 :: x88 :: x89 :: x90 :: x91 :: x92 :: x93 :: x94 :: x95 :: x96 :: x97 :: x98 :: x99 :: x100 :: x101 :: x102 :: x103 :: x104 :: x105 :: x106 :: x107 :: x108 :: x109 :: x110 :: x111 :: x112 :: x113 :: x114 :: x115 :: x116 :: x117 :: x118 :: x119 :: x120 :: x121 :: x122 :: x123 :: x124 :: x125 :: x126 :: x127 :: x128 :: x129 :: x130 :: x131 :: x132 :: x133 :: x134 :: x135 :: x136 :: x137 :: x138 :: x139 :: x140 :: x141 :: x142 :: x143 :: x144 :: x145 :: x146 :: x147 :: x148 :: x149 :: x150 :: x151 :: x152 :: x153 :: x154 :: x155 :: x156 :: x157 :: x158 :: x159 :: x160 :: x161 :: x162 :: x163 :: x164 :: x165 :: x166 :: x167 :: x168 :: x169 :: x170 :: x171 :: x172 :: x173 :: x174 :: x175 :: x176 :: x177 :: x178 :: x179 :: x180 :: x181 :: x182 :: x183 :: x184 :: x185 :: x186 :: x187 :: x188 :: x189 :: x190 :: x191 :: x192 :: x193 :: x194 :: x195 :: x196 :: x197 :: x198 :: x199 :: x200 :: x201 :: x202 :: x203 :: x204 :: x205 :: x206 :: x207 :: x208 :: x209 :: x210 :: x211 :: x212 :: x213 :: x214 :: x215 :: x216 :: x217 :: x218 :: x219 :: x220 :: x221 :: x222 :: x223 :: x224 :: x225 :: x226 :: x227 :: x228 :: x229 :: x230 :: x231 :: x232 :: x233 :: x234 :: x235 :: x236 :: x237 :: x238 :: x239 :: x240 :: x241 :: x242 :: x243 :: x244 :: x245 :: x246 :: []), defers := [] } W := by
  have HLS := hidMk h
  have HT := hidMk ht
  have hpos := h.pos
  obtain ⟨hfew, hbl⟩ := h.few
  have HBL := hidMk hbl
  clear hbl
  have HP1 := hidMk (fun V => pick_any wh ps.length V h.pos (by omega) hwh)
  have HP2 := hidMk (fun V => pick_any ho 7 V (by decide) (by decide) hho)
  rw [hcase] at HP2
  have HRD := hidMk h.reads
  have hk := pick_lt wh ps.length h.pos
  obtain ⟨rb, rfl, hrb1, hrb2⟩ := h.row
  generalize pickP wh ps.length = k at *
  have hk' : (k : Int) < (ps.length : Int) := by omega
  obtain ⟨c0, c1, f0, f1⟩ := h.slot k hk
  obtain ⟨va, vc, hv, hvb, hvc, hvm, hvl⟩ := ol_at (h.lo.byt _ (List.getElem_mem hk))
  rw [hv] at c1
  obtain ⟨hsb, hsl⟩ := HRD.out.byt _ (List.getElem_mem hk)
  have hbl8 : ps[k].b.length = (encBody (ofG (ces ss) ps[k].g)).length + 8 := by
    have q := congrArg List.length hsb
    rw [Wr.sealed_len] at q
    exact q
  obtain ⟨vb, hva, hvo⟩ : ∃ vb, va = some ⟨vb, 0, none⟩ ∧ ps[k].v.ownBlock = some vb := by
    rcases (h.lo.byt _ (List.getElem_mem hk)).2 with ⟨k1, k2⟩ | ⟨g, cap, cur, k1, -⟩
    · omega
    · rw [hv] at k1; injection k1 with k1; exact ⟨g, k1, by rw [hv, k1]; rfl⟩
  subst hva
  have HSB := hidMk hsb
  have HL8 := hidMk hbl8
  have hge8 : 8 ≤ ps[k].b.length ∧ ps[k].b.length ≤ 134217736 := by omega
  clear hbl8
  have HVO := hidMk hvo
  have HV := hidMk hv
  have HVB := hidMk hvb
  have HVL := hidMk (hvl _ rfl)
  clear h ht hsb hvo hv hvb hvl
  conv => arg 2; whnf
  go_wp2_with fail
  refine (HP1.out _).mono ?_
  rintro e w' ⟨rfl, hw⟩
  replace hw := hw.symm; subst hw
  clear HP1
  go_wp2_with fail
  refine (HP2.out _).mono ?_
  rintro e w' ⟨rfl, hw⟩
  replace hw := hw.symm; subst hw
  clear HP2
  go_upto_block 2 with fail
  obtain ⟨x, hx⟩ : ∃ x : UInt8, IntKind.u8.wrap at' = (x.toNat : Int) := by
    have e : IntKind.u8.wrap at' = at' % 256 := by simp [IntKind.wrap]; try rfl
    refine ⟨UInt8.ofNat (at' % 256).toNat, ?_⟩
    have q : (UInt8.ofNat (at' % 256).toNat).toNat = (at' % 256).toNat % 256 := UInt8.toNat_ofNat'
    rw [e, q]
    omega
  have hne : rb ≠ vb := fun e => HLS.out.lo.out _ (List.getElem_mem hk) vb HVO.out (by rw [← e]; rfl)
  have hord := HLS.out.ord
  have HEB : Hid (Wr.OL (W.alloc (.cells #[.int .u8 (x.toNat : Int)] 5)) W.heap.size (.slice (some ⟨W.heap.size, 0, none⟩) 1 1) [x]) := row_of_block (n := 1) (xs := [.int .u8 (x.toNat : Int)]) (heap_alloc_new W _) (Nat.le_refl _) rfl (by decide)
  have HLB : Hid (Wr.OL (W.alloc (.cells #[.int .u8 (x.toNat : Int)] 5)) B1 (.slice (some ⟨vb, 0, none⟩) ps[k].b.length vc) ps[k].b) := by
    have q := HLS.out.lo.byt _ (List.getElem_mem hk)
    rw [HV.out] at q
    exact own_later q (bel1 _ _)
  have lA : B1 ≤ (W.alloc (.cells #[.int .u8 (x.toNat : Int)] 5)).heap.size := by simp; omega
  go_cut [17, 22] from 23 (fun l n wc => l = .slice (some ⟨rb, 0, none⟩) ps.length pc ∧ n = .int .i64 ((7 : Nat) : Int) ∧ ∃ v W1, wc = W1.setCell ⟨rb, k * 2 + 1, none⟩ v ∧ Gs (fun i => ps[k].v.ownBlock = some i) W W1 ∧ Wr.OL W1 B1 v (ps[k].b ++ [x]) ∧ v.ownBlock ≠ some rb)
  case first =>
    go_wp2_with (first
      | (at_builtin; refine Wr.wpList_append_ol rfl _ _ rfl B1 _ ps[k].b rfl HLB.out W.heap.size _ [x] rfl HEB.out (by simp) (by simp; omega) lA ?_))
    intro v4 w4 o4 g4 hat4
    obtain ⟨a4, k4, hv4⟩ := bytes_form o4
    rw [List.length_append, List.length_singleton] at hv4
    subst hv4
    have lS : (W.alloc (.cells #[.int .u8 (x.toNat : Int)] 5)).heap.size = W.heap.size + 1 := by simp
    have hbA : Below W.heap.size W (W.alloc (.cells #[.int .u8 (x.toNat : Int)] 5)) := bel1 _ _
    have e1 : w4.cell? ⟨rb, k * 2 + 1, none⟩ = some (.slice (some ⟨vb, 0, none⟩) ps[k].b.length vc) := by
      rw [← cell_later hbA c1]
      exact World.cell?_of_block (g4.block rb (by simp; omega) (fun e => hne (Option.some.inj e)))
    have g1 : w4.frozen? ⟨rb, k * 2 + 1, none⟩ = false := by
      exact (World.frozen?_of_block (a := ⟨rb, k * 2 + 1, none⟩) (g4.block rb (by simp; omega) (fun e => hne (Option.some.inj e)))).trans ((World.frozen?_of_block (a := ⟨rb, k * 2 + 1, none⟩) (hbA.block rb (show rb < W.heap.size by omega))).trans f1)
    have HZ : Hid (∃ v' W1', w4.setCell ⟨rb, k * 2 + 1, none⟩ (.slice a4 (ps[k].b.length + 1) k4) = W1'.setCell ⟨rb, k * 2 + 1, none⟩ v' ∧ Gs (fun i => ps[k].v.ownBlock = some i) W W1' ∧ Wr.OL W1' B1 v' (ps[k].b ++ [x]) ∧ v'.ownBlock ≠ some rb) := ⟨_, w4, rfl, (Gs.below hbA).trans (Gs.one g4 (fun j e => by rw [HVO.out]; exact e)), o4, fun e => by
      rcases hat4 with q | q
      · rw [e] at q; exact hne (Option.some.inj q)
      · rw [e] at q
        have q2 := Option.some.inj q
        omega⟩
    clear o4 g4 hat4 HLB HEB hbA lS
    go_wp2_with fail
    go_meet
    case rel => exact ⟨rfl, rfl, HZ.out⟩
  case rest =>
    apply_assumption
    obtain ⟨rfl, rfl, hcut⟩ := hcut
    obtain ⟨v, W1, hcut, hg1, ho1, hvn⟩ := hcut
    have hrow : W1.ownsRow B1 57 2 (.slice (some ⟨rb, 0, none⟩) ps.length pc) ps.length (ps.flatMap cellsP) := hg1.own HLS.out.lo.own fun i hi hs => HLS.out.lo.out _ (List.getElem_mem hk) i hs hi
    have hO2 := own_grown ho1 (World.ownsRow.stored hrow (k * 2 + 1) v).2 (fun gg hgg e => hvn (by rw [hgg]; exact e))
    obtain ⟨hP, hG⟩ := HLS.out.setV k hk (W1 := W1) hg1 v (ps[k].b ++ [x]) (ol_at hO2)
    rw [← hcut] at hP hG
    have hl : ps.length = (ps.set k ⟨ps[k].g, v, ps[k].b ++ [x]⟩).length := (List.length_set ..).symm
    obtain ⟨q1, q2⟩ := HLS.out.kept hG
    rw [hl]
    exact loads_t3 w0 _ t mp w0.heap.size ss _ pc (ps.set k ⟨ps[k].g, v, ps[k].b ++ [x]⟩) k 7 (ofG (ces ss)) bb bc B2 bs q1.ps hP (by rw [← hl]; exact hk) (by rw [← hl]; omega) (by rw [set_take]; exact HRD.out.take k) (by decide) (fun V t1 m1 hV1 hV2 => fault_behind hk x HRD.out rfl rfl) q2 HLS.out.eq2 (by have := HBL.out; omega) q1.bel HT.out _ _ _ _ _ _ _ _ _ _ _ _ _ _ _ _ _ _ _ _ _ _ _ _ _ _ _ _ _ _ _ _ _ _ _ _ _ _ _ _ _ _ _ _ _ _ _ _ _ _ _ _ _ _ _ _ _ _ _ _ _ _ _ _ _ _ _ _ _ _ _ _ _ _ _ _ _ _ _ _ _ _ _ _ _ _ _ _ _ _ _ _ _ _ _ _ _ _ _ _ _ _ _ _ _ _ _ _ _ _ _ _ _ _ _ _ _ _ _ _ _ _ _ _ _ _ _ _ _ _ _ _ _ _ _ _ _ _ _ _ _ _ _ _ _ _ _ _ _ _ _ _ _ _ _ _ _ _ _ _ _ _ _ _ _ _ _ _ _ _ _ _ _ _ _ _ _ _ _ _ _ _ _ _ _ _ _ _ _ _ _ _ _ _ _ _ _ _ _ _ _ _ _ _ _ _ _ _ _ _ _ _ _ _ _ _ _ _ _ _ _ _ _ _ _ _ _ _ _ _ _ _ _ _ _ _ _ _ _ _ _ _ _
end Go.Proofs.YtobhccmnlmlapaaGreatDoor
namespace Go.Proofs.YtobhccmnlmlapaaGreatDoor
open Go.RowKit Go.Maps
set_option linter.unusedVariables false
set_option linter.unusedSimpArgs false
set_option maxRecDepth 100000
set_option maxHeartbeats 8000000 in
theorem loads_c5 (w0 W : World) (B1 B2 t mp s : Nat) (ss : List Sh) (u : Value) (qs : List Cx) (pb : Option Addr) (pc : Nat) (ps : List Pc) (bb : Option Addr) (bc : Nat) (bs : List Pc) (wh ho at' : Int) (h : LS w0 W B1 B2 t mp s ss u qs pb pc ps bb bc bs) (hwh : -9223372036854775808 ≤ wh ∧ wh ≤ 9223372036854775807) (hho : -9223372036854775808 ≤ ho ∧ ho ≤ 9223372036854775807) (hat : -9223372036854775808 ≤ at' ∧ at' ≤ 9223372036854775807) (hcase : pickP ho 7 = 5) (ht : ∀ W, Below w0.heap.size w0 W → Vl.Tab W ∧ Wr.Quart W ∧ Wr.Ety W)
    (x0 x4 x5 x6 x7 x8 x10 x12 x13 x14 x15 x16 x19 x20 x21 x22 x23 x24 x25 x26 x27 x28 x29 x30 x31 x32 x33 x34 x35 x36 x37 x38 x39 x40 x41 x42 x43 x44 x45 x46 x47 x48 x49 x50 x51 x52 x53 x54 x55 x56 x57 x58 x59 x60 x61 x62 x63 x64 x65 x66 x67 x68 x69 x70 x71 x72 x73 x74 x75 x76 x77 x78 x79 x80 x81 x82 x83 x84 x85 x86 x87 x88 x89 x90 x91 x92 x93 x94 x95 x96 x97 x98 x99 x100 x101 x102 x103 x104 x105 x106 x107 x108 x109 x110 x111 x112 x113 x114 x115 x116 x117 x118 x119 x120 x121 x122 x123 x124 x125 x126 x127 x128 x129 x130 x131 x132 x133 x134 x135 x136 x137 x138 x139 x140 x141 x142 x143 x144 x145 x146 x147 x148 x149 x150 x151 x152 x153 x154 x155 x156 x157 x158 x159 x160 x161 x162 x163 x164 x165 x166 x167 x168 x169 x170 x171 x172 x173 x174 x175 x176 x177 x178 x179 x180 x181 x182 x183 x184 x185 x186 x187 x188 x189 x190 x191 x192 x193 x194 x195 x196 x197 x198 x199 x200 x201 x202 x203 x204 x205 x206 x207 x208 x209 x210 x211 x212 x213 x214 x215 x216 x217 x218 x219 x220 x221 x222 x223 x224 x225 x226 x227 x228 x229 x230 x231 x232 x233 x234 x235 x236 x237 x238 x239 x240 x241 x242 x243 x244 x245 x246 : Value) :
    Code.wp Tryz.prog (ldPart 19) (bodyPost Tryz.prog Tryz.f5 fun e w' => e = .returned (.bool true) ∧ Below w0.heap.size w0 w') { tmps := List.toArray (x0 :: (.int .i64 wh) :: (.int .i64 ho) :: (.int .i64 at') :: x4 :: x5 :: x6 :: x7 :: x8 :: (.pointer (some ⟨t, 0, none⟩)) :: x10 :: (.pointer (some ⟨s, 0, none⟩)) :: x12 :: x13 :: x14 :: x15 :: x16 :: (.slice pb ps.length pc) :: (.slice bb bs.length bc) :: x19 :: x20 :: x21 :: x22 :: x23 :: x24 :: x25 :: x26 :: x27 :: x28 :: x29 :: x30 :: x31 :: x32 :: x33 :: x34 :: x35 :: x36 :: x37 :: x38 :: x39 :: x40 :: x41 :: x42 :: x43 :: x44 :: x45 :: x46 :: x47 :: x48 :: x49 :: x50 :: x51 :: x52 :: x53 :: x54 :: x55 :: x56 :: x57 :: x58 :: x59 :: x60 :: x61 :: x62 :: x63 :: x64 :: x65 :: x66 :: x67 :: x68 :: x69 :: x70 :: x71 :: x72 :: x73 :: x74 :: x75 :: x76 :: x77 :: x78 :: x79 :: x80 :: x81 :: x82 :: x83 :: x84 :: x85 :: x86 :: x87 :: x88 :: x89 :: x90 :: x91 :: x92 :: x93 :: x94 :: x95 :: x96 :: x97 :: x98 :: x99 :: x100 :: x101 :: x102 :: x103 :: x104 :: x105 :: x106 :: x107 :: x108 :: x109 :: x110 :: x111 :: x112 :: x113 :: x114 :: x115 :: x116 :: x117 :: x118 :: x119 :: x120 :: x121 :: x122 :: x123 :: x124 :: x125 :: x126 :: x127 :: x128 :: x129 :: x130 :: x131 :: x132 :: x133 :: x134 :: x135 :: x136 :: x137 :: x138 :: x139 :: x140 :: x141 :: x142 :: x143 :: x144 :: x145 :: x146 :: x147 :: x148 :: x149 :: x150 :: x151 :: x152 :: x153 :: x154 :: x155 :: x156 :: x157 :: x158 :: x159 :: x160 :: x161 :: x162 :: x163 :: x164 :: x165 :: x166 :: x167 :: x168 :: x169 :: x170 :: x171 :: x172 :: x173 :: x174 :: x175 :: x176 :: x177 :: x178 :: x179 :: x180 :: x181 :: x182 :: x183 :: x184 :: x185 :: x186 :: x187 :: x188 :: x189 :: x190 :: x191 :: x192 :: x193 :: x194 :: x195 :: x196 :: x197 :: x198 :: x199 :: x200 :: x201 :: x202 :: x203 :: x204 :: x205 :: x206 :: x207 :: x208 :: x209 :: x210 :: x211 :: x212 :: x213 :: x214 :: x215 :: x216 :: x217 :: x218 :: x219 :: x220 :: x221 :: x222 :: x223 :: x224 :: x225 :: x226 :: x227 :: x228 :: x229 :: x230 :: x231 :: x232 :: x233 :: x234 :: x235 :: x236 :: x237 :: x238 :: x239 :: x240 :: x241 :: x242 :: x243 :: x244 :: x245 :: x246 :: []), defers := [] } W := by
  have HLS := hidMk h
  have HT := hidMk ht
  have hpos := h.pos
  obtain ⟨hfew, hbl⟩ := h.few
  have HBL := hidMk hbl
  clear hbl
  have HP1 := hidMk (fun V => pick_any wh ps.length V h.pos (by omega) hwh)
  have HP2 := hidMk (fun V => pick_any ho 7 V (by decide) (by decide) hho)
  rw [hcase] at HP2
  have HRD := hidMk h.reads
  have hk := pick_lt wh ps.length h.pos
  obtain ⟨rb, rfl, hrb1, hrb2⟩ := h.row
  generalize pickP wh ps.length = k at *
  have hk' : (k : Int) < (ps.length : Int) := by omega
  obtain ⟨c0, c1, f0, f1⟩ := h.slot k hk
  obtain ⟨va, vc, hv, hvb, hvc, hvm, hvl⟩ := ol_at (h.lo.byt _ (List.getElem_mem hk))
  rw [hv] at c1
  obtain ⟨hsb, hsl⟩ := HRD.out.byt _ (List.getElem_mem hk)
  have hbl8 : ps[k].b.length = (encBody (ofG (ces ss) ps[k].g)).length + 8 := by
    have q := congrArg List.length hsb
    rw [Wr.sealed_len] at q
    exact q
  obtain ⟨vb, hva, hvo⟩ : ∃ vb, va = some ⟨vb, 0, none⟩ ∧ ps[k].v.ownBlock = some vb := by
    rcases (h.lo.byt _ (List.getElem_mem hk)).2 with ⟨k1, k2⟩ | ⟨g, cap, cur, k1, -⟩
    · omega
    · rw [hv] at k1; injection k1 with k1; exact ⟨g, k1, by rw [hv, k1]; rfl⟩
  subst hva
  have HSB := hidMk hsb
  have HL8 := hidMk hbl8
  have hge8 : 8 ≤ ps[k].b.length ∧ ps[k].b.length ≤ 134217736 := by omega
  clear hbl8
  have HVO := hidMk hvo
  have HV := hidMk hv
  have HVB := hidMk hvb
  have HVL := hidMk (hvl _ rfl)
  clear h ht hsb hvo hv hvb hvl
  conv => arg 2; whnf
  go_wp2_with fail
  refine (HP1.out _).mono ?_
  rintro e w' ⟨rfl, hw⟩
  replace hw := hw.symm; subst hw
  clear HP1
  go_wp2_with fail
  refine (HP2.out _).mono ?_
  rintro e w' ⟨rfl, hw⟩
  replace hw := hw.symm; subst hw
  clear HP2
  go_upto_block 2 with fail
  have HTW := hidMk (fun V (hV : Below W.heap.size W V) => twiceD_any ps[k].g V w0.heap.size s 0 32 u qs (HLS.out.si.later hV).ds HLS.out.si.dc (Nat.le_trans HLS.out.si.bel.size hV.size))
  have HF := hidMk (HLS.out.si.eq)
  go_cut [17, 22] from 23 (fun l n wc => l = .slice (some ⟨rb, 0, none⟩) ps.length pc ∧ n = .int .i64 ((7 : Nat) : Int) ∧ ∃ v W1, wc = W1.setCell ⟨rb, k * 2 + 1, none⟩ v ∧ Below W.heap.size W W1 ∧ Wr.OL W1 W.heap.size v (Wr.sealed (encBody (tw ((qs.map (·.c)).filter fun c => grp c.key == ps[k].g)))))
  case first =>
    go_wp2_with fail
    refine (HTW.out _ (Below.refl _ _)).mono ?_
    rintro e W1 ⟨v, rfl, o1, b1⟩
    have HZ : Hid (∃ v' W1', W1.setCell ⟨rb, k * 2 + 1, none⟩ v = W1'.setCell ⟨rb, k * 2 + 1, none⟩ v' ∧ Below W.heap.size W W1' ∧ Wr.OL W1' W.heap.size v' (Wr.sealed (encBody (tw ((qs.map (·.c)).filter fun c => grp c.key == ps[k].g))))) := ⟨v, W1, rfl, b1, o1⟩
    have g1 : W1.frozen? ⟨rb, k * 2 + 1, none⟩ = false := by rw [← f1]; exact World.frozen?_of_block (b1.block rb (show rb < W.heap.size by have := HLS.out.ord; omega))
    have e1 := cell_later b1 c1
    obtain ⟨a3, k3, hv3⟩ := bytes_form o1
    subst hv3
    clear o1 b1 HTW
    go_wp2_with fail
    go_meet
    case rel => exact ⟨rfl, rfl, HZ.out⟩
  case rest =>
    apply_assumption
    obtain ⟨rfl, rfl, hcut⟩ := hcut
    obtain ⟨v, W1, hcut, hb1, ho1⟩ := hcut
    have hno : ofG (ces ss) ps[k].g ≠ [] := fun e0 => by
      have hm : (ps[k].g, ps[k].b) ∈ saveP (ces ss) := by rw [← HLS.out.eq1]; exact List.mem_map.2 ⟨ps[k], List.getElem_mem hk, rfl⟩
      unfold saveP at hm
      obtain ⟨g', -, hg'⟩ := List.mem_filterMap.1 hm
      unfold pcs at hg'
      split at hg'
      · cases hg'
      · rename_i hne0
        have e1 := congrArg Prod.fst (Option.some.inj hg')
        simp only at e1
        rw [e1, e0] at hne0
        exact hne0 rfl
    obtain ⟨zc, hzc⟩ : ∃ zc, (ofG (ces ss) ps[k].g).getLast? = some zc := by
      cases hz : (ofG (ces ss) ps[k].g).getLast? with
      | none => exact absurd (List.getLast?_eq_none_iff.1 hz) hno
      | some zc => exact ⟨zc, rfl⟩
    have hF : (qs.map (·.c)).filter (fun c => grp c.key == ps[k].g) = ofG (ces ss) ps[k].g := by
      rw [HLS.out.si.eq]; exact (ofG_srt HLS.out.si.ps.apart _).symm
    rw [hF] at ho1
    unfold tw at ho1
    rw [hzc] at ho1
    simp only [Option.toList] at ho1
    have hrow : W1.ownsRow B1 57 2 (.slice (some ⟨rb, 0, none⟩) ps.length pc) ps.length (ps.flatMap cellsP) := own_later HLS.out.lo.own hb1
    have hO2 := own_grown ho1 (World.ownsRow.stored hrow (k * 2 + 1) v).2 (fun gg hgg e => by
      have q1 := (World.ownsRow.lt ho1 gg hgg).1
      have q2 := HLS.out.ord
      have q3 : gg = rb := Option.some.inj e
      omega)
    obtain ⟨hP, hG⟩ := HLS.out.setV k hk (W1 := W1) (Gs.below hb1) v (Wr.sealed (encBody (ofG (ces ss) ps[k].g ++ [zc]))) (ol_at hO2)
    rw [← hcut] at hP hG
    have hlen : (encBody (ofG (ces ss) ps[k].g ++ [zc])).length < 4294967296 := by
      have hl1 : ((ofG (ces ss) ps[k].g).flatMap encCe).length ≤ 134217728 := by
        have q := hsl
        unfold encBody at q
        rw [List.length_append] at q
        omega
      have hl2 := flatCe_len (ofG (ces ss) ps[k].g)
      have hl3 : (encCe zc).length ≤ ((ofG (ces ss) ps[k].g).flatMap encCe).length := by
        obtain ⟨la, lb, e⟩ := List.append_of_mem (List.mem_of_getLast? hzc)
        rw [e, List.flatMap_append, List.flatMap_cons, List.length_append, List.length_append]
        omega
      have hl4 := Wr.encInt_len (((ofG (ces ss) ps[k].g ++ [zc]).length : Nat) : Int) (by omega) (by rw [List.length_append]; simp; omega)
      have hl6 : (encBody (ofG (ces ss) ps[k].g ++ [zc])).length = (Wr.encInt (((ofG (ces ss) ps[k].g ++ [zc]).length : Nat) : Int)).length + (((ofG (ces ss) ps[k].g).flatMap encCe).length + (encCe zc).length) := by
        unfold encBody
        generalize Wr.encInt _ = EI
        rw [List.length_append, List.flatMap_append, List.length_append]
        simp
      omega
    have hl : ps.length = (ps.set k ⟨ps[k].g, v, Wr.sealed (encBody (ofG (ces ss) ps[k].g ++ [zc]))⟩).length := (List.length_set ..).symm
    obtain ⟨q1, q2⟩ := HLS.out.kept hG
    rw [hl]
    exact loads_t3 w0 _ t mp w0.heap.size ss _ pc (ps.set k ⟨ps[k].g, v, Wr.sealed (encBody (ofG (ces ss) ps[k].g ++ [zc]))⟩) k 7 (ofG (ces ss)) bb bc B2 bs q1.ps hP (by rw [← hl]; exact hk) (by rw [← hl]; omega) (by rw [set_take]; exact HRD.out.take k) (by decide) (fun V t1 m1 hV1 hV2 => fault_last hk zc HRD.out rfl hzc rfl hlen (fun V2 hV3 => (HT.out _ (q1.bel.trans ((hV2.trans hV3).mono q1.bel.size))).1)) q2 HLS.out.eq2 (by have := HBL.out; omega) q1.bel HT.out _ _ _ _ _ _ _ _ _ _ _ _ _ _ _ _ _ _ _ _ _ _ _ _ _ _ _ _ _ _ _ _ _ _ _ _ _ _ _ _ _ _ _ _ _ _ _ _ _ _ _ _ _ _ _ _ _ _ _ _ _ _ _ _ _ _ _ _ _ _ _ _ _ _ _ _ _ _ _ _ _ _ _ _ _ _ _ _ _ _ _ _ _ _ _ _ _ _ _ _ _ _ _ _ _ _ _ _ _ _ _ _ _ _ _ _ _ _ _ _ _ _ _ _ _ _ _ _ _ _ _ _ _ _ _ _ _ _ _ _ _ _ _ _ _ _ _ _ _ _ _ _ _ _ _ _ _ _ _ _ _ _ _ _ _ _ _ _ _ _ _ _ _ _ _ _ _ _ _ _ _ _ _ _ _ _ _ _ _ _ _ _ _ _ _ _ _ _ _ _ _ _ _ _ _ _ _ _ _ _ _ _ _ _ _ _ _ _ _ _ _ _ _ _ _ _ _ _ _ _ _ _ _ _ _ _ _ _ _ _ _ _ _
end Go.Proofs.YtobhccmnlmlapaaGreatDoor
namespace Go.Proofs.YtobhccmnlmlapaaGreatDoor
open Go.RowKit Go.Maps
set_option linter.unusedVariables false
set_option linter.unusedSimpArgs false
set_option maxRecDepth 100000
set_option maxHeartbeats 8000000 in
theorem loads_c6 (w0 W : World) (B1 B2 t mp s : Nat) (ss : List Sh) (u : Value) (qs : List Cx) (pb : Option Addr) (pc : Nat) (ps : List Pc) (bb : Option Addr) (bc : Nat) (bs : List Pc) (wh ho at' : Int) (h : LS w0 W B1 B2 t mp s ss u qs pb pc ps bb bc bs) (hwh : -9223372036854775808 ≤ wh ∧ wh ≤ 9223372036854775807) (hho : -9223372036854775808 ≤ ho ∧ ho ≤ 9223372036854775807) (hat : -9223372036854775808 ≤ at' ∧ at' ≤ 9223372036854775807) (hcase : pickP ho 7 = 6) (ht : ∀ W, Below w0.heap.size w0 W → Vl.Tab W ∧ Wr.Quart W ∧ Wr.Ety W)
    (x0 x4 x5 x6 x7 x8 x10 x12 x13 x14 x15 x16 x19 x20 x21 x22 x23 x24 x25 x26 x27 x28 x29 x30 x31 x32 x33 x34 x35 x36 x37 x38 x39 x40 x41 x42 x43 x44 x45 x46 x47 x48 x49 x50 x51 x52 x53 x54 x55 x56 x57 x58 x59 x60 x61 x62 x63 x64 x65 x66 x67 x68 x69 x70 x71 x72 x73 x74 x75 x76 x77 x78 x79 x80 x81 x82 x83 x84 x85 x86 x87 x88 x89 x90 x91 x92 x93 x94 x95 x96 x97 x98 x99 x100 x101 x102 x103 x104 x105 x106 x107 x108 x109 x110 x111 x112 x113 x114 x115 x116 x117 x118 x119 x120 x121 x122 x123 x124 x125 x126 x127 x128 x129 x130 x131 x132 x133 x134 x135 x136 x137 x138 x139 x140 x141 x142 x143 x144 x145 x146 x147 x148 x149 x150 x151 x152 x153 x154 x155 x156 x157 x158 x159 x160 x161 x162 x163 x164 x165 x166 x167 x168 x169 x170 x171 x172 x173 x174 x175 x176 x177 x178 x179 x180 x181 x182 x183 x184 x185 x186 x187 x188 x189 x190 x191 x192 x193 x194 x195 x196 x197 x198 x199 x200 x201 x202 x203 x204 x205 x206 x207 x208 x209 x210 x211 x212 x213 x214 x215 x216 x217 x218 x219 x220 x221 x222 x223 x224 x225 x226 x227 x228 x229 x230 x231 x232 x233 x234 x235 x236 x237 x238 x239 x240 x241 x242 x243 x244 x245 x246 : Value) :
    Code.wp Tryz.prog (ldPart 19) (bodyPost Tryz.prog Tryz.f5 fun e w' => e = .returned (.bool true) ∧ Below w0.heap.size w0 w') { tmps := List.toArray (x0 :: (.int .i64 wh) :: (.int .i64 ho) :: (.int .i64 at') :: x4 :: x5 :: x6 :: x7 :: x8 :: (.pointer (some ⟨t, 0, none⟩)) :: x10 :: (.pointer (some ⟨s, 0, none⟩)) :: x12 :: x13 :: x14 :: x15 :: x16 :: (.slice pb ps.length pc) :: (.slice bb bs.length bc) :: x19 :: x20 :: x21 :: x22 :: x23 :: x24 :: x25 :: x26 :: x27 :: x28 :: x29 :: x30 :: x31 :: x32 :: x33 :: x34 :: x35 :: x36 :: x37 :: x38 :: x39 :: x40 :: x41 :: x42 :: x43 :: x44 :: x45 :: x46 :: x47 :: x48 :: x49 :: x50 :: x51 :: x52 :: x53 :: x54 :: x55 :: x56 :: x57 :: x58 :: x59 :: x60 :: x61 :: x62 :: x63 :: x64 :: x65 :: x66 :: x67 :: x68 :: x69 :: x70 :: x71 :: x72 :: x73 :: x74 :: x75 :: x76 :: x77 :: x78 :: x79 :: x80 :: x81 :: x82 :: x83 :: x84 :: x85 :: x86 :: x87 :: x88 :: x89 :: x90 :: x91 :: x92 :: x93 :: x94 :: x95 :: x96 :: x97 :: x98 :: x99 :: x100 :: x101 :: x102 :: x103 :: x104 :: x105 :: x106 :: x107 :: x108 :: x109 :: x110 :: x111 :: x112 :: x113 :: x114 :: x115 :: x116 :: x117 :: x118 :: x119 :: x120 :: x121 :: x122 :: x123 :: x124 :: x125 :: x126 :: x127 :: x128 :: x129 :: x130 :: x131 :: x132 :: x133 :: x134 :: x135 :: x136 :: x137 :: x138 :: x139 :: x140 :: x141 :: x142 :: x143 :: x144 :: x145 :: x146 :: x147 :: x148 :: x149 :: x150 :: x151 :: x152 :: x153 :: x154 :: x155 :: x156 :: x157 :: x158 :: x159 :: x160 :: x161 :: x162 :: x163 :: x164 :: x165 :: x166 :: x167 :: x168 :: x169 :: x170 :: x171 :: x172 :: x173 :: x174 :: x175 :: x176 :: x177 :: x178 :: x179 :: x180 :: x181 :: x182 :: x183 :: x184 :: x185 :: x186 :: x187 :: x188 :: x189 :: x190 :: x191 :: x192 :: x193 :: x194 :: x195 :: x196 :: x197 :: x198 :: x199 :: x200 :: x201 :: x202 :: x203 :: x204 :: x205 :: x206 :: x207 :: x208 :: x209 :: x210 :: x211 :: x212 :: x213 :: x214 :: x215 :: x216 :: x217 :: x218 :: x219 :: x220 :: x221 :: x222 :: x223 :: x224 :: x225 :: x226 :: x227 :: x228 :: x229 :: x230 :: x231 :: x232 :: x233 :: x234 :: x235 :: x236 :: x237 :: x238 :: x239 :: x240 :: x241 :: x242 :: x243 :: x244 :: x245 :: x246 :: []), defers := [] } W := by
  have HLS := hidMk h
  have HT := hidMk ht
  have hpos := h.pos
  obtain ⟨hfew, hbl⟩ := h.few
  have HBL := hidMk hbl
  clear hbl
  have HP1 := hidMk (fun V => pick_any wh ps.length V h.pos (by omega) hwh)
  have HP2 := hidMk (fun V => pick_any ho 7 V (by decide) (by decide) hho)
  rw [hcase] at HP2
  have HRD := hidMk h.reads
  have hk := pick_lt wh ps.length h.pos
  obtain ⟨rb, rfl, hrb1, hrb2⟩ := h.row
  generalize pickP wh ps.length = k at *
  have hk' : (k : Int) < (ps.length : Int) := by omega
  obtain ⟨c0, c1, f0, f1⟩ := h.slot k hk
  obtain ⟨va, vc, hv, hvb, hvc, hvm, hvl⟩ := ol_at (h.lo.byt _ (List.getElem_mem hk))
  rw [hv] at c1
  obtain ⟨hsb, hsl⟩ := HRD.out.byt _ (List.getElem_mem hk)
  have hbl8 : ps[k].b.length = (encBody (ofG (ces ss) ps[k].g)).length + 8 := by
    have q := congrArg List.length hsb
    rw [Wr.sealed_len] at q
    exact q
  obtain ⟨vb, hva, hvo⟩ : ∃ vb, va = some ⟨vb, 0, none⟩ ∧ ps[k].v.ownBlock = some vb := by
    rcases (h.lo.byt _ (List.getElem_mem hk)).2 with ⟨k1, k2⟩ | ⟨g, cap, cur, k1, -⟩
    · omega
    · rw [hv] at k1; injection k1 with k1; exact ⟨g, k1, by rw [hv, k1]; rfl⟩
  subst hva
  have HSB := hidMk hsb
  have HL8 := hidMk hbl8
  have hge8 : 8 ≤ ps[k].b.length ∧ ps[k].b.length ≤ 134217736 := by omega
  clear hbl8
  have HVO := hidMk hvo
  have HV := hidMk hv
  have HVB := hidMk hvb
  have HVL := hidMk (hvl _ rfl)
  clear h ht hsb hvo hv hvb hvl
  conv => arg 2; whnf
  go_wp2_with fail
  refine (HP1.out _).mono ?_
  rintro e w' ⟨rfl, hw⟩
  replace hw := hw.symm; subst hw
  clear HP1
  go_wp2_with fail
  refine (HP2.out _).mono ?_
  rintro e w' ⟨rfl, hw⟩
  replace hw := hw.symm; subst hw
  clear HP2
  go_upto_block 2 with fail
  have HP3 := hidMk (fun V => pick_any at' 30 V (by decide) (by decide) hat)
  have hq := pick_lt at' 30 (by decide)
  generalize pickP at' 30 = z at *
  have hg32 := HRD.out.grp _ (List.getElem_mem hk)
  obtain ⟨G, hG⟩ : ∃ G, (ps[k].g + 1 + z) % 32 = G := ⟨_, rfl⟩
  have hGl : G < 32 := by omega
  have HGN : Hid (G ≠ ps[k].g) := by unfold Hid; omega
  have hw1 : IntKind.i64.wrap ((ps[k].g : Int) + 1) = (ps[k].g : Int) + 1 := wi64 (by omega) (by omega)
  have hw2 : IntKind.i64.wrap ((ps[k].g : Int) + 1 + (z : Int)) = (ps[k].g : Int) + 1 + (z : Int) := wi64 (by omega) (by omega)
  have hw3 : Int.tmod ((ps[k].g : Int) + 1 + (z : Int)) 32 = (G : Int) := by
    rw [Int.tmod_eq_emod_of_nonneg (by omega)]; omega
  have hw4 : IntKind.i64.wrap (G : Int) = (G : Int) := wi64 (by omega) (by omega)
  obtain ⟨hP, hGs⟩ := HLS.out.setG k hk G
  have HPI := hidMk hP
  have HGS := hidMk hGs
  have HGe := hidMk hG
  clear hP hGs hG
  go_cut [17, 22] from 23 (fun l n wc => l = .slice (some ⟨rb, 0, none⟩) ps.length pc ∧ n = .int .i64 ((7 : Nat) : Int) ∧ PIn wc wc.heap.size (some ⟨rb, 0, none⟩) (ps.set k ⟨G, ps[k].v, ps[k].b⟩) ∧ Gs (fun i => B1 ≤ i ∧ i < B2) W wc ∧ ∀ i (hi : i < ps.length), i ≠ k → ps[i].g ≠ G)
  case first =>
    go_upto_region 23 with fail
    go_cut [] from 94 to 107 (fun wx => ∃ n, wx = (W.setCell ⟨rb, k * 2, none⟩ (.int .i64 (G : Int))).drewN n)
    case first =>
      go_region_with (go_at_call 17; refine (HP3.out _).mono ?_; rintro e w' ⟨rfl, rfl⟩)
      all_goals (go_wp2_with fail; go_meet; case rel => exact ⟨_, rfl⟩)
    case rest =>
      apply_assumption
      obtain ⟨n, rfl⟩ := hcut
      obtain ⟨W1, hW1⟩ : ∃ W1, W1 = (W.setCell ⟨rb, k * 2, none⟩ (.int .i64 (G : Int))).drewN n := ⟨_, rfl⟩
      have HP1 : Hid (PIn W1 W1.heap.size (some ⟨rb, 0, none⟩) (ps.set k ⟨G, ps[k].v, ps[k].b⟩)) := by rw [Hid, hW1]; exact HPI.out.kept (below_drewN (Below.refl _ _) n)
      have HG1 : Hid (Gs (fun i => B1 ≤ i ∧ i < B2) W W1) := by rw [Hid, hW1]; exact HGS.out.trans (Gs.below (below_drewN (Below.refl _ _) n))
      rw [← hW1]
      have HB0 := hidMk (HLS.out.kept HG1.out).1.bel
      clear hW1 HPI HGS HP3 c0 c1 f0 f1 hw1 hw2 hw3 hw4
      go_wp2_with fail
      go_loopw [24] (fun i wr => ∃ j : Nat, i = .int .i64 (j : Int) ∧ j ≤ ps.length ∧ Below W1.heap.size W1 wr ∧ ∀ i (hi : i < ps.length), i < j → i ≠ k → ps[i].g ≠ G) (fun i _ => ps.length - (intOf i).toNat)
      case atStart => exact ⟨0, rfl, by omega, Below.refl _ _, fun i hi h => absurd h (by omega)⟩
      case round =>
        obtain ⟨j, rfl, hj, hbr, hno⟩ := hrel
        have HBR := hidMk hbr
        have HNO := hidMk hno
        clear hbr hno
        by_cases hlt : j < ps.length
        · have hji : (j : Int) < (ps.length : Int) := by omega
          obtain ⟨b1, o1, ea, -, f0, -⟩ := (HP1.out.kept HBR.out).row j (by rw [List.length_set]; exact hlt)
          cases ea
          obtain ⟨b2, o2, ea, -, g0, -⟩ := (HP1.out.kept HBR.out).row k (by rw [List.length_set]; exact hk)
          cases ea
          rw [List.getElem_set_self, Nat.zero_add] at g0
          rw [Nat.zero_add] at f0
          by_cases hjk : j = k
          · subst hjk
            clear f0
            go_wp2_with fail
            go_quiet (fail)
            go_wp2_with fail
            exact ⟨⟨j + 1, by go_num, by omega, below_drewN HBR.out _, fun i hi h1 h2 => HNO.out i hi (by omega) h2⟩, by simp [intOf]; omega⟩
          · rw [List.getElem_set_ne (fun e => hjk e.symm)] at f0
            have hjk' : ¬ (j : Int) = (k : Int) := by omega
            have hdj : decide ((j : Int) = (k : Int)) = false := decide_eq_false hjk'
            have HJK := hidMk hjk
            clear hjk
            by_cases hGG : ps[j].g = G
            · have hdg : (ps[j].g : Int) = (G : Int) := by omega
              rw [hdg] at f0
              clear hdg hGG
              go_wp2_with fail
              go_quiet (fail)
              go_wp2_with fail
              go_ret
              exact ⟨rfl, HB0.out.trans ((below_drewN HBR.out _).mono HB0.out.size)⟩
            · have hdg : ¬ (ps[j].g : Int) = (G : Int) := by omega
              have hde : decide ((ps[j].g : Int) = (G : Int)) = false := decide_eq_false hdg
              have HGG := hidMk hGG
              clear hGG
              go_wp2_with fail
              go_quiet (fail)
              go_wp2_with fail
              · go_ret
                exact ⟨rfl, HB0.out.trans ((below_drewN HBR.out _).mono HB0.out.size)⟩
              · exact ⟨⟨j + 1, by go_num, by omega, below_drewN HBR.out _, fun i hi h1 h2 => by
                  by_cases hij : i = j
                  · subst hij; exact HGG.out
                  · exact HNO.out i hi (by omega) h2⟩, by simp [intOf]; omega⟩
        · obtain rfl : j = ps.length := by omega
          have HZ : Hid (PIn wr wr.heap.size (some ⟨rb, 0, none⟩) (ps.set k ⟨G, ps[k].v, ps[k].b⟩) ∧ Gs (fun i => B1 ≤ i ∧ i < B2) W wr ∧ ∀ i (hi : i < ps.length), i ≠ k → ps[i].g ≠ G) := by
            refine ⟨?_, HG1.out.trans (Gs.below HBR.out), fun i hi h => HNO.out i hi hi h⟩
            have q := HP1.out.kept HBR.out
            exact ⟨fun i hi => by obtain ⟨b, o, e, l, r⟩ := q.row i hi; exact ⟨b, o, e, Nat.lt_of_lt_of_le l HBR.out.size, r⟩, fun p hp => by obtain ⟨a, c, e1, e2, e3, e4, e5⟩ := q.byt p hp; exact ⟨a, c, e1, e2, e3, e4, fun y hy => Nat.lt_of_lt_of_le (e5 y hy) HBR.out.size⟩⟩
          go_wp2_with fail
          go_meet
          case rel => exact ⟨rfl, rfl, HZ.out⟩
  case rest =>
    apply_assumption
    obtain ⟨rfl, rfl, hP, hG, hno⟩ := hcut
    have hl : ps.length = (ps.set k ⟨G, ps[k].v, ps[k].b⟩).length := (List.length_set ..).symm
    obtain ⟨q1, q2⟩ := HLS.out.kept hG
    have hne : ofG (ces ss) ps[k].g ≠ [] := fun e0 => by
      have hm : (ps[k].g, ps[k].b) ∈ saveP (ces ss) := by rw [← HLS.out.eq1]; exact List.mem_map.2 ⟨ps[k], List.getElem_mem hk, rfl⟩
      unfold saveP at hm
      obtain ⟨g', -, hg'⟩ := List.mem_filterMap.1 hm
      unfold pcs at hg'
      split at hg'
      · cases hg'
      · rename_i hne0
        have e1 := congrArg Prod.fst (Option.some.inj hg')
        simp only at e1
        rw [e1, e0] at hne0
        exact hne0 rfl
    rw [hl]
    exact loads_t3 w0 _ t mp w0.heap.size ss _ pc (ps.set k ⟨G, ps[k].v, ps[k].b⟩) k 7 (ofG (ces ss)) bb bc B2 bs q1.ps hP (by rw [← hl]; exact hk) (by rw [← hl]; omega) (by rw [set_take]; exact HRD.out.take k) (by decide) (fun V t1 m1 hV1 hV2 => fault_other hk HRD.out hGl HGN.out hno rfl hne (fun V2 hV3 => (HT.out _ (q1.bel.trans ((hV2.trans hV3).mono q1.bel.size))).1)) q2 HLS.out.eq2 (by have := HBL.out; omega) q1.bel HT.out _ _ _ _ _ _ _ _ _ _ _ _ _ _ _ _ _ _ _ _ _ _ _ _ _ _ _ _ _ _ _ _ _ _ _ _ _ _ _ _ _ _ _ _ _ _ _ _ _ _ _ _ _ _ _ _ _ _ _ _ _ _ _ _ _ _ _ _ _ _ _ _ _ _ _ _ _ _ _ _ _ _ _ _ _ _ _ _ _ _ _ _ _ _ _ _ _ _ _ _ _ _ _ _ _ _ _ _ _ _ _ _ _ _ _ _ _ _ _ _ _ _ _ _ _ _ _ _ _ _ _ _ _ _ _ _ _ _ _ _ _ _ _ _ _ _ _ _ _ _ _ _ _ _ _ _ _ _ _ _ _ _ _ _ _ _ _ _ _ _ _ _ _ _ _ _ _ _ _ _ _ _ _ _ _ _ _ _ _ _ _ _ _ _ _ _ _ _ _ _ _ _ _ _ _ _ _ _ _ _ _ _ _ _ _ _ _ _ _ _ _ _ _ _ _ _ _ _ _ _ _ _ _ _ _ _ _ _ _ _ _ _ _
end Go.Proofs.YtobhccmnlmlapaaGreatDoor
namespace Go.Proofs.YtobhccmnlmlapaaGreatDoor
open Go.RowKit Go.Maps
set_option linter.unusedVariables false
set_option linter.unusedSimpArgs false
set_option maxRecDepth 100000
/-- From region 19 on, in each case. -/
theorem loads_c (w0 W : World) (B1 B2 t mp s : Nat) (ss : List Sh) (u : Value) (qs : List Cx) (pb : Option Addr) (pc : Nat) (ps : List Pc) (bb : Option Addr) (bc : Nat) (bs : List Pc) (wh ho at' : Int) (h : LS w0 W B1 B2 t mp s ss u qs pb pc ps bb bc bs) (hwh : -9223372036854775808 ≤ wh ∧ wh ≤ 9223372036854775807) (hho : -9223372036854775808 ≤ ho ∧ ho ≤ 9223372036854775807) (hat : -9223372036854775808 ≤ at' ∧ at' ≤ 9223372036854775807) (ht : ∀ W, Below w0.heap.size w0 W → Vl.Tab W ∧ Wr.Quart W ∧ Wr.Ety W)
    (x0 x4 x5 x6 x7 x8 x10 x12 x13 x14 x15 x16 x19 x20 x21 x22 x23 x24 x25 x26 x27 x28 x29 x30 x31 x32 x33 x34 x35 x36 x37 x38 x39 x40 x41 x42 x43 x44 x45 x46 x47 x48 x49 x50 x51 x52 x53 x54 x55 x56 x57 x58 x59 x60 x61 x62 x63 x64 x65 x66 x67 x68 x69 x70 x71 x72 x73 x74 x75 x76 x77 x78 x79 x80 x81 x82 x83 x84 x85 x86 x87 x88 x89 x90 x91 x92 x93 x94 x95 x96 x97 x98 x99 x100 x101 x102 x103 x104 x105 x106 x107 x108 x109 x110 x111 x112 x113 x114 x115 x116 x117 x118 x119 x120 x121 x122 x123 x124 x125 x126 x127 x128 x129 x130 x131 x132 x133 x134 x135 x136 x137 x138 x139 x140 x141 x142 x143 x144 x145 x146 x147 x148 x149 x150 x151 x152 x153 x154 x155 x156 x157 x158 x159 x160 x161 x162 x163 x164 x165 x166 x167 x168 x169 x170 x171 x172 x173 x174 x175 x176 x177 x178 x179 x180 x181 x182 x183 x184 x185 x186 x187 x188 x189 x190 x191 x192 x193 x194 x195 x196 x197 x198 x199 x200 x201 x202 x203 x204 x205 x206 x207 x208 x209 x210 x211 x212 x213 x214 x215 x216 x217 x218 x219 x220 x221 x222 x223 x224 x225 x226 x227 x228 x229 x230 x231 x232 x233 x234 x235 x236 x237 x238 x239 x240 x241 x242 x243 x244 x245 x246 : Value) :
    Code.wp Tryz.prog (ldPart 19) (bodyPost Tryz.prog Tryz.f5 fun e w' => e = .returned (.bool true) ∧ Below w0.heap.size w0 w') { tmps := List.toArray (x0 :: (.int .i64 wh) :: (.int .i64 ho) :: (.int .i64 at') :: x4 :: x5 :: x6 :: x7 :: x8 :: (.pointer (some ⟨t, 0, none⟩)) :: x10 :: (.pointer (some ⟨s, 0, none⟩)) :: x12 :: x13 :: x14 :: x15 :: x16 :: (.slice pb ps.length pc) :: (.slice bb bs.length bc) :: x19 :: x20 :: x21 :: x22 :: x23 :: x24 :: x25 :: x26 :: x27 :: x28 :: x29 :: x30 :: x31 :: x32 :: x33 :: x34 :: x35 :: x36 :: x37 :: x38 :: x39 :: x40 :: x41 :: x42 :: x43 :: x44 :: x45 :: x46 :: x47 :: x48 :: x49 :: x50 :: x51 :: x52 :: x53 :: x54 :: x55 :: x56 :: x57 :: x58 :: x59 :: x60 :: x61 :: x62 :: x63 :: x64 :: x65 :: x66 :: x67 :: x68 :: x69 :: x70 :: x71 :: x72 :: x73 :: x74 :: x75 :: x76 :: x77 :: x78 :: x79 :: x80 :: x81 :: x82 :: x83 :: x84 :: x85 :: x86 :: x87 :: x88 :: x89 :: x90 :: x91 :: x92 :: x93 :: x94 :: x95 :: x96 :: x97 :: x98 :: x99 :: x100 :: x101 :: x102 :: x103 :: x104 :: x105 :: x106 :: x107 :: x108 :: x109 :: x110 :: x111 :: x112 :: x113 :: x114 :: x115 :: x116 :: x117 :: x118 :: x119 :: x120 :: x121 :: x122 :: x123 :: x124 :: x125 :: x126 :: x127 :: x128 :: x129 :: x130 :: x131 :: x132 :: x133 :: x134 :: x135 :: x136 :: x137 :: x138 :: x139 :: x140 :: x141 :: x142 :: x143 :: x144 :: x145 :: x146 :: x147 :: x148 :: x149 :: x150 :: x151 :: x152 :: x153 :: x154 :: x155 :: x156 :: x157 :: x158 :: x159 :: x160 :: x161 :: x162 :: x163 :: x164 :: x165 :: x166 :: x167 :: x168 :: x169 :: x170 :: x171 :: x172 :: x173 :: x174 :: x175 :: x176 :: x177 :: x178 :: x179 :: x180 :: x181 :: x182 :: x183 :: x184 :: x185 :: x186 :: x187 :: x188 :: x189 :: x190 :: x191 :: x192 :: x193 :: x194 :: x195 :: x196 :: x197 :: x198 :: x199 :: x200 :: x201 :: x202 :: x203 :: x204 :: x205 :: x206 :: x207 :: x208 :: x209 :: x210 :: x211 :: x212 :: x213 :: x214 :: x215 :: x216 :: x217 :: x218 :: x219 :: x220 :: x221 :: x222 :: x223 :: x224 :: x225 :: x226 :: x227 :: x228 :: x229 :: x230 :: x231 :: x232 :: x233 :: x234 :: x235 :: x236 :: x237 :: x238 :: x239 :: x240 :: x241 :: x242 :: x243 :: x244 :: x245 :: x246 :: []), defers := [] } W := by
  have hlt := pick_lt ho 7 (by decide)
  have h7 : pickP ho 7 = 0 ∨ pickP ho 7 = 1 ∨ pickP ho 7 = 2 ∨ pickP ho 7 = 3 ∨ pickP ho 7 = 4 ∨ pickP ho 7 = 5 ∨ pickP ho 7 = 6 := by omega
  rcases h7 with e | e | e | e | e | e | e
  · exact loads_c0 w0 W B1 B2 t mp s ss u qs pb pc ps bb bc bs wh ho at' h hwh hho hat e ht _ _ _ _ _ _ _ _ _ _ _ _ _ _ _ _ _ _ _ _ _ _ _ _ _ _ _ _ _ _ _ _ _ _ _ _ _ _ _ _ _ _ _ _ _ _ _ _ _ _ _ _ _ _ _ _ _ _ _ _ _ _ _ _ _ _ _ _ _ _ _ _ _ _ _ _ _ _ _ _ _ _ _ _ _ _ _ _ _ _ _ _ _ _ _ _ _ _ _ _ _ _ _ _ _ _ _ _ _ _ _ _ _ _ _ _ _ _ _ _ _ _ _ _ _ _ _ _ _ _ _ _ _ _ _ _ _ _ _ _ _ _ _ _ _ _ _ _ _ _ _ _ _ _ _ _ _ _ _ _ _ _ _ _ _ _ _ _ _ _ _ _ _ _ _ _ _ _ _ _ _ _ _ _ _ _ _ _ _ _ _ _ _ _ _ _ _ _ _ _ _ _ _ _ _ _ _ _ _ _ _ _ _ _ _ _ _ _ _ _ _ _ _ _ _ _ _ _ _ _ _ _ _ _ _ _ _ _ _ _
  · exact loads_c1 w0 W B1 B2 t mp s ss u qs pb pc ps bb bc bs wh ho at' h hwh hho hat e ht _ _ _ _ _ _ _ _ _ _ _ _ _ _ _ _ _ _ _ _ _ _ _ _ _ _ _ _ _ _ _ _ _ _ _ _ _ _ _ _ _ _ _ _ _ _ _ _ _ _ _ _ _ _ _ _ _ _ _ _ _ _ _ _ _ _ _ _ _ _ _ _ _ _ _ _ _ _ _ _ _ _ _ _ _ _ _ _ _ _ _ _ _ _ _ _ _ _ _ _ _ _ _ _ _ _ _ _ _ _ _ _ _ _ _ _ _ _ _ _ _ _ _ _ _ _ _ _ _ _ _ _ _ _ _ _ _ _ _ _ _ _ _ _ _ _ _ _ _ _ _ _ _ _ _ _ _ _ _ _ _ _ _ _ _ _ _ _ _ _ _ _ _ _ _ _ _ _ _ _ _ _ _ _ _ _ _ _ _ _ _ _ _ _ _ _ _ _ _ _ _ _ _ _ _ _ _ _ _ _ _ _ _ _ _ _ _ _ _ _ _ _ _ _ _ _ _ _ _ _ _ _ _ _ _ _ _ _ _ _
  · exact loads_c2 w0 W B1 B2 t mp s ss u qs pb pc ps bb bc bs wh ho at' h hwh hho hat e ht _ _ _ _ _ _ _ _ _ _ _ _ _ _ _ _ _ _ _ _ _ _ _ _ _ _ _ _ _ _ _ _ _ _ _ _ _ _ _ _ _ _ _ _ _ _ _ _ _ _ _ _ _ _ _ _ _ _ _ _ _ _ _ _ _ _ _ _ _ _ _ _ _ _ _ _ _ _ _ _ _ _ _ _ _ _ _ _ _ _ _ _ _ _ _ _ _ _ _ _ _ _ _ _ _ _ _ _ _ _ _ _ _ _ _ _ _ _ _ _ _ _ _ _ _ _ _ _ _ _ _ _ _ _ _ _ _ _ _ _ _ _ _ _ _ _ _ _ _ _ _ _ _ _ _ _ _ _ _ _ _ _ _ _ _ _ _ _ _ _ _ _ _ _ _ _ _ _ _ _ _ _ _ _ _ _ _ _ _ _ _ _ _ _ _ _ _ _ _ _ _ _ _ _ _ _ _ _ _ _ _ _ _ _ _ _ _ _ _ _ _ _ _ _ _ _ _ _ _ _ _ _ _ _ _ _ _ _ _ _
  · exact loads_c3 w0 W B1 B2 t mp s ss u qs pb pc ps bb bc bs wh ho at' h hwh hho hat e ht _ _ _ _ _ _ _ _ _ _ _ _ _ _ _ _ _ _ _ _ _ _ _ _ _ _ _ _ _ _ _ _ _ _ _ _ _ _ _ _ _ _ _ _ _ _ _ _ _ _ _ _ _ _ _ _ _ _ _ _ _ _ _ _ _ _ _ _ _ _ _ _ _ _ _ _ _ _ _ _ _ _ _ _ _ _ _ _ _ _ _ _ _ _ _ _ _ _ _ _ _ _ _ _ _ _ _ _ _ _ _ _ _ _ _ _ _ _ _ _ _ _ _ _ _ _ _ _ _ _ _ _ _ _ _ _ _ _ _ _ _ _ _ _ _ _ _ _ _ _ _ _ _ _ _ _ _ _ _ _ _ _ _ _ _ _ _ _ _ _ _ _ _ _ _ _ _ _ _ _ _ _ _ _ _ _ _ _ _ _ _ _ _ _ _ _ _ _ _ _ _ _ _ _ _ _ _ _ _ _ _ _ _ _ _ _ _ _ _ _ _ _ _ _ _ _ _ _ _ _ _ _ _ _ _ _ _ _ _ _
  · exact loads_c4 w0 W B1 B2 t mp s ss u qs pb pc ps bb bc bs wh ho at' h hwh hho hat e ht _ _ _ _ _ _ _ _ _ _ _ _ _ _ _ _ _ _ _ _ _ _ _ _ _ _ _ _ _ _ _ _ _ _ _ _ _ _ _ _ _ _ _ _ _ _ _ _ _ _ _ _ _ _ _ _ _ _ _ _ _ _ _ _ _ _ _ _ _ _ _ _ _ _ _ _ _ _ _ _ _ _ _ _ _ _ _ _ _ _ _ _ _ _ _ _ _ _ _ _ _ _ _ _ _ _ _ _ _ _ _ _ _ _ _ _ _ _ _ _ _ _ _ _ _ _ _ _ _ _ _ _ _ _ _ _ _ _ _ _ _ _ _ _ _ _ _ _ _ _ _ _ _ _ _ _ _ _ _ _ _ _ _ _ _ _ _ _ _ _ _ _ _ _ _ _ _ _ _ _ _ _ _ _ _ _ _ _ _ _ _ _ _ _ _ _ _ _ _ _ _ _ _ _ _ _ _ _ _ _ _ _ _ _ _ _ _ _ _ _ _ _ _ _ _ _ _ _ _ _ _ _ _ _ _ _ _ _ _ _
  · exact loads_c5 w0 W B1 B2 t mp s ss u qs pb pc ps bb bc bs wh ho at' h hwh hho hat e ht _ _ _ _ _ _ _ _ _ _ _ _ _ _ _ _ _ _ _ _ _ _ _ _ _ _ _ _ _ _ _ _ _ _ _ _ _ _ _ _ _ _ _ _ _ _ _ _ _ _ _ _ _ _ _ _ _ _ _ _ _ _ _ _ _ _ _ _ _ _ _ _ _ _ _ _ _ _ _ _ _ _ _ _ _ _ _ _ _ _ _ _ _ _ _ _ _ _ _ _ _ _ _ _ _ _ _ _ _ _ _ _ _ _ _ _ _ _ _ _ _ _ _ _ _ _ _ _ _ _ _ _ _ _ _ _ _ _ _ _ _ _ _ _ _ _ _ _ _ _ _ _ _ _ _ _ _ _ _ _ _ _ _ _ _ _ _ _ _ _ _ _ _ _ _ _ _ _ _ _ _ _ _ _ _ _ _ _ _ _ _ _ _ _ _ _ _ _ _ _ _ _ _ _ _ _ _ _ _ _ _ _ _ _ _ _ _ _ _ _ _ _ _ _ _ _ _ _ _ _ _ _ _ _ _ _ _ _ _ _
  · exact loads_c6 w0 W B1 B2 t mp s ss u qs pb pc ps bb bc bs wh ho at' h hwh hho hat e ht _ _ _ _ _ _ _ _ _ _ _ _ _ _ _ _ _ _ _ _ _ _ _ _ _ _ _ _ _ _ _ _ _ _ _ _ _ _ _ _ _ _ _ _ _ _ _ _ _ _ _ _ _ _ _ _ _ _ _ _ _ _ _ _ _ _ _ _ _ _ _ _ _ _ _ _ _ _ _ _ _ _ _ _ _ _ _ _ _ _ _ _ _ _ _ _ _ _ _ _ _ _ _ _ _ _ _ _ _ _ _ _ _ _ _ _ _ _ _ _ _ _ _ _ _ _ _ _ _ _ _ _ _ _ _ _ _ _ _ _ _ _ _ _ _ _ _ _ _ _ _ _ _ _ _ _ _ _ _ _ _ _ _ _ _ _ _ _ _ _ _ _ _ _ _ _ _ _ _ _ _ _ _ _ _ _ _ _ _ _ _ _ _ _ _ _ _ _ _ _ _ _ _ _ _ _ _ _ _ _ _ _ _ _ _ _ _ _ _ _ _ _ _ _ _ _ _ _ _ _ _ _ _ _ _ _ _ _ _ _
end Go.Proofs.YtobhccmnlmlapaaGreatDoor
namespace Go.Proofs.YtobhccmnlmlapaaGreatDoor
open Go.RowKit Go.Maps
set_option linter.unusedVariables false
set_option linter.unusedSimpArgs false
set_option maxRecDepth 100000
set_option maxHeartbeats 8000000 in
/-- From the first Save on. -/
theorem loads_h (w0 W : World) (t mp s : Nat) (ss : List Sh) (u : Value) (qs : List Cx) (wh ho at' : Int) (h : SI w0 W t mp s 0 32 ss u qs) (hwh : -9223372036854775808 ≤ wh ∧ wh ≤ 9223372036854775807) (hho : -9223372036854775808 ≤ ho ∧ ho ≤ 9223372036854775807) (hat : -9223372036854775808 ≤ at' ∧ at' ≤ 9223372036854775807) (ht : ∀ W, Below w0.heap.size w0 W → Vl.Tab W ∧ Wr.Quart W ∧ Wr.Ety W)
    (x0 x4 x5 x6 x7 x8 x10 x12 x13 x14 x15 x16 x17 x18 x19 x20 x21 x22 x23 x24 x25 x26 x27 x28 x29 x30 x31 x32 x33 x34 x35 x36 x37 x38 x39 x40 x41 x42 x43 x44 x45 x46 x47 x48 x49 x50 x51 x52 x53 x54 x55 x56 x57 x58 x59 x60 x61 x62 x63 x64 x65 x66 x67 x68 x69 x70 x71 x72 x73 x74 x75 x76 x77 x78 x79 x80 x81 x82 x83 x84 x85 x86 x87 x88 x89 x90 x91 x92 x93 x94 x95 x96 x97 x98 x99 x100 x101 x102 x103 x104 x105 x106 x107 x108 x109 x110 x111 x112 x113 x114 x115 x116 x117 x118 x119 x120 x121 x122 x123 x124 x125 x126 x127 x128 x129 x130 x131 x132 x133 x134 x135 x136 x137 x138 x139 x140 x141 x142 x143 x144 x145 x146 x147 x148 x149 x150 x151 x152 x153 x154 x155 x156 x157 x158 x159 x160 x161 x162 x163 x164 x165 x166 x167 x168 x169 x170 x171 x172 x173 x174 x175 x176 x177 x178 x179 x180 x181 x182 x183 x184 x185 x186 x187 x188 x189 x190 x191 x192 x193 x194 x195 x196 x197 x198 x199 x200 x201 x202 x203 x204 x205 x206 x207 x208 x209 x210 x211 x212 x213 x214 x215 x216 x217 x218 x219 x220 x221 x222 x223 x224 x225 x226 x227 x228 x229 x230 x231 x232 x233 x234 x235 x236 x237 x238 x239 x240 x241 x242 x243 x244 x245 x246 : Value) :
    Code.wp Tryz.prog (ldPart 14) (bodyPost Tryz.prog Tryz.f5 fun e w' => e = .returned (.bool true) ∧ Below w0.heap.size w0 w') { tmps := List.toArray (x0 :: (.int .i64 wh) :: (.int .i64 ho) :: (.int .i64 at') :: x4 :: x5 :: x6 :: x7 :: x8 :: (.pointer (some ⟨t, 0, none⟩)) :: x10 :: (.pointer (some ⟨s, 0, none⟩)) :: x12 :: x13 :: x14 :: x15 :: x16 :: x17 :: x18 :: x19 :: x20 :: x21 :: x22 :: x23 :: x24 :: x25 :: x26 :: x27 :: x28 :: x29 :: x30 :: x31 :: x32 :: x33 :: x34 :: x35 :: x36 :: x37 :: x38 :: x39 :: x40 :: x41 :: x42 :: x43 :: x44 :: x45 :: x46 :: x47 :: x48 :: x49 :: x50 :: x51 :: x52 :: x53 :: x54 :: x55 :: x56 :: x57 :: x58 :: x59 :: x60 :: x61 :: x62 :: x63 :: x64 :: x65 :: x66 :: x67 :: x68 :: x69 :: x70 :: x71 :: x72 :: x73 :: x74 :: x75 :: x76 :: x77 :: x78 :: x79 :: x80 :: x81 :: x82 :: x83 :: x84 :: x85 :: x86 :: x87 :: x88 :: x89 :: x90 :: x91 :: x92 :: x93 :: x94 :: x95 :: x96 :: x97 :: x98 :: x99 :: x100 :: x101 :: x102 :: x103 :: x104 :: x105 :: x106 :: x107 :: x108 :: x109 :: x110 :: x111 :: x112 :: x113 :: x114 :: x115 :: x116 :: x117 :: x118 :: x119 :: x120 :: x121 :: x122 :: x123 :: x124 :: x125 :: x126 :: x127 :: x128 :: x129 :: x130 :: x131 :: x132 :: x133 :: x134 :: x135 :: x136 :: x137 :: x138 :: x139 :: x140 :: x141 :: x142 :: x143 :: x144 :: x145 :: x146 :: x147 :: x148 :: x149 :: x150 :: x151 :: x152 :: x153 :: x154 :: x155 :: x156 :: x157 :: x158 :: x159 :: x160 :: x161 :: x162 :: x163 :: x164 :: x165 :: x166 :: x167 :: x168 :: x169 :: x170 :: x171 :: x172 :: x173 :: x174 :: x175 :: x176 :: x177 :: x178 :: x179 :: x180 :: x181 :: x182 :: x183 :: x184 :: x185 :: x186 :: x187 :: x188 :: x189 :: x190 :: x191 :: x192 :: x193 :: x194 :: x195 :: x196 :: x197 :: x198 :: x199 :: x200 :: x201 :: x202 :: x203 :: x204 :: x205 :: x206 :: x207 :: x208 :: x209 :: x210 :: x211 :: x212 :: x213 :: x214 :: x215 :: x216 :: x217 :: x218 :: x219 :: x220 :: x221 :: x222 :: x223 :: x224 :: x225 :: x226 :: x227 :: x228 :: x229 :: x230 :: x231 :: x232 :: x233 :: x234 :: x235 :: x236 :: x237 :: x238 :: x239 :: x240 :: x241 :: x242 :: x243 :: x244 :: x245 :: x246 :: []), defers := [] } W := by
  have HS := hidMk h
  have HT := hidMk ht
  have HR := hidMk (And.intro hwh (And.intro hho hat))
  have HSV : Hid (∀ V, Below W.heap.size W V → _) := fun V hV => save_any V w0.heap.size t mp 0 32 ss (HS.out.later hV).ps (HT.out _ (HS.out.later hV).bel).1 (HT.out _ (HS.out.later hV).bel).2.1
  clear h ht hwh hho hat
  conv => arg 2; whnf
  go_wp2_with fail
  refine (HSV.out W (Below.refl _ _)).mono ?_
  rintro e w5 ⟨u5, ps, rfl, o5, e5, b5⟩
  obtain ⟨pb, pc, hu5, -⟩ := o5.pin
  subst hu5
  have HO5 := hidMk o5
  have HE5 := hidMk e5
  have HB5 := hidMk b5
  clear o5 e5 b5
  go_upto_region 15 with fail
  go_cut [18] from 19 (fun u6 w6 => ∃ bb bc bs, u6 = .slice bb bs.length bc ∧ OPc w6 w5.heap.size (.slice bb bs.length bc) bs ∧ bs.map (fun p => (p.g, p.b)) = saveP (ces ss) ∧ Below w5.heap.size w5 w6)
  case first =>
    go_wp2_with fail
    refine (HSV.out w5 HB5.out).mono ?_
    rintro e w6 ⟨u6, bs, rfl, o6, e6, b6⟩
    obtain ⟨bb, bc, hu6, -⟩ := o6.pin
    subst hu6
    have HZ : Hid (∃ bb' bc' bs', Value.slice bb bs.length bc = .slice bb' bs'.length bc' ∧ OPc w6 w5.heap.size (.slice bb' bs'.length bc') bs' ∧ bs'.map (fun p => (p.g, p.b)) = saveP (ces ss) ∧ Below w5.heap.size w5 w6) := ⟨bb, bc, bs, rfl, o6, e6, b6⟩
    clear o6 e6 b6
    go_wp2_with fail
    go_meet
    case rel => exact HZ.out
  case rest =>
    apply_assumption
    obtain ⟨bb, bc, bs, rfl, o6, e6, b6⟩ := hcut
    have hls : 0 < ps.length → LS w0 wc W.heap.size w5.heap.size t mp s ss u qs pb pc ps bb bc bs := fun hp =>
      ⟨HS.out.later (HB5.out.trans (b6.mono HB5.out.size)), fun i hi => (HS.out.lt hi).2, HO5.out.later b6, fun i hi => by
        rcases hi with e | ⟨p, hp', e⟩
        · exact (World.ownsRow.lt HO5.out.own i e).2
        · exact (World.ownsRow.lt (HO5.out.byt p hp') i e).2, o6, ⟨HS.out.bel.size, HB5.out.size, b6.size⟩, HE5.out, e6, hp⟩
    have HLS := hidMk hls
    have HB6 := hidMk (HS.out.later (HB5.out.trans (b6.mono HB5.out.size))).bel
    have HPS := hidMk (HS.out.later (HB5.out.trans (b6.mono HB5.out.size))).ps
    have HEM : Hid (ps.length = 0 → ces ss = [] ∨ True) := fun _ => .inr trivial
    clear hls o6 e6 b6
    go_upto_if 78 with fail
    go_cut [] from 19 (fun wx => wx = wc ∧ 0 < ps.length)
    case first =>
      by_cases h0 : ps.length = 0
      · rw [h0]
        have HL : Hid (Calls Tryz.prog 12 #[.pointer (some ⟨t, 0, none⟩), .slice none 0 0] wc fun e w' => e = .returned .nilIface ∧ LoadFin wc w0.heap.size t 0 32 (accP 0 32 (fun _ => []) []) w') := load_ok wc w0.heap.size t mp 0 32 ss none 0 (fun _ => []) [] HPS.out ⟨(fun i hi => by simp at hi), (fun p hp => by cases hp)⟩ ⟨(fun p hp => by cases hp), by simp, (fun p hp => by cases hp), (fun p hp => by cases hp), (fun p hp => by cases hp), by simp [accP, wt]⟩ (fun V hV => ⟨(HT.out V (HB6.out.trans (hV.mono HB6.out.size))).1, (HT.out V (HB6.out.trans (hV.mono HB6.out.size))).2.1⟩)
        go_wp2_with fail
        refine HL.out.mono ?_
        rintro e w7 ⟨rfl, hf⟩
        unfold LoadFin at hf
        obtain ⟨mp7, ss7, -, -, g7, -⟩ := hf
        have HB7 := hidMk (HB6.out.trans (g7.toBelow HB6.out.size (fun i hi => by cases hi; exact (HPS.out.lt (.inl (.inl rfl))).1)))
        clear g7 HL
        go_wp2_with fail
        go_ret
        exact ⟨rfl, HB7.out⟩
      · have hp : ¬ (ps.length : Int) = 0 := by omega
        have hp' : 0 < ps.length := by omega
        go_wp2_with fail
        go_meet
        case rel => exact ⟨rfl, hp'⟩
    case rest =>
      apply_assumption
      obtain ⟨rfl, hp⟩ := hcut
      exact loads_c w0 _ W.heap.size w5.heap.size t mp s ss u qs pb pc ps bb bc bs wh ho at' (HLS.out hp) HR.out.1 HR.out.2.1 HR.out.2.2 HT.out _ _ _ _ _ _ _ _ _ _ _ _ _ _ _ _ _ _ _ _ _ _ _ _ _ _ _ _ _ _ _ _ _ _ _ _ _ _ _ _ _ _ _ _ _ _ _ _ _ _ _ _ _ _ _ _ _ _ _ _ _ _ _ _ _ _ _ _ _ _ _ _ _ _ _ _ _ _ _ _ _ _ _ _ _ _ _ _ _ _ _ _ _ _ _ _ _ _ _ _ _ _ _ _ _ _ _ _ _ _ _ _ _ _ _ _ _ _ _ _ _ _ _ _ _ _ _ _ _ _ _ _ _ _ _ _ _ _ _ _ _ _ _ _ _ _ _ _ _ _ _ _ _ _ _ _ _ _ _ _ _ _ _ _ _ _ _ _ _ _ _ _ _ _ _ _ _ _ _ _ _ _ _ _ _ _ _ _ _ _ _ _ _ _ _ _ _ _ _ _ _ _ _ _ _ _ _ _ _ _ _ _ _ _ _ _ _ _ _ _ _ _ _ _ _ _ _ _ _ _ _ _ _ _ _ _ _ _ _ _
end Go.Proofs.YtobhccmnlmlapaaGreatDoor
namespace Go.Proofs.YtobhccmnlmlapaaGreatDoor
open Go.RowKit Go.Maps
set_option linter.unusedVariables false
set_option linter.unusedSimpArgs false
set_option maxRecDepth 100000
set_option maxHeartbeats 8000000 in
/-- The law. -/
theorem loads_walk (xs : List Ox) (sa : Option Addr) (cap : Nat) (wh ho at' : Int) (w0 : World) (hO : OLies w0 w0.heap.size sa xs) (hle : xs.length ≤ 1099511627776) (hwh : -9223372036854775808 ≤ wh ∧ wh ≤ 9223372036854775807) (hho : -9223372036854775808 ≤ ho ∧ ho ≤ 9223372036854775807) (hat : -9223372036854775808 ≤ at' ∧ at' ≤ 9223372036854775807) (ht : ∀ V, Below w0.heap.size w0 V → Vl.Tab V ∧ Wr.Quart V ∧ Wr.Ety V) :
    Calls Tryz.prog 5 #[.slice sa xs.length cap, .int .i64 wh, .int .i64 ho, .int .i64 at'] w0 fun e w' => e = .returned (.bool true) ∧ Below w0.heap.size w0 w' := by
  have HO := hidMk hO
  have HT := hidMk ht
  have HR := hidMk (And.intro hwh (And.intro hho hat))
  have HN := hidMk (new_ok 0 32 w0 ⟨by decide, by decide, by decide⟩)
  clear hO ht hwh hho hat
  go_enter Tryz.func5, Tryz.ntmps5
  go_wp2_with fail
  refine HN.out.mono ?_
  rintro e w2 ⟨t, mp, rfl, hp, b1⟩
  have HP := hidMk hp
  have HB1 := hidMk b1
  clear hp b1 HN
  have HSI : Hid (SI w0 (w2.alloc (.cells #[.int .i64 0, .int .i64 32, .slice none 0 0] 33)) t mp w2.heap.size 0 32 [] (.slice none 0 0) []) := by
    have bl := bel1 w2 (.cells #[.int .i64 0, .int .i64 32, .slice none 0 0] 33)
    refine ⟨HP.out.later bl, ⟨Own.new w2 33 3 #[.int .i64 0, .int .i64 32, .slice none 0 0] rfl, ⟨World.ownsRow_nil _ _ _ _, (fun q hq => by cases hq), (fun q hq => by cases hq)⟩, HB1.out.size⟩, ⟨(fun q hq => by cases hq), by simp [wt]⟩, (List.perm_nil.1 (srt_perm [])).symm, fun i hi hd => ?_, HB1.out.alloc HB1.out.size _⟩
    have q := (HP.out.lt hi).2
    rcases hd with e | e | ⟨q, hq, -⟩
    · omega
    · cases e
    · cases hq
  go_upto_block 0 with fail
  generalize w2.alloc (.cells #[.int .i64 0, .int .i64 32, .slice none 0 0] 33) = W1 at *
  generalize w2.heap.size = s at *
  go_cut [] from 12 (fun wc => ∃ ss u qs, SI w0 wc t mp s 0 32 ss u qs)
  case first =>
    go_wp2_with fail
    go_loopg [12] xs.length (fun gk i wr => ∃ j : Nat, gk + j = xs.length ∧ i = .int .i64 j ∧ ∃ ss u qs, SI w0 wr t mp s 0 32 ss u qs)
    case atStart => exact ⟨0, by omega, rfl, [], _, [], HSI.out⟩
    case round =>
      obtain ⟨j, hgk, rfl, ss, u, qs, hsi⟩ := hrel
      have HS1 := hidMk hsi
      clear hsi
      by_cases hj : j < xs.length
      · have hj' : (j : Int) < (xs.length : Int) := by omega
        have hO1 := HO.out.kept HS1.out.bel
        obtain ⟨b, off, ea, -, c0, c1, c2, c3, c4, c5⟩ := hO1.row j hj
        subst ea
        have HE := hidMk (hO1.ent xs[j] (List.getElem_mem hj))
        generalize xs[j] = o at *
        clear hO1
        have HBX := hidMk (bel1 wr (.cells #[.int .i64 o.kd, .slice o.ka o.key.length o.kc, .int .i64 o.wn.f, .int .i64 o.wn.t, .slice o.da o.d.length o.dc, .int .i64 o.tm] 41))
        have HOX := hidMk (Own.new wr 41 6 #[.int .i64 o.kd, .slice o.ka o.key.length o.kc, .int .i64 o.wn.f, .int .i64 o.wn.t, .slice o.da o.d.length o.dc, .int .i64 o.tm] rfl)
        have HPU := hidMk (puts_any w0 _ t mp s 0 32 ss u qs o (HS1.out.later HBX.out) (HE.out.kept (HBX.out.mono HS1.out.bel.size)) HT.out)
        have HNB : Hid (¬ Bl t mp ss wr.heap.size) := fun hb => by have := (HS1.out.lt (.inl hb)).2; omega
        go_wp2_with fail
        refine HPU.out.mono ?_
        rintro e w5 ⟨n, rfl, b5, l5, k5, hdp⟩
        have x1 := k5 _ _ _ HNB.out (HOX.out.cell 1 (by decide))
        have x2 := k5 _ _ _ HNB.out (HOX.out.cell 2 (by decide))
        have x3 := k5 _ _ _ HNB.out (HOX.out.cell 3 (by decide))
        have x4 := k5 _ _ _ HNB.out (HOX.out.cell 4 (by decide))
        have HTD := hidMk (Wr.told_any n w5 (HT.out _ b5).2.2)
        have HDP := hidMk hdp
        clear k5 hdp HPU HOX HBX b5 l5 c0 c1 c2 c3 c4 c5
        generalize Wr.errV n = ev at *
        go_wp2_with fail
        refine HTD.out.mono ?_
        rintro e w6 ⟨rfl, b6⟩
        replace x1 := cell_later b6 x1
        replace x2 := cell_later b6 x2
        replace x3 := cell_later b6 x3
        replace x4 := cell_later b6 x4
        have HDQ := hidMk (HDP.out w6 b6)
        clear b6 HTD HDP
        go_wp2_with fail
        refine HDQ.out.mono ?_
        rintro e w7 ⟨rfl, ss', u', qs', h7⟩
        have H7 := hidMk h7
        clear h7 HDQ x1 x2 x3 x4
        go_wp2_with fail
        go_roundg (gk - 1)
        case measure => omega
        case rel => exact ⟨j + 1, by omega, by go_num, ss', u', qs', H7.out⟩
      · have hj' : ¬ (j : Int) < (xs.length : Int) := by omega
        go_wp2_with fail
        go_meet
        case rel => exact ⟨ss, u, qs, HS1.out⟩
  case rest =>
    apply_assumption
    obtain ⟨ss, u, qs, h⟩ := hcut
    exact loads_h w0 _ t mp s ss u qs wh ho at' h HR.out.1 HR.out.2.1 HR.out.2.2 HT.out _ _ _ _ _ _ _ _ _ _ _ _ _ _ _ _ _ _ _ _ _ _ _ _ _ _ _ _ _ _ _ _ _ _ _ _ _ _ _ _ _ _ _ _ _ _ _ _ _ _ _ _ _ _ _ _ _ _ _ _ _ _ _ _ _ _ _ _ _ _ _ _ _ _ _ _ _ _ _ _ _ _ _ _ _ _ _ _ _ _ _ _ _ _ _ _ _ _ _ _ _ _ _ _ _ _ _ _ _ _ _ _ _ _ _ _ _ _ _ _ _ _ _ _ _ _ _ _ _ _ _ _ _ _ _ _ _ _ _ _ _ _ _ _ _ _ _ _ _ _ _ _ _ _ _ _ _ _ _ _ _ _ _ _ _ _ _ _ _ _ _ _ _ _ _ _ _ _ _ _ _ _ _ _ _ _ _ _ _ _ _ _ _ _ _ _ _ _ _ _ _ _ _ _ _ _ _ _ _ _ _ _ _ _ _ _ _ _ _ _ _ _ _ _ _ _ _ _ _ _ _ _ _ _ _ _ _ _ _ _ _ _
end Go.Proofs.YtobhccmnlmlapaaGreatDoor
namespace Go.Proofs.YtobhccmnlmlapaaGreatDoor
open Go.ChangeShapes Go.WideShapes Go.ChangeAt Go.RowKit
open Go.Deep Go.Joins
set_option linter.unusedVariables false
set_option maxRecDepth 100000

theorem cells29 : Tryz.prog.cellsOf 169 = 1 := by kernel_rfl
theorem cells63 : Tryz.prog.cellsOf 196 = 16 := by kernel_rfl
theorem gQ : Tryz.prog.globalNamed "streamwright/wire.quarters" = some 1 := by kernel_rfl
theorem gQType : (Tryz.prog.globals[1]?).map (·.type) = some 196 := by kernel_rfl
theorem under63 : Tryz.prog.underlying 196 = some (.array 16 169) := by kernel_rfl
theorem gE : Tryz.prog.globalNamed "errors.errorType" = some 0 := by kernel_rfl
theorem rtyp : (Tryz.prog.cutTypes.find? (·.1 == "internal/reflectlite.rtype")).map (·.2) = some 148 := by kernel_rfl
theorem oneRow : ((List.range 269).filter fun t => Tryz.prog.rowNamed t [101, 114, 114, 111, 114]) = [25] := by kernel_rfl
theorem nTypes : Tryz.prog.types.size = 269 := by kernel_rfl
theorem cellsU64 : Tryz.prog.cellsOf 94 = 1 := by kernel_rfl
theorem cellsPow : Tryz.prog.cellsOf 237 = 20 := by kernel_rfl
theorem gPow : Tryz.prog.globalNamed "internal/strconv.uint64pow10" = some 2 := by kernel_rfl
theorem gPowType : (Tryz.prog.globals[2]?).map (·.type) = some 237 := by kernel_rfl
theorem powTab {W : World} {l : List (String × DataW Unit)} (h : laidMetH Tryz.prog l W) (e : l.filter (fun x => x.1 == "internal/strconv.uint64pow10") = [("internal/strconv.uint64pow10", Lib.tabData .u64 Lib.pow10Tab)]) : Vl.Tab W := by
  have hf := laidMetH.filter (fun x => x.1 == "internal/strconv.uint64pow10") h
  rw [e] at hf
  exact Lib.tabIs_of_head (rest := []) gPow gPowType Tryz.underlying237 Tryz.underlying94 cellsU64 cellsPow hf

def qTab : List Int := [0, 498536548, 997073096, 651767980, 1994146192, 1802195444, 1303535960, 1342533948, 3988292384, 4027552580, 3604390888, 3412177804, 2607071920, 2262029012, 2685067896, 3183342108]
theorem qTab_at : ∀ i : Fin 16, qTab.getD i.val 0 = (Wr.tab i.val : Int) := by decide +kernel

theorem quart_of {W : World} {l : List (String × DataW Unit)} (h : laidMetH Tryz.prog l W) (e : l.filter (fun x => x.1 == "streamwright/wire.quarters") = [("streamwright/wire.quarters", Lib.tabData .u32 qTab)]) : Wr.Quart W := by
  have hf := laidMetH.filter (fun x => x.1 == "streamwright/wire.quarters") h
  rw [e] at hf
  have ht := Lib.tabIs_of_head (rest := []) gQ gQType under63 Tryz.underlying169 cells29 cells63 hf
  intro i hi
  rw [ht.cell gQ i hi, qTab_at ⟨i, hi⟩]

theorem ety_of {W : World} {l : List (String × DataW Unit)} (h : laidMetH Tryz.prog l W) (e : l.filter (fun x => x.1 == "errors.errorType") = [("errors.errorType", Rows.laid_errors_errorType)]) : Wr.Ety W := by
  have hf := laidMetH.filter (fun x => x.1 == "errors.errorType") h
  rw [e] at hf
  have h' : laidMet Tryz.prog [] W ∧ handlesMet Tryz.prog [("errors.errorType", Rows.laid_errors_errorType)] W := hf
  obtain ⟨name, u, ty, e1, e2, e3, e4, e5⟩ := h'.2 _ (List.mem_singleton.2 rfl)
  have en : name = [101, 114, 114, 111, 114] := (Option.some.inj e1).symm
  subst en
  obtain rfl := Option.some.inj (rtyp.symm.trans e2)
  have hm : ty ∈ (List.range 269).filter fun t => Tryz.prog.rowNamed t [101, 114, 114, 111, 114] := List.mem_filter.2 ⟨List.mem_range.2 (by rw [← nTypes]; exact e3), e4⟩
  rw [oneRow] at hm
  obtain rfl := List.mem_singleton.1 hm
  have hh : typeHandle Tryz.prog 25 = .pointer (some ⟨5, 25, none⟩) := by kernel_rfl
  rw [hh] at e5
  have := World.var?_cell gE e5 0
  unfold Wr.Ety
  simpa using this

/-- A WORLD FOR THE WITNESS: each listed variable holds what its initialiser lays. -/
def setRow (cs : Array Value) : Obj → Obj
  | .cells _ t frozen => .cells cs t frozen
  | o => o
def laidOver (w : World) : World :=
  { w with heap := ((((w.heap.modify 2 (setRow #[.int .u64 1, .int .u64 10, .int .u64 100, .int .u64 1000, .int .u64 10000, .int .u64 100000, .int .u64 1000000, .int .u64 10000000, .int .u64 100000000, .int .u64 1000000000, .int .u64 10000000000, .int .u64 100000000000, .int .u64 1000000000000, .int .u64 10000000000000, .int .u64 100000000000000, .int .u64 1000000000000000, .int .u64 10000000000000000, .int .u64 100000000000000000, .int .u64 1000000000000000000, .int .u64 10000000000000000000])).modify 3 (setRow #[.int .u8 0, .int .u8 1, .int .u8 28, .int .u8 2, .int .u8 29, .int .u8 14, .int .u8 24, .int .u8 3, .int .u8 30, .int .u8 22, .int .u8 20, .int .u8 15, .int .u8 25, .int .u8 17, .int .u8 4, .int .u8 8, .int .u8 31, .int .u8 27, .int .u8 13, .int .u8 23, .int .u8 21, .int .u8 19, .int .u8 16, .int .u8 7, .int .u8 26, .int .u8 12, .int .u8 18, .int .u8 6, .int .u8 11, .int .u8 5, .int .u8 10, .int .u8 9])).modify 4 (setRow #[.int .u8 0, .int .u8 1, .int .u8 56, .int .u8 2, .int .u8 57, .int .u8 49, .int .u8 28, .int .u8 3, .int .u8 61, .int .u8 58, .int .u8 42, .int .u8 50, .int .u8 38, .int .u8 29, .int .u8 17, .int .u8 4, .int .u8 62, .int .u8 47, .int .u8 59, .int .u8 36, .int .u8 45, .int .u8 43, .int .u8 51, .int .u8 22, .int .u8 53, .int .u8 39, .int .u8 33, .int .u8 30, .int .u8 24, .int .u8 18, .int .u8 12, .int .u8 5, .int .u8 63, .int .u8 55, .int .u8 48, .int .u8 27, .int .u8 60, .int .u8 41, .int .u8 37, .int .u8 16, .int .u8 46, .int .u8 35, .int .u8 44, .int .u8 21, .int .u8 52, .int .u8 32, .int .u8 23, .int .u8 11, .int .u8 54, .int .u8 26, .int .u8 40, .int .u8 15, .int .u8 34, .int .u8 20, .int .u8 31, .int .u8 10, .int .u8 25, .int .u8 14, .int .u8 19, .int .u8 9, .int .u8 13, .int .u8 8, .int .u8 7, .int .u8 6])).modify 0 (setRow #[.iface 148 (.agg #[.pointer (some ⟨5, 25, none⟩)])])).modify 1 (setRow (qTab.map (Value.int .u32)).toArray) }

theorem i64_of {z : Int} (h : (Lit.int .i64 z).wf = true) : -9223372036854775808 ≤ z ∧ z ≤ 9223372036854775807 := by
  have h' : (decide (IntKind.i64.min ≤ z) && decide (z ≤ IntKind.i64.max)) = true := h
  have e1 : IntKind.i64.min = -9223372036854775808 := by decide
  have e2 : IntKind.i64.max = 9223372036854775807 := by decide
  simp [e1, e2] at h'
  omega

theorem loads_contract (H : Type) (enc : TypeId × Value → H) (W : World) (base : Nat) (args : Array Value) (ds gs : List (DataW H)) (before : List MemPlace)
    (hval : ∀ (j : Nat) t v, Tryz.f5.params[j]? = some t → args[j]? = some v → Value.okWide Tryz.prog W .any base t v)
    (hW : DataW.Whole enc Tryz.prog Tryz.f5.params.toList Rows.stateLoadsSpec.vars false W args.toList ds gs before)
    (hk : Rows.uptoSmall H (ds ++ gs) = true) (hL : laidMetH Tryz.prog Rows.stateLoadsUptoRow.laid W) :
    Calls Tryz.prog 5 args W fun e W' => ∃ v, e = .returned v ∧ Rows.stateLoadsSpec.post enc Tryz.prog Tryz.f5 false true false false W args v W' := by
  have hW' := hW
  have hbk := bulk_le hk
  obtain ⟨p, q, hA0, hV, rfl, hfz, hnd⟩ := hW
  have hA : DataW.TrodAll enc Tryz.prog W 0 (fun _ => true) true Tryz.f5.params.toList args.toList ds p := hA0
  rw [Tryz.params5] at hA hval
  obtain ⟨v0, vs0, d0, ds0, p0, q0, hargs, rfl, rfl, h0, r0⟩ := trodAll_cons hA
  obtain ⟨v1, vs1, d1, ds1, p1, q1, rfl, rfl, rfl, h1, r1⟩ := trodAll_cons r0
  obtain ⟨v2, vs2, d2, ds2, p2, q2, rfl, rfl, rfl, h2, r2⟩ := trodAll_cons r1
  obtain ⟨v3, vs3, d3, ds3, p3, q3, rfl, rfl, rfl, h3, r3⟩ := trodAll_cons r2
  obtain ⟨rfl, rfl, rfl⟩ := trodAll_nil r3
  obtain rfl : args = #[v0, v1, v2, v3] := by cases args; simp_all
  obtain ⟨rfl, rfl⟩ := trodVars_none hV
  obtain ⟨a, len, cap, rfl⟩ := okWide_slice Tryz.underlying22 (hval 0 22 v0 rfl rfl)
  have k0 := h0
  have k1 := h1
  have k2 := h2
  have k3 := h3
  have lt0 : ∀ x ∈ p0, x.block < W.heap.size := by obtain ⟨m, hm⟩ := k0; exact DataW.trod_lt m _ _ _ hm
  have lt1 : ∀ x ∈ p1, x.block < W.heap.size := by obtain ⟨m, hm⟩ := k1; exact DataW.trod_lt m _ _ _ hm
  have lt2 : ∀ x ∈ p2, x.block < W.heap.size := by obtain ⟨m, hm⟩ := k2; exact DataW.trod_lt m _ _ _ hm
  have lt3 : ∀ x ∈ p3, x.block < W.heap.size := by obtain ⟨m, hm⟩ := k3; exact DataW.trod_lt m _ _ _ hm
  obtain ⟨wh, rfl, rfl, hp1, hwn1⟩ := open_int Tryz.underlying3 (hval 1 3 v1 rfl rfl) h1
  obtain ⟨ho, rfl, rfl, hp2, hwn2⟩ := open_int Tryz.underlying3 (hval 2 3 v2 rfl rfl) h2
  obtain ⟨at', rfl, rfl, hp3, hwn3⟩ := open_int Tryz.underlying3 (hval 3 3 v3 rfl rfl) h3
  obtain ⟨fuel, hf⟩ := h0
  have b0 : Rows.uptoBulk d0 ≤ 1048576 := Nat.le_trans (bulk_mem (by simp)) hbk
  obtain ⟨xs, hrl, hR, hle⟩ := ops_in hf b0
  subst hrl
  clear hA0
  have hTab := powTab hL (by kernel_rfl)
  have hQ := quart_of hL (by kernel_rfl)
  have hE := ety_of hL (by kernel_rfl)
  refine (loads_walk xs a cap wh ho at' W hR (by omega) (i64_of hwn1) (i64_of hwn2) (i64_of hwn3) (fun V hV => ⟨hTab.later hV, hQ.later hV, hE.later hV⟩)).mono fun e W' ⟨he, bel⟩ => ?_
  subst he
  exact ⟨_, rfl, _, _, _, [], _, [], hW', trodAll_mk1 (shut_bool Tryz.underlying4 _),
    (trodAll_cons_mk (Below.trod laidOut (by kernel_rfl) (of_decide_eq_true (by kernel_rfl)) k0 bel lt0) (trodAll_cons_mk (Below.trod laidOut (by kernel_rfl) (of_decide_eq_true (by kernel_rfl)) k1 bel lt1) (trodAll_cons_mk (Below.trod laidOut (by kernel_rfl) (of_decide_eq_true (by kernel_rfl)) k2 bel lt2) (trodAll_cons_mk (Below.trod laidOut (by kernel_rfl) (of_decide_eq_true (by kernel_rfl)) k3 bel lt3) trodAll_mk0)))), rfl, bel.frame _, fun h => by cases h⟩

theorem loads_laid (os : Os) : laidMetH Tryz.prog Rows.stateLoadsUptoRow.laid ((laidOver (World.holding Tryz.prog os ⟨#[], #[], []⟩)).forCall (fun _ _ => 0) ⟨#[], #[.slice none 0 0, .int .i64 0, .int .i64 0, .int .i64 0], []⟩).memory :=
  laidMetH_of_parts (laidMet_of_run' 8 (by kernel_rfl) (by kernel_rfl)) (by kernel_rfl)
theorem loads_reads (os : Os) {H : Type} (enc : TypeId × Value → H) : ∃ places, DataW.whole enc Tryz.prog ((laidOver (World.holding Tryz.prog os ⟨#[], #[], []⟩)).forCall (fun _ _ => 0) ⟨#[], #[.slice none 0 0, .int .i64 0, .int .i64 0, .int .i64 0], []⟩).memory Tryz.f5.params.toList Rows.stateLoadsSpec.vars false #[Value.slice none 0 0, .int .i64 0, .int .i64 0, .int .i64 0].toList 8 = some ([.nil, .lit (.int .i64 0), .lit (.int .i64 0), .lit (.int .i64 0)], [], places) :=
  ⟨[], by kernel_rfl⟩

theorem loads_lifted (os : Os) (started : os.Started) (H : Type) (enc : TypeId × Value → H) (F : Stop.Interp) :
    ReturnsInHanded {} Tryz.checked os 5 .any ((Rows.OpenSpec.upto Rows.stateLoadsSpec).preRow enc Tryz.prog Tryz.f5 Rows.stateLoadsUptoRow.domain false Rows.stateLoadsUptoRow.laid) (((Rows.OpenSpec.upto Rows.stateLoadsSpec).at F).post enc Tryz.prog Tryz.f5 false true false false) := by
  obtain ⟨places, hx⟩ := loads_reads os enc
  refine returnsInHanded_of_row (C := Tryz.checked) (s := Rows.OpenSpec.upto Rows.stateLoadsSpec) own started (by kernel_rfl) Tryz.func5
    (witness_row_at (enc := enc) (C := Tryz.checked) false (laidOver (World.holding Tryz.prog os ⟨#[], #[], []⟩)) #[.slice none 0 0, .int .i64 0, .int .i64 0, .int .i64 0] rfl (by kernel_rfl) (by kernel_rfl) (by kernel_rfl)
      (OpenSpec.preRow_of_cond 8 hx (by kernel_rfl) (fun k hk => by cases hk; kernel_rfl) (by kernel_rfl) (loads_laid os))) ?_
  intro W base args ds gs before hval hW _ hcond _ hL _ _
  exact loads_contract H enc W base args ds gs before hval hW (hcond _ rfl) hL

theorem loads_said : Rows.StateLoadsUptoSaid :=
  OpenClaim.holds_of_cond 5 Tryz.f5 rfl rfl rfl rfl rfl rfl rfl ⟨rfl, rfl, rfl, rfl, rfl⟩ rfl rfl rfl rfl rfl (by kernel_rfl) Tryz.func5 (by kernel_rfl)
    (of_decide_eq_true (by kernel_rfl)) (by unfold Func.isWrapper; first | (rw [if_pos (by decide +kernel)]; kernel_rfl) | (rw [if_neg (by decide +kernel)]; exact ⟨rfl, rfl⟩))
    (fun os started H enc _ F => by rw [OpenClaim.pre_eq_preRow]; exact loads_lifted os started H enc F)

theorem loads_plain (f : FuncId) (fn : Func) (hf : Tryz.pinned.checked.prog.funcNamed "streamwright/streamwrightlaw7.StateLoads" = some f) (hfn : Tryz.pinned.checked.prog.funcs[f]? = some fn) :
    true = Tryz.pinned.checked.prog.looks [] ∧ ∀ (j : Nat) t, fn.params[j]? = some t → Tryz.pinned.checked.prog.wantsStandIn t = false := by
  obtain rfl : f = 5 := Option.some.inj ((show Tryz.prog.funcNamed "streamwright/streamwrightlaw7.StateLoads" = some 5 by kernel_rfl).symm.trans hf) |>.symm
  obtain rfl : fn = Tryz.f5 := (Option.some.inj (Tryz.func5.symm.trans hfn)).symm
  refine ⟨by kernel_rfl, fun j t ht => ?_⟩
  rw [Tryz.params5] at ht
  have hm : t = 22 ∨ t = 3 := by simpa using Array.mem_of_getElem? ht
  rcases hm with rfl | rfl
  · exact (show Tryz.prog.wantsStandIn 22 = false by kernel_rfl)
  · exact (show Tryz.prog.wantsStandIn 3 = false by kernel_rfl)

/-- THE CARD. -/
theorem stateLoadsUpto_card : Rows.StateLoadsUptoCardSaid :=
  Claim7.holds_tied_plain_at .later [] _ _ _ _ loads_said (fun _ h => by cases h) (by kernel_rfl) (fun _ h => by cases h) stateLoadsUpto_row_tie rfl ⟨rfl, rfl⟩ (by kernel_rfl) rfl loads_plain (by kernel_rfl)
end Go.Proofs.YtobhccmnlmlapaaGreatDoor
