import Derived.Test.YtojfhlhajemhdaaDoorDsO
namespace Go.Proofs.YtojfhlhajemhdaaDoor
open Go.RowKit
set_option linter.unusedVariables false
set_option linter.unusedSimpArgs false
set_option maxRecDepth 100000
set_option maxHeartbeats 8000000

def softF (f : Fl) : Fl := { f with ls := false }
def softL (fs : List Fl) (k : Nat) : List Fl := (fs.take k).map softF ++ fs.drop k
theorem softL_len (fs : List Fl) (k : Nat) : (softL fs k).length = fs.length := by unfold softL; rw [List.length_append, List.length_map, List.length_take, List.length_drop]; omega
theorem softL_step (fs : List Fl) (k : Nat) (hk : k < fs.length) : (softL fs k).set k (softF fs[k]) = softL fs (k + 1) := by
  unfold softL
  have hl : ((fs.take k).map softF).length = k := by rw [List.length_map, List.length_take]; omega
  rw [List.set_append_right _ _ (by omega), hl, Nat.sub_self, List.drop_eq_getElem_cons hk, List.set_cons_zero, List.take_succ_eq_append_getElem hk, List.map_append, List.append_assoc]
  rfl
theorem softL_at (fs : List Fl) (k : Nat) (hk : k < fs.length) : (softL fs k)[k]'(by rw [softL_len]; exact hk) = fs[k] := by
  have hl : ((fs.take k).map softF).length = k := by rw [List.length_map, List.length_take]; omega
  simp only [softL]
  rw [List.getElem_append_right (by omega)]
  simp only [hl, Nat.sub_self]
  rw [List.getElem_drop]; rfl
theorem flat_set {α β : Type} (f : α → List β) (m : Nat) (hf : ∀ a, (f a).length = m) : ∀ (l : List α) (i j : Nat) (hi : i < l.length) (b : α) (u : β), f b = (f l[i]).set j u → j < m → (l.flatMap f).set (i * m + j) u = (l.set i b).flatMap f
  | a :: l, 0, j, _, b, u, e, hj => by
    rw [List.flatMap_cons, Nat.zero_mul, Nat.zero_add, List.set_append_left _ _ (by rw [hf]; exact hj), List.set_cons_zero, List.flatMap_cons, e]; rfl
  | a :: l, i + 1, j, hi, b, u, e, hj => by
    have ih := flat_set f m hf l i j (by simpa using hi) b u e hj
    rw [List.flatMap_cons, List.set_append_right _ _ (by rw [hf, Nat.add_mul]; omega), hf, show (i + 1) * m + j - m = i * m + j by rw [Nat.add_mul]; omega, ih, List.set_cons_succ, List.flatMap_cons]
theorem t30 (a : Option Addr) (xl c0 d mb j : Nat) (ax : Option Addr) (cx : Nat) (lv : Value) (fs : List Fl) (W0 w : World) (hn : fs.length ≤ 2513169434879) (HI : Hid (DInv W0 w d mb lv (.slice ax fs.length cx) fs)) (ob : Nat) (kk kd oa : Int) (nm : ByteArray) (da : Option Addr) (bl : List UInt8) (dc : Nat) (hoa : -9223372036854775808 ≤ oa ∧ oa ≤ 9223372036854775807) (HOB : Hid (Own w ob 28 4 [.int .i64 kd, .int .i64 oa, .string nm, .slice da bl.length dc])) (HLT : Hid (∀ i, dS d mb lv i → i < ob)) (HXL : Hid (∀ g, (Value.slice ax fs.length cx).ownBlock = some g → g < ob)) (HDA : Hid (Bytes W0 da bl.length (lat bl) ∧ bl.length ≤ dc ∧ True ∧ nm.size ≤ maxLen ∧ bl.length ≤ 140737488355328))
    (x1 x2 x8 x9 x10 x11 x12 x13 x14 x15 x16 x17 x18 x19 x20 x21 x22 x23 x24 x25 x26 x27 x28 x29 x30 x31 x32 x33 x34 x35 x36 x37 x38 x39 x40 x41 x42 x43 x44 x45 x46 x47 x48 x49 x50 x51 x52 x53 x54 x55 x56 x57 x58 x59 x60 x61 x62 x63 x64 x65 x66 x67 x68 x69 x70 x71 x72 x73 x74 x75 x76 x77 x78 x79 x80 x81 x82 x83 x84 x85 x86 x87 x88 x89 x90 x91 x92 x93 x94 x95 x96 x97 x98 x99 x100 x101 x102 x103 x104 x105 x106 x107 x108 x109 x110 x111 x112 x113 x114 x115 x116 x117 x118 x119 x120 x121 x122 x123 x124 x125 x126 x127 x128 x129 x130 x131 x132 x133 x134 x135 x136 x137 x138 x139 x140 x141 x142 x143 x144 x145 x146 x147 x148 x149 x150 x151 x152 x153 x154 x155 x156 x157 x158 x159 x160 x161 x162 x163 x164 x165 x166 x167 x168 x169 x170 x171 x172 x173 x174 x175 x176 x177 x178 x179 x180 x181 x182 x183 x184 x185 x186 x187 x188 x189 x190 x191 x192 x193 x194 x195 x196 x197 x198 : Value) (F : Act → World → Prop)
    (HEX : Hid (∀ (fs' : List Fl) (lv' : Value) (ax' : Option Addr) (cx' : Nat) (w' : World), DInv W0 w' d mb lv' (.slice ax' fs'.length cx') fs' → fs'.length ≤ fs.length + 1 → ∀ (y6 y7 y8 y9 y10 y11 y12 y13 y14 y15 y16 y17 y18 y19 y20 y21 y25 y26 y27 y28 y29 y30 y31 y32 y33 y34 y35 y36 y37 y38 y39 y40 y41 y42 y43 y44 y45 y46 y47 y48 y49 y50 y51 y52 y53 y54 y55 y56 y57 y58 y59 y60 y61 y62 y63 y64 y65 y66 y67 y68 y69 y70 y71 y72 y73 y74 y75 y76 y77 y78 y79 y80 y81 y82 y83 y84 y85 y86 y87 y88 y89 y90 y91 y92 y93 y94 y95 y96 y97 y98 y99 y100 y101 y102 y103 y104 y105 y106 y107 y108 y109 y110 y111 y112 y113 y114 y115 y116 y117 y118 y119 y120 y121 y122 y123 y124 y125 y126 y127 y128 y129 y130 y131 y132 y133 y134 y135 y136 y137 y138 y139 y140 y141 y142 y143 y144 y145 y146 y147 y148 y149 y150 y151 y152 y153 y154 y155 y156 y157 y158 y159 y160 y161 y162 y163 y164 y165 y166 y167 y168 y169 y170 y171 y172 y173 y174 y175 y176 y177 y178 y179 y180 y181 y182 y183 y184 y185 y186 y187 y188 y189 y190 y191 y192 y193 y194 y195 y196 y197 y198 : Value), F { tmps := List.toArray ((.slice a xl c0) :: (x1) :: (x2) :: (.pointer (some ⟨d, 0, none⟩)) :: (.slice ax' fs'.length cx') :: (.int .i64 (j : Int)) :: y6 :: y7 :: y8 :: y9 :: y10 :: y11 :: y12 :: y13 :: y14 :: y15 :: y16 :: y17 :: y18 :: y19 :: y20 :: y21 :: (x22) :: (x23) :: (x24) :: y25 :: y26 :: y27 :: y28 :: y29 :: y30 :: y31 :: y32 :: y33 :: y34 :: y35 :: y36 :: y37 :: y38 :: y39 :: y40 :: y41 :: y42 :: y43 :: y44 :: y45 :: y46 :: y47 :: y48 :: y49 :: y50 :: y51 :: y52 :: y53 :: y54 :: y55 :: y56 :: y57 :: y58 :: y59 :: y60 :: y61 :: y62 :: y63 :: y64 :: y65 :: y66 :: y67 :: y68 :: y69 :: y70 :: y71 :: y72 :: y73 :: y74 :: y75 :: y76 :: y77 :: y78 :: y79 :: y80 :: y81 :: y82 :: y83 :: y84 :: y85 :: y86 :: y87 :: y88 :: y89 :: y90 :: y91 :: y92 :: y93 :: y94 :: y95 :: y96 :: y97 :: y98 :: y99 :: y100 :: y101 :: y102 :: y103 :: y104 :: y105 :: y106 :: y107 :: y108 :: y109 :: y110 :: y111 :: y112 :: y113 :: y114 :: y115 :: y116 :: y117 :: y118 :: y119 :: y120 :: y121 :: y122 :: y123 :: y124 :: y125 :: y126 :: y127 :: y128 :: y129 :: y130 :: y131 :: y132 :: y133 :: y134 :: y135 :: y136 :: y137 :: y138 :: y139 :: y140 :: y141 :: y142 :: y143 :: y144 :: y145 :: y146 :: y147 :: y148 :: y149 :: y150 :: y151 :: y152 :: y153 :: y154 :: y155 :: y156 :: y157 :: y158 :: y159 :: y160 :: y161 :: y162 :: y163 :: y164 :: y165 :: y166 :: y167 :: y168 :: y169 :: y170 :: y171 :: y172 :: y173 :: y174 :: y175 :: y176 :: y177 :: y178 :: y179 :: y180 :: y181 :: y182 :: y183 :: y184 :: y185 :: y186 :: y187 :: y188 :: y189 :: y190 :: y191 :: y192 :: y193 :: y194 :: y195 :: y196 :: y197 :: y198 :: []), defers := [] } w')) :
    Code.wp Tryd.prog (stepsPart 30) (onlyN F) { tmps := List.toArray ((.slice a xl c0) :: x1 :: x2 :: (.pointer (some ⟨d, 0, none⟩)) :: (.slice ax fs.length cx) :: (.int .i64 (j : Int)) :: (.pointer (some ⟨ob, 0, none⟩)) :: (.int .i64 kk) :: x8 :: x9 :: x10 :: x11 :: x12 :: x13 :: x14 :: x15 :: x16 :: x17 :: x18 :: x19 :: x20 :: x21 :: x22 :: x23 :: x24 :: x25 :: x26 :: x27 :: x28 :: x29 :: x30 :: x31 :: x32 :: x33 :: x34 :: x35 :: x36 :: x37 :: x38 :: x39 :: x40 :: x41 :: x42 :: x43 :: x44 :: x45 :: x46 :: x47 :: x48 :: x49 :: x50 :: x51 :: x52 :: x53 :: x54 :: x55 :: x56 :: x57 :: x58 :: x59 :: x60 :: x61 :: x62 :: x63 :: x64 :: x65 :: x66 :: x67 :: x68 :: x69 :: x70 :: x71 :: x72 :: x73 :: x74 :: x75 :: x76 :: x77 :: x78 :: x79 :: x80 :: x81 :: x82 :: x83 :: x84 :: x85 :: x86 :: x87 :: x88 :: x89 :: x90 :: x91 :: x92 :: x93 :: x94 :: x95 :: x96 :: x97 :: x98 :: x99 :: x100 :: x101 :: x102 :: x103 :: x104 :: x105 :: x106 :: x107 :: x108 :: x109 :: x110 :: x111 :: x112 :: x113 :: x114 :: x115 :: x116 :: x117 :: x118 :: x119 :: x120 :: x121 :: x122 :: x123 :: x124 :: x125 :: x126 :: x127 :: x128 :: x129 :: x130 :: x131 :: x132 :: x133 :: x134 :: x135 :: x136 :: x137 :: x138 :: x139 :: x140 :: x141 :: x142 :: x143 :: x144 :: x145 :: x146 :: x147 :: x148 :: x149 :: x150 :: x151 :: x152 :: x153 :: x154 :: x155 :: x156 :: x157 :: x158 :: x159 :: x160 :: x161 :: x162 :: x163 :: x164 :: x165 :: x166 :: x167 :: x168 :: x169 :: x170 :: x171 :: x172 :: x173 :: x174 :: x175 :: x176 :: x177 :: x178 :: x179 :: x180 :: x181 :: x182 :: x183 :: x184 :: x185 :: x186 :: x187 :: x188 :: x189 :: x190 :: x191 :: x192 :: x193 :: x194 :: x195 :: x196 :: x197 :: x198 :: []), defers := [] } w := by
  conv => arg 2; whnf
  go_wp2_with fail
  refine (sync_any _ _ _ _ _ _ HI.out.pd).mono ?_
  rintro e w1 ⟨rfl, hP, hG⟩
  have hD := HI.out.did hG
  have HP := hidMk hP
  have HB := hidMk hD.2
  have HL0 : Hid (LF w1 W0.heap.size (.slice ax fs.length cx) (softL fs 0)) := by rw [Hid]; unfold softL; rw [List.take_zero, List.drop_zero]; exact hD.1
  have HA1 := hidMk HI.out.ap1
  have HA2 := hidMk HI.out.ap2
  have HLW := hidMk HI.out.law
  have HXX := hidMk HI.out.xlt
  clear hP hG hD HI HOB HLT HXL HDA
  go_wp2_with fail
  go_loopg [12] fs.length (fun gk i wr => ∃ k : Nat, gk + k = fs.length ∧ i = .int .i64 k ∧ LF wr W0.heap.size (.slice ax fs.length cx) (softL fs k) ∧ Gs (fun i => some i = (Value.slice ax fs.length cx).ownBlock) w1 wr)
  case atStart => exact ⟨0, by omega, rfl, HL0.out, Gs.refl _ _⟩
  case round =>
    obtain ⟨k, hgk, rfl, hLk, hGk⟩ := hrel
    by_cases hk : k < fs.length
    · have hk' : (k : Int) < (fs.length : Int) := by omega
      obtain ⟨g, rfl⟩ : ∃ g, ax = some ⟨g, 0, none⟩ := by
        obtain ⟨a1, c1, e, hcase⟩ := hLk.form
        injection e with e1 e2 e3
        rcases hcase with ⟨h1, -⟩ | ⟨g, h1, -⟩
        · have := softL_len fs k; rw [h1] at this; simp at this; omega
        · exact ⟨g, e1.trans h1⟩
      have hLk' := hLk
      rw [← softL_len fs k] at hLk'
      obtain ⟨-, -, c2⟩ := LF.cells hLk' k (by rw [softL_len]; exact hk)
      have hLr : wr.ownsRow W0.heap.size 36 3 (.slice (some ⟨g, 0, none⟩) fs.length cx) fs.length ((softL fs k).flatMap cellsF) := by
        have := hLk; unfold LF at this; rw [softL_len] at this; exact this
      have f2 : wr.frozen? ⟨g, k * 3 + 2, none⟩ = false := World.ownsRow.frozenAt hLr _
      have hst := World.ownsRow.stored hLr (k * 3 + 2) (.bool false)
      have HLn : Hid (LF (wr.setCell ⟨g, k * 3 + 2, none⟩ (.bool false)) W0.heap.size (.slice (some ⟨g, 0, none⟩) fs.length cx) (softL fs (k + 1))) := by
        have h1 := hst.1
        rw [flat_set cellsF 3 (fun _ => rfl) (softL fs k) k 2 (by rw [softL_len]; exact hk) (softF fs[k]) (.bool false) (by rw [softL_at fs k hk]; rfl) (by decide), softL_step fs k hk] at h1
        unfold Hid LF
        rw [softL_len]; exact h1
      have HGn : Hid (Gs (fun i => some i = (Value.slice (some ⟨g, 0, none⟩) fs.length cx).ownBlock) w1 (wr.setCell ⟨g, k * 3 + 2, none⟩ (.bool false))) := hGk.trans (Gs.one hst.2 fun i hi => hi.symm)
      rw [softL_at fs k hk] at c2
      clear hLk hLk' hGk hst hLr
      go_wp2_with fail
      go_roundg (gk - 1)
      case measure => omega
      case rel => exact ⟨k + 1, by omega, by go_num, HLn.out, HGn.out⟩
    · have hk' : ¬ (k : Int) < (fs.length : Int) := by omega
      obtain rfl : k = fs.length := by omega
      have hml : (fs.map softF).length = fs.length := List.length_map _
      have HF : Hid (DInv W0 wr d mb (.slice none 0 0) (.slice ax (fs.map softF).length cx) (fs.map softF)) := by
        have e : softL fs fs.length = fs.map softF := by unfold softL; rw [List.take_length, List.drop_length, List.append_nil]
        rw [e] at hLk
        unfold Hid
        rw [hml]
        have hdd : ∀ i, dS d mb (.slice none 0 0) i → dS d mb lv i := fun i s => by
          rcases s with s | s | s
          · exact .inl s
          · exact .inr (.inl s)
          · simp [Value.ownBlock] at s
        refine ⟨HP.out.kept hGk (fun i s q => HA1.out i s.symm (hdd i q)) (fun i s f hf y hy q => ?_), hLk, HB.out.trans (hGk.toBelow HB.out.size (fun i s => (HXX.out i s.symm).1)), ?_, fun g hg s => HA1.out g hg (hdd g s), ?_⟩
        · obtain ⟨f', hf', rfl⟩ := List.mem_map.1 hf
          exact HA2.out f' hf' y hy (by rw [q]; exact s)
        · intro f hf
          obtain ⟨f', hf', rfl⟩ := List.mem_map.1 hf
          exact HLW.out f' hf'
        · intro f hf y hy
          obtain ⟨f', hf', rfl⟩ := List.mem_map.1 hf
          exact HA2.out f' hf' y hy
      clear hLk hGk
      have HE := hidMk (HEX.out (fs.map softF) _ ax cx wr HF.out (by omega))
      rw [hml] at HE
      go_wp2_with fail
      exact HE.out _ _ _ _ _ _ _ _ _ _ _ _ _ _ _ _ _ _ _ _ _ _ _ _ _ _ _ _ _ _ _ _ _ _ _ _ _ _ _ _ _ _ _ _ _ _ _ _ _ _ _ _ _ _ _ _ _ _ _ _ _ _ _ _ _ _ _ _ _ _ _ _ _ _ _ _ _ _ _ _ _ _ _ _ _ _ _ _ _ _ _ _ _ _ _ _ _ _ _ _ _ _ _ _ _ _ _ _ _ _ _ _ _ _ _ _ _ _ _ _ _ _ _ _ _ _ _ _ _ _ _ _ _ _ _ _ _ _ _ _ _ _ _ _ _ _ _ _ _ _ _ _ _ _ _ _ _ _ _ _ _ _ _ _ _ _ _ _ _ _ _ _ _ _ _ _ _ _ _ _ _ _ _ _ _ _ _ _ _ _
theorem t36 (a : Option Addr) (xl c0 d mb j : Nat) (ax : Option Addr) (cx : Nat) (lv : Value) (fs : List Fl) (W0 w : World) (hn : fs.length ≤ 2513169434879) (HI : Hid (DInv W0 w d mb lv (.slice ax fs.length cx) fs)) (ob : Nat) (kk kd oa : Int) (nm : ByteArray) (da : Option Addr) (bl : List UInt8) (dc : Nat) (hoa : -9223372036854775808 ≤ oa ∧ oa ≤ 9223372036854775807) (HOB : Hid (Own w ob 28 4 [.int .i64 kd, .int .i64 oa, .string nm, .slice da bl.length dc])) (HLT : Hid (∀ i, dS d mb lv i → i < ob)) (HXL : Hid (∀ g, (Value.slice ax fs.length cx).ownBlock = some g → g < ob)) (HDA : Hid (Bytes W0 da bl.length (lat bl) ∧ bl.length ≤ dc ∧ True ∧ nm.size ≤ maxLen ∧ bl.length ≤ 140737488355328))
    (x1 x2 x8 x9 x10 x11 x12 x13 x14 x15 x16 x17 x18 x19 x20 x21 x22 x23 x24 x25 x26 x27 x28 x29 x30 x31 x32 x33 x34 x35 x36 x37 x38 x39 x40 x41 x42 x43 x44 x45 x46 x47 x48 x49 x50 x51 x52 x53 x54 x55 x56 x57 x58 x59 x60 x61 x62 x63 x64 x65 x66 x67 x68 x69 x70 x71 x72 x73 x74 x75 x76 x77 x78 x79 x80 x81 x82 x83 x84 x85 x86 x87 x88 x89 x90 x91 x92 x93 x94 x95 x96 x97 x98 x99 x100 x101 x102 x103 x104 x105 x106 x107 x108 x109 x110 x111 x112 x113 x114 x115 x116 x117 x118 x119 x120 x121 x122 x123 x124 x125 x126 x127 x128 x129 x130 x131 x132 x133 x134 x135 x136 x137 x138 x139 x140 x141 x142 x143 x144 x145 x146 x147 x148 x149 x150 x151 x152 x153 x154 x155 x156 x157 x158 x159 x160 x161 x162 x163 x164 x165 x166 x167 x168 x169 x170 x171 x172 x173 x174 x175 x176 x177 x178 x179 x180 x181 x182 x183 x184 x185 x186 x187 x188 x189 x190 x191 x192 x193 x194 x195 x196 x197 x198 : Value) (F : Act → World → Prop)
    (HEX : Hid (∀ (fs' : List Fl) (lv' : Value) (ax' : Option Addr) (cx' : Nat) (w' : World), DInv W0 w' d mb lv' (.slice ax' fs'.length cx') fs' → fs'.length ≤ fs.length + 1 → ∀ (y6 y7 y8 y9 y10 y11 y12 y13 y14 y15 y16 y17 y18 y19 y20 y21 y25 y26 y27 y28 y29 y30 y31 y32 y33 y34 y35 y36 y37 y38 y39 y40 y41 y42 y43 y44 y45 y46 y47 y48 y49 y50 y51 y52 y53 y54 y55 y56 y57 y58 y59 y60 y61 y62 y63 y64 y65 y66 y67 y68 y69 y70 y71 y72 y73 y74 y75 y76 y77 y78 y79 y80 y81 y82 y83 y84 y85 y86 y87 y88 y89 y90 y91 y92 y93 y94 y95 y96 y97 y98 y99 y100 y101 y102 y103 y104 y105 y106 y107 y108 y109 y110 y111 y112 y113 y114 y115 y116 y117 y118 y119 y120 y121 y122 y123 y124 y125 y126 y127 y128 y129 y130 y131 y132 y133 y134 y135 y136 y137 y138 y139 y140 y141 y142 y143 y144 y145 y146 y147 y148 y149 y150 y151 y152 y153 y154 y155 y156 y157 y158 y159 y160 y161 y162 y163 y164 y165 y166 y167 y168 y169 y170 y171 y172 y173 y174 y175 y176 y177 y178 y179 y180 y181 y182 y183 y184 y185 y186 y187 y188 y189 y190 y191 y192 y193 y194 y195 y196 y197 y198 : Value), F { tmps := List.toArray ((.slice a xl c0) :: (x1) :: (x2) :: (.pointer (some ⟨d, 0, none⟩)) :: (.slice ax' fs'.length cx') :: (.int .i64 (j : Int)) :: y6 :: y7 :: y8 :: y9 :: y10 :: y11 :: y12 :: y13 :: y14 :: y15 :: y16 :: y17 :: y18 :: y19 :: y20 :: y21 :: (x22) :: (x23) :: (x24) :: y25 :: y26 :: y27 :: y28 :: y29 :: y30 :: y31 :: y32 :: y33 :: y34 :: y35 :: y36 :: y37 :: y38 :: y39 :: y40 :: y41 :: y42 :: y43 :: y44 :: y45 :: y46 :: y47 :: y48 :: y49 :: y50 :: y51 :: y52 :: y53 :: y54 :: y55 :: y56 :: y57 :: y58 :: y59 :: y60 :: y61 :: y62 :: y63 :: y64 :: y65 :: y66 :: y67 :: y68 :: y69 :: y70 :: y71 :: y72 :: y73 :: y74 :: y75 :: y76 :: y77 :: y78 :: y79 :: y80 :: y81 :: y82 :: y83 :: y84 :: y85 :: y86 :: y87 :: y88 :: y89 :: y90 :: y91 :: y92 :: y93 :: y94 :: y95 :: y96 :: y97 :: y98 :: y99 :: y100 :: y101 :: y102 :: y103 :: y104 :: y105 :: y106 :: y107 :: y108 :: y109 :: y110 :: y111 :: y112 :: y113 :: y114 :: y115 :: y116 :: y117 :: y118 :: y119 :: y120 :: y121 :: y122 :: y123 :: y124 :: y125 :: y126 :: y127 :: y128 :: y129 :: y130 :: y131 :: y132 :: y133 :: y134 :: y135 :: y136 :: y137 :: y138 :: y139 :: y140 :: y141 :: y142 :: y143 :: y144 :: y145 :: y146 :: y147 :: y148 :: y149 :: y150 :: y151 :: y152 :: y153 :: y154 :: y155 :: y156 :: y157 :: y158 :: y159 :: y160 :: y161 :: y162 :: y163 :: y164 :: y165 :: y166 :: y167 :: y168 :: y169 :: y170 :: y171 :: y172 :: y173 :: y174 :: y175 :: y176 :: y177 :: y178 :: y179 :: y180 :: y181 :: y182 :: y183 :: y184 :: y185 :: y186 :: y187 :: y188 :: y189 :: y190 :: y191 :: y192 :: y193 :: y194 :: y195 :: y196 :: y197 :: y198 :: []), defers := [] } w')) :
    Code.wp Tryd.prog (stepsPart 36) (onlyN F) { tmps := List.toArray ((.slice a xl c0) :: x1 :: x2 :: (.pointer (some ⟨d, 0, none⟩)) :: (.slice ax fs.length cx) :: (.int .i64 (j : Int)) :: (.pointer (some ⟨ob, 0, none⟩)) :: (.int .i64 kk) :: x8 :: x9 :: x10 :: x11 :: x12 :: x13 :: x14 :: x15 :: x16 :: x17 :: x18 :: x19 :: x20 :: x21 :: x22 :: x23 :: x24 :: x25 :: x26 :: x27 :: x28 :: x29 :: x30 :: x31 :: x32 :: x33 :: x34 :: x35 :: x36 :: x37 :: x38 :: x39 :: x40 :: x41 :: x42 :: x43 :: x44 :: x45 :: x46 :: x47 :: x48 :: x49 :: x50 :: x51 :: x52 :: x53 :: x54 :: x55 :: x56 :: x57 :: x58 :: x59 :: x60 :: x61 :: x62 :: x63 :: x64 :: x65 :: x66 :: x67 :: x68 :: x69 :: x70 :: x71 :: x72 :: x73 :: x74 :: x75 :: x76 :: x77 :: x78 :: x79 :: x80 :: x81 :: x82 :: x83 :: x84 :: x85 :: x86 :: x87 :: x88 :: x89 :: x90 :: x91 :: x92 :: x93 :: x94 :: x95 :: x96 :: x97 :: x98 :: x99 :: x100 :: x101 :: x102 :: x103 :: x104 :: x105 :: x106 :: x107 :: x108 :: x109 :: x110 :: x111 :: x112 :: x113 :: x114 :: x115 :: x116 :: x117 :: x118 :: x119 :: x120 :: x121 :: x122 :: x123 :: x124 :: x125 :: x126 :: x127 :: x128 :: x129 :: x130 :: x131 :: x132 :: x133 :: x134 :: x135 :: x136 :: x137 :: x138 :: x139 :: x140 :: x141 :: x142 :: x143 :: x144 :: x145 :: x146 :: x147 :: x148 :: x149 :: x150 :: x151 :: x152 :: x153 :: x154 :: x155 :: x156 :: x157 :: x158 :: x159 :: x160 :: x161 :: x162 :: x163 :: x164 :: x165 :: x166 :: x167 :: x168 :: x169 :: x170 :: x171 :: x172 :: x173 :: x174 :: x175 :: x176 :: x177 :: x178 :: x179 :: x180 :: x181 :: x182 :: x183 :: x184 :: x185 :: x186 :: x187 :: x188 :: x189 :: x190 :: x191 :: x192 :: x193 :: x194 :: x195 :: x196 :: x197 :: x198 :: []), defers := [] } w := by
  conv => arg 2; whnf
  have o0 : w.cell? ⟨ob, 0, none⟩ = some (.int .i64 kd) := HOB.out.cell 0 (by decide)
  have o1 : w.cell? ⟨ob, 1, none⟩ = some (.int .i64 oa) := HOB.out.cell 1 (by decide)
  have o2 : w.cell? ⟨ob, 2, none⟩ = some (.string nm) := HOB.out.cell 2 (by decide)
  have o3 : w.cell? ⟨ob, 3, none⟩ = some (.slice da bl.length dc) := HOB.out.cell 3 (by decide)
  obtain ⟨t, ht⟩ : ∃ t, t = oa.toNat := ⟨_, rfl⟩
  go_wp2_with fail
  refine (crash_any _ _ _ _ _ _ oa t HI.out.pd hoa ht (by omega) (fun f hf => ⟨(HI.out.law f hf).2.2.2.1, (HI.out.law f hf).2.2.2.2⟩) HI.out.bel.size).mono ?_
  rintro e w1 ⟨rfl, ⟨pa, pc, hP⟩, hG⟩
  have hD := HI.out.did hG
  have hO := hG.own HOB.out (fun g hg s => by cases hg; exact Nat.lt_irrefl _ (HLT.out _ s))
  have p1 : w1.cell? ⟨ob, 1, none⟩ = some (.int .i64 oa) := Own.cell hO 1 (by decide)
  have HC : Hid (Calls Tryd.prog 10 #[.slice ax fs.length cx, .int .i64 oa] w1 fun e w' => ∃ x', e = .returned x' ∧ LF w' w1.heap.size x' (crashed t pa pc 0 fs) ∧ Below w1.heap.size w1 w') := by
    have hpl : ∀ f ∈ fs, True ∧ f.bs.length ≤ f.lc ∧ f.bs.length ≤ 140737488355328 := fun f hf => ⟨(HI.out.law f hf).2.2.1, (HI.out.law f hf).2.1, (HI.out.law f hf).2.2.2.2⟩
    by_cases h0 : oa < 0
    · have : t = 0 := by omega
      rw [this]
      exact lcrash_neg w1 _ _ fs oa pa pc hD.1 h0 (by omega) (Nat.le_trans HI.out.bel.size hG.size) hpl
    · have e : oa = (t : Int) := by omega
      rw [e]
      exact lcrash_pos w1 _ _ fs t pa pc hD.1 (by omega) (by omega) (Nat.le_trans HI.out.bel.size hG.size) hpl
  have HP := hidMk hP
  have HB := hidMk hD.2
  have HLW := hidMk (law_crashed HI.out.law t pa pc 0)
  have HLE := hidMk (crashed_len t pa pc 0 fs)
  clear hP hG hD hO HI HOB HLT HXL HDA o0 o1 o2 o3 ht
  go_wp2_with fail
  refine HC.out.mono ?_
  rintro e w2 ⟨x', rfl, hL, hb⟩
  obtain ⟨ax', cx', rfl⟩ := row_form hL
  have HF : Hid (DInv W0 w2 d mb (.slice none 0 0) (.slice ax' (crashed t pa pc 0 fs).length cx') (crashed t pa pc 0 fs)) :=
    DInv.mk' (w0 := w1) (HP.out.later hb) (hL.base HB.out.size) (HB.out.trans (hb.mono HB.out.size)) HLW.out (fun g hg => (World.ownsRow.lt hL g hg).1) HP.out.dlt (fun f hf y hy => (HP.out.ap f hf y hy).2.1)
  clear hL hb HC
  have HE := hidMk (HEX.out _ _ ax' cx' w2 HF.out (by have := HLE.out; omega))
  clear HEX
  generalize crashed t pa pc 0 fs = gs at *
  go_wp2_with fail
  exact HE.out _ _ _ _ _ _ _ _ _ _ _ _ _ _ _ _ _ _ _ _ _ _ _ _ _ _ _ _ _ _ _ _ _ _ _ _ _ _ _ _ _ _ _ _ _ _ _ _ _ _ _ _ _ _ _ _ _ _ _ _ _ _ _ _ _ _ _ _ _ _ _ _ _ _ _ _ _ _ _ _ _ _ _ _ _ _ _ _ _ _ _ _ _ _ _ _ _ _ _ _ _ _ _ _ _ _ _ _ _ _ _ _ _ _ _ _ _ _ _ _ _ _ _ _ _ _ _ _ _ _ _ _ _ _ _ _ _ _ _ _ _ _ _ _ _ _ _ _ _ _ _ _ _ _ _ _ _ _ _ _ _ _ _ _ _ _ _ _ _ _ _ _ _ _ _ _ _ _ _ _ _ _ _ _ _ _ _ _ _ _
end Go.Proofs.YtojfhlhajemhdaaDoor
