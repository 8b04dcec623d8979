import Derived.Test.YtkedbmpnhplmaaaMfC
namespace Go.Proofs.Ytkedbmpnhplmaaa
open Go.RowKit Go.Shelf
set_option linter.unusedVariables false
set_option linter.unusedSimpArgs false
set_option maxRecDepth 100000
set_option maxHeartbeats 4000000

noncomputable def cvBody1 : Code := (Try.f4.body.bind (loopOf 8)).getD .skip
noncomputable def cvBody2 : Code := (Try.f4.body.bind (loopOf 18)).getD .skip
noncomputable def cvBody4 : Code := (Try.f4.body.bind (loopOf 26)).getD .skip

theorem cv_loop1 (w : World) (L : List Wn) (t : Int) (a : Option Addr) (c : Nat) (hlen : L.length ≤ 1048577) (hr : RdW w (.slice a L.length c) L)
    (hL : ∀ (i : Nat) (x : Wn), L[i]? = some x → x.a ≤ t ∧ t < x.b) (hinc : ∀ (i : Nat) (x y : Wn), L[i]? = some x → L[i + 1]? = some y → x.a < y.a ∧ x.b < y.b)
    (c0 c2 c3 c4 c5 c6 c7 c8 c10 c12 c13 c14 c15 c16 c17 c18 c19 c20 c21 c22 c23 c24 c25 c26 c27 c28 c29 c30 c31 c32 c33 c34 c35 c36 c37 c38 c39 c40 c41 c42 c43 c44 c45 c46 c47 c48 c49 c50 c51 c52 c53 c54 c55 c56 c57 c58 c59 c60 c61 c62 c63 c64 c65 c66 c67 c68 c69 c70 c71 c72 c73 c74 c75 c76 c77 c78 c79 c80 c81 c82 c83 c84 c85 c86 c87 c88 c89 c90 c91 c92 c93 c94 c95 c96 c97 c98 c99 c100 c101 c102 c103 c104 c105 c106 c107 c108 c109 c110 c111 c112 c113 c114 c115 c116 c117 c118 c119 c120 c121 c122 c123 c124 c125 c126 c127 c128 c129 c130 c131 c132 c133 c134 c135 c136 c137 c138 c139 c140 c141 c142 c143 c144 c145 c146 c147 c148 c149 c150 c151 c152 c153 c154 c155 c156 c157 c158 c159 c160 c161 c162 c163 c164 c165 c166 c167 c168 c169 c170 c171 c172 c173 c174 c175 c176 c177 c178 c179 c180 c181 c182 c183 c184 c185 c186 c187 c188 c189 c190 c191 c192 c193 c194 c195 c196 c197 c198 c199 c200 c201 c202 c203 c204 c205 c206 c207 c208 c209 c210 c211 c212 c213 c214 c215 c216 c217 c218 c219 c220 c221 c222 c223 : Value) (N : Act → World → Prop)
    (hexit : ∀ (j u6 u51 u52 u53 u54 u55 u56 u57 u58 u59 u60 u61 u62 u63 u64 u65 u66 u67 u68 u69 u70 u71 u72 u73 u74 u75 u76 u77 u78 u79 u80 u81 u82 u83 u84 u85 u86 u87 u88 u89 u90 u91 u92 u93 u94 u95 u96 u97 u98 u99 u100 u101 u102 u103 u104 : Value) (w4 : World), Below w.heap.size w w4 →
      N { tmps := List.toArray (c0 :: (.int .i64 t) :: c2 :: c3 :: c4 :: c5 :: u6 :: c7 :: c8 :: (.slice a L.length c) :: c10 :: j :: c12 :: c13 :: c14 :: c15 :: c16 :: c17 :: c18 :: c19 :: c20 :: c21 :: c22 :: c23 :: c24 :: c25 :: c26 :: c27 :: c28 :: c29 :: c30 :: c31 :: c32 :: c33 :: c34 :: c35 :: c36 :: c37 :: c38 :: c39 :: c40 :: c41 :: c42 :: c43 :: c44 :: c45 :: c46 :: c47 :: c48 :: c49 :: c50 :: u51 :: u52 :: u53 :: u54 :: u55 :: u56 :: u57 :: u58 :: u59 :: u60 :: u61 :: u62 :: u63 :: u64 :: u65 :: u66 :: u67 :: u68 :: u69 :: u70 :: u71 :: u72 :: u73 :: u74 :: u75 :: u76 :: u77 :: u78 :: u79 :: u80 :: u81 :: u82 :: u83 :: u84 :: u85 :: u86 :: u87 :: u88 :: u89 :: u90 :: u91 :: u92 :: u93 :: u94 :: u95 :: u96 :: u97 :: u98 :: u99 :: u100 :: u101 :: u102 :: u103 :: u104 :: c105 :: c106 :: c107 :: c108 :: c109 :: c110 :: c111 :: c112 :: c113 :: c114 :: c115 :: c116 :: c117 :: c118 :: c119 :: c120 :: c121 :: c122 :: c123 :: c124 :: c125 :: c126 :: c127 :: c128 :: c129 :: c130 :: c131 :: c132 :: c133 :: c134 :: c135 :: c136 :: c137 :: c138 :: c139 :: c140 :: c141 :: c142 :: c143 :: c144 :: c145 :: c146 :: c147 :: c148 :: c149 :: c150 :: c151 :: c152 :: c153 :: c154 :: c155 :: c156 :: c157 :: c158 :: c159 :: c160 :: c161 :: c162 :: c163 :: c164 :: c165 :: c166 :: c167 :: c168 :: c169 :: c170 :: c171 :: c172 :: c173 :: c174 :: c175 :: c176 :: c177 :: c178 :: c179 :: c180 :: c181 :: c182 :: c183 :: c184 :: c185 :: c186 :: c187 :: c188 :: c189 :: c190 :: c191 :: c192 :: c193 :: c194 :: c195 :: c196 :: c197 :: c198 :: c199 :: c200 :: c201 :: c202 :: c203 :: c204 :: c205 :: c206 :: c207 :: c208 :: c209 :: c210 :: c211 :: c212 :: c213 :: c214 :: c215 :: c216 :: c217 :: c218 :: c219 :: c220 :: c221 :: c222 :: c223 :: []), defers := [] } w4) :
    Code.wp Try.prog (Code.loop cvBody1) (Exit.inBlock 0 (onlyN N)) { tmps := List.toArray (c0 :: (.int .i64 t) :: c2 :: c3 :: c4 :: c5 :: c6 :: c7 :: c8 :: (.slice a L.length c) :: c10 :: (.int .i64 0) :: c12 :: c13 :: c14 :: c15 :: c16 :: c17 :: c18 :: c19 :: c20 :: c21 :: c22 :: c23 :: c24 :: c25 :: c26 :: c27 :: c28 :: c29 :: c30 :: c31 :: c32 :: c33 :: c34 :: c35 :: c36 :: c37 :: c38 :: c39 :: c40 :: c41 :: c42 :: c43 :: c44 :: c45 :: c46 :: c47 :: c48 :: c49 :: c50 :: c51 :: c52 :: c53 :: c54 :: c55 :: c56 :: c57 :: c58 :: c59 :: c60 :: c61 :: c62 :: c63 :: c64 :: c65 :: c66 :: c67 :: c68 :: c69 :: c70 :: c71 :: c72 :: c73 :: c74 :: c75 :: c76 :: c77 :: c78 :: c79 :: c80 :: c81 :: c82 :: c83 :: c84 :: c85 :: c86 :: c87 :: c88 :: c89 :: c90 :: c91 :: c92 :: c93 :: c94 :: c95 :: c96 :: c97 :: c98 :: c99 :: c100 :: c101 :: c102 :: c103 :: c104 :: c105 :: c106 :: c107 :: c108 :: c109 :: c110 :: c111 :: c112 :: c113 :: c114 :: c115 :: c116 :: c117 :: c118 :: c119 :: c120 :: c121 :: c122 :: c123 :: c124 :: c125 :: c126 :: c127 :: c128 :: c129 :: c130 :: c131 :: c132 :: c133 :: c134 :: c135 :: c136 :: c137 :: c138 :: c139 :: c140 :: c141 :: c142 :: c143 :: c144 :: c145 :: c146 :: c147 :: c148 :: c149 :: c150 :: c151 :: c152 :: c153 :: c154 :: c155 :: c156 :: c157 :: c158 :: c159 :: c160 :: c161 :: c162 :: c163 :: c164 :: c165 :: c166 :: c167 :: c168 :: c169 :: c170 :: c171 :: c172 :: c173 :: c174 :: c175 :: c176 :: c177 :: c178 :: c179 :: c180 :: c181 :: c182 :: c183 :: c184 :: c185 :: c186 :: c187 :: c188 :: c189 :: c190 :: c191 :: c192 :: c193 :: c194 :: c195 :: c196 :: c197 :: c198 :: c199 :: c200 :: c201 :: c202 :: c203 :: c204 :: c205 :: c206 :: c207 :: c208 :: c209 :: c210 :: c211 :: c212 :: c213 :: c214 :: c215 :: c216 :: c217 :: c218 :: c219 :: c220 :: c221 :: c222 :: c223 :: []), defers := [] } w := by
  obtain ⟨a', c', e', hcl⟩ := hr
  cases e'
  conv => arg 2; arg 1; whnf
  go_loopg [11] L.length (fun gk j wr => ∃ (q : Nat), gk + q = L.length ∧ j = .int .i64 q ∧ Below w.heap.size w wr)
  case atStart => exact ⟨0, by omega, rfl, Below.refl _ _⟩
  case round =>
    obtain ⟨q, hgk, rfl, hb⟩ := hrel
    by_cases hlq : q < L.length
    · have hlq' : (q : Int) < (L.length : Int) := by omega
      obtain ⟨y, hy⟩ : ∃ y, L[q]? = some y := ⟨L[q], by simp [hlq]⟩
      obtain ⟨b1, o1, rfl, e1, e2⟩ := hcl q y hy
      obtain ⟨k1, k2⟩ := hL q y hy
      have g1 : decide (t < y.a) = false := by simp; omega
      have g2 : decide (t ≥ y.b) = false := by simp; omega
      replace e1 := xcell hb e1
      replace e2 := xcell hb e2
      by_cases hq0 : q = 0
      · subst hq0
        simp only [Nat.zero_mul, Nat.add_zero] at e1 e2
        have hd : decide ((((0 : Nat) : Int)) > 0) = false := by simp
        have hd2 : decide ((0 : Int) > 0) = false := by simp
        have HCL := hidMk hcl
        have HL := hidMk hL
        have HI := hidMk hinc
        have HY := hidMk hy
        clear hcl hL hinc hy
        go_wp2
        go_quiet (fail)
        go_wp2
        go_roundg (gk - 1)
        case measure => omega
        case rel => exact ⟨0 + 1, by omega, by go_num, below_drewN hb _⟩
      · obtain ⟨r, hr⟩ : ∃ r, r + 1 = q := ⟨q - 1, by omega⟩
        obtain ⟨x, hx⟩ : ∃ x, L[r]? = some x := ⟨L[r]'(by omega), by simp [show r < L.length by omega]⟩
        obtain ⟨b2, o2, e0, e3, e4⟩ := hcl r x hx
        cases e0
        obtain ⟨m1, m2⟩ := hinc r x y hx (by rw [hr]; exact hy)
        have g3 : decide ((q : Int) > 0) = true := by simp; omega
        have g31 : decide ((0 : Int) < (q : Int)) = true := by simp; omega
        have g32 : (0 : Int) < (q : Int) := by omega
        have g33 : 0 < q := by omega
        have g4 : decide (y.b ≤ x.b) = false := by simp; omega
        have g5 : decide (y.a ≤ x.a) = false := by simp; omega
        have g6 : IntKind.i64.wrap ((q : Int) - 1) = (r : Int) := by simp [IntKind.wrap, IntKind.bits, IntKind.signed]; omega
        have g7 : wrap64 ((q : Int) - 1) = (r : Int) := by rw [w64 (by omega) (by omega)]; omega
        have g8 : (r : Int) < (L.length : Int) := by omega
        replace e3 := xcell hb e3
        replace e4 := xcell hb e4
        have HQ := hidMk hr
        have HCL := hidMk hcl
        have HL := hidMk hL
        have HI := hidMk hinc
        have HY := hidMk hy
        have HX := hidMk hx
        clear hr hcl hL hinc hy hx hq0
        go_wp2
        go_quiet (fail)
        go_wp2
        go_roundg (gk - 1)
        case measure => omega
        case rel => exact ⟨q + 1, by omega, by go_num, below_drewN hb _⟩
    · have hlq' : ¬ (q : Int) < (L.length : Int) := by omega
      go_wp2
      exact hexit _ _ _ _ _ _ _ _ _ _ _ _ _ _ _ _ _ _ _ _ _ _ _ _ _ _ _ _ _ _ _ _ _ _ _ _ _ _ _ _ _ _ _ _ _ _ _ _ _ _ _ _ _ _ _ _ wr hb
end Go.Proofs.Ytkedbmpnhplmaaa
