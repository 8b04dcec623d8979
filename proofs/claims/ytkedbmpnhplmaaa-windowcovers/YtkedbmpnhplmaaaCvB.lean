import Derived.Test.YtkedbmpnhplmaaaCvA
namespace Go.Proofs.Ytkedbmpnhplmaaa
open Go.RowKit Go.Shelf
set_option linter.unusedVariables false
set_option linter.unusedSimpArgs false
set_option maxRecDepth 100000
set_option maxHeartbeats 4000000

theorem cv_loop2 (w : World) (M : List Wn) (a : Option Addr) (c : Nat) (hlen : M.length ≤ 8796093022208) (hr : RdW w (.slice a M.length c) M)
    (hA : ∀ (i k : Nat) (x y : Wn), k < i → M[i]? = some x → M[k]? = some y → y.b ≤ x.a)
    (c0 c1 c2 c3 c4 c5 c6 c7 c8 c9 c10 c11 c12 c15 c16 c17 c18 c19 c20 c21 c22 c23 c24 c25 c26 c27 c28 c29 c30 c31 c32 c33 c34 c35 c36 c37 c38 c39 c40 c41 c42 c43 c44 c45 c46 c47 c48 c49 c50 c51 c52 c53 c54 c55 c56 c57 c58 c59 c60 c61 c62 c63 c64 c65 c66 c67 c68 c69 c70 c71 c72 c73 c74 c75 c76 c77 c78 c79 c80 c81 c82 c83 c84 c85 c86 c87 c88 c89 c90 c91 c92 c93 c94 c95 c96 c97 c98 c99 c100 c101 c102 c103 c104 c105 c106 c107 c108 c109 c110 c111 c112 c113 c114 c115 c116 c117 c118 c119 c120 c121 c122 c123 c124 c125 c126 c127 c128 c129 c130 c131 c132 c133 c134 c135 c136 c137 c138 c139 c140 c141 c142 c143 c144 c145 c146 c147 c148 c149 c150 c151 c152 c153 c154 c155 c156 c157 c158 c159 c160 c161 c162 c163 c164 c165 c166 c167 c168 c169 c170 c171 c172 c173 c174 c175 c176 c177 c178 c179 c180 c181 c182 c183 c184 c185 c186 c187 c188 c189 c190 c191 c192 c193 c194 c195 c196 c197 c198 c199 c200 c201 c202 c203 c204 c205 c206 c207 c208 c209 c210 c211 c212 c213 c214 c215 c216 c217 c218 c219 c220 c221 c222 c223 : Value) (N : Act → World → Prop)
    (hexit : ∀ (j u6 u15 u137 u138 u139 u140 u141 u142 u143 u144 u145 u146 u147 u148 u149 u150 u151 u152 u153 u154 u155 u156 u157 u158 u159 u160 u161 u162 u163 u164 u165 u166 u167 u168 u169 u170 u171 : Value) (w4 : World), Below w.heap.size w w4 →
      N { tmps := List.toArray (c0 :: c1 :: c2 :: c3 :: c4 :: c5 :: u6 :: c7 :: c8 :: c9 :: c10 :: c11 :: c12 :: (.slice a M.length c) :: j :: u15 :: c16 :: c17 :: c18 :: c19 :: c20 :: c21 :: c22 :: c23 :: c24 :: c25 :: c26 :: c27 :: c28 :: c29 :: c30 :: c31 :: c32 :: c33 :: c34 :: c35 :: c36 :: c37 :: c38 :: c39 :: c40 :: c41 :: c42 :: c43 :: c44 :: c45 :: c46 :: c47 :: c48 :: c49 :: c50 :: c51 :: c52 :: c53 :: c54 :: c55 :: c56 :: c57 :: c58 :: c59 :: c60 :: c61 :: c62 :: c63 :: c64 :: c65 :: c66 :: c67 :: c68 :: c69 :: c70 :: c71 :: c72 :: c73 :: c74 :: c75 :: c76 :: c77 :: c78 :: c79 :: c80 :: c81 :: c82 :: c83 :: c84 :: c85 :: c86 :: c87 :: c88 :: c89 :: c90 :: c91 :: c92 :: c93 :: c94 :: c95 :: c96 :: c97 :: c98 :: c99 :: c100 :: c101 :: c102 :: c103 :: c104 :: c105 :: c106 :: c107 :: c108 :: c109 :: c110 :: c111 :: c112 :: c113 :: c114 :: c115 :: c116 :: c117 :: c118 :: c119 :: c120 :: c121 :: c122 :: c123 :: c124 :: c125 :: c126 :: c127 :: c128 :: c129 :: c130 :: c131 :: c132 :: c133 :: c134 :: c135 :: c136 :: u137 :: u138 :: u139 :: u140 :: u141 :: u142 :: u143 :: u144 :: u145 :: u146 :: u147 :: u148 :: u149 :: u150 :: u151 :: u152 :: u153 :: u154 :: u155 :: u156 :: u157 :: u158 :: u159 :: u160 :: u161 :: u162 :: u163 :: u164 :: u165 :: u166 :: u167 :: u168 :: u169 :: u170 :: u171 :: c172 :: c173 :: c174 :: c175 :: c176 :: c177 :: c178 :: c179 :: c180 :: c181 :: c182 :: c183 :: c184 :: c185 :: c186 :: c187 :: c188 :: c189 :: c190 :: c191 :: c192 :: c193 :: c194 :: c195 :: c196 :: c197 :: c198 :: c199 :: c200 :: c201 :: c202 :: c203 :: c204 :: c205 :: c206 :: c207 :: c208 :: c209 :: c210 :: c211 :: c212 :: c213 :: c214 :: c215 :: c216 :: c217 :: c218 :: c219 :: c220 :: c221 :: c222 :: c223 :: []), defers := [] } w4) :
    Code.wp Try.prog (Code.loop cvBody2) (Exit.inBlock 2 (onlyN N)) { tmps := List.toArray (c0 :: c1 :: c2 :: c3 :: c4 :: c5 :: c6 :: c7 :: c8 :: c9 :: c10 :: c11 :: c12 :: (.slice a M.length c) :: (.int .i64 0) :: c15 :: c16 :: c17 :: c18 :: c19 :: c20 :: c21 :: c22 :: c23 :: c24 :: c25 :: c26 :: c27 :: c28 :: c29 :: c30 :: c31 :: c32 :: c33 :: c34 :: c35 :: c36 :: c37 :: c38 :: c39 :: c40 :: c41 :: c42 :: c43 :: c44 :: c45 :: c46 :: c47 :: c48 :: c49 :: c50 :: c51 :: c52 :: c53 :: c54 :: c55 :: c56 :: c57 :: c58 :: c59 :: c60 :: c61 :: c62 :: c63 :: c64 :: c65 :: c66 :: c67 :: c68 :: c69 :: c70 :: c71 :: c72 :: c73 :: c74 :: c75 :: c76 :: c77 :: c78 :: c79 :: c80 :: c81 :: c82 :: c83 :: c84 :: c85 :: c86 :: c87 :: c88 :: c89 :: c90 :: c91 :: c92 :: c93 :: c94 :: c95 :: c96 :: c97 :: c98 :: c99 :: c100 :: c101 :: c102 :: c103 :: c104 :: c105 :: c106 :: c107 :: c108 :: c109 :: c110 :: c111 :: c112 :: c113 :: c114 :: c115 :: c116 :: c117 :: c118 :: c119 :: c120 :: c121 :: c122 :: c123 :: c124 :: c125 :: c126 :: c127 :: c128 :: c129 :: c130 :: c131 :: c132 :: c133 :: c134 :: c135 :: c136 :: c137 :: c138 :: c139 :: c140 :: c141 :: c142 :: c143 :: c144 :: c145 :: c146 :: c147 :: c148 :: c149 :: c150 :: c151 :: c152 :: c153 :: c154 :: c155 :: c156 :: c157 :: c158 :: c159 :: c160 :: c161 :: c162 :: c163 :: c164 :: c165 :: c166 :: c167 :: c168 :: c169 :: c170 :: c171 :: c172 :: c173 :: c174 :: c175 :: c176 :: c177 :: c178 :: c179 :: c180 :: c181 :: c182 :: c183 :: c184 :: c185 :: c186 :: c187 :: c188 :: c189 :: c190 :: c191 :: c192 :: c193 :: c194 :: c195 :: c196 :: c197 :: c198 :: c199 :: c200 :: c201 :: c202 :: c203 :: c204 :: c205 :: c206 :: c207 :: c208 :: c209 :: c210 :: c211 :: c212 :: c213 :: c214 :: c215 :: c216 :: c217 :: c218 :: c219 :: c220 :: c221 :: c222 :: c223 :: []), defers := [] } w := by
  obtain ⟨a', c', e', hcl⟩ := hr
  cases e'
  have HCL := hidMk hcl
  have HA := hidMk hA
  clear hcl hA
  conv => arg 2; arg 1; whnf
  go_loopg [14] M.length (fun gk j wr => ∃ (q : Nat), gk + q = M.length ∧ j = .int .i64 q ∧ Below w.heap.size w wr)
  case atStart => exact ⟨0, by omega, rfl, Below.refl _ _⟩
  case round =>
    obtain ⟨q, hgk, rfl, hb⟩ := hrel
    by_cases hlq : q < M.length
    · have hlq' : (q : Int) < (M.length : Int) := by omega
      obtain ⟨x, hx⟩ : ∃ x, M[q]? = some x := ⟨M[q], by simp [hlq]⟩
      have HX := hidMk hx
      clear hx
      generalize wr = w2 at *
      go_wp2
      go_loopg [15] q (fun gk j wr => ∃ (r : Nat), gk + r = q ∧ j = .int .i64 r ∧ Below w.heap.size w wr)
      case atStart => exact ⟨0, by omega, rfl, hb⟩
      case round =>
        clear hb
        obtain ⟨r, hgk3, rfl, hb⟩ := hrel
        by_cases hlr : r < q
        · have hlr' : (r : Int) < (q : Int) := by omega
          have hlr2 : (r : Int) < (M.length : Int) := by omega
          obtain ⟨y, hy⟩ : ∃ y, M[r]? = some y := ⟨M[r]'(by omega), by simp [show r < M.length by omega]⟩
          have hyx := HA.out q r x y hlr HX.out hy
          have g1 : decide (x.a < y.b) = false := by simp; omega
          obtain ⟨b1, o1, e0, e1, e2⟩ := HCL.out q x HX.out
          obtain ⟨b2, o2, e0', e3, e4⟩ := HCL.out r y hy
          subst e0
          cases e0'
          replace e1 := xcell hb e1
          replace e2 := xcell hb e2
          replace e3 := xcell hb e3
          replace e4 := xcell hb e4
          have HCL2 := hidMk (And.intro HCL.out HX.out)
          clear HCL HX hyx hy
          go_wp2
          go_quiet (fail)
          go_wp2
          go_roundg (gk - 1)
          case measure => omega
          case rel => exact ⟨r + 1, by omega, by go_num, below_drewN hb _⟩
        · have hlr' : ¬ (r : Int) < (q : Int) := by omega
          go_wp2
          go_roundg (M.length - (q + 1))
          case measure => omega
          case rel => exact ⟨q + 1, by omega, by go_num, hb⟩
    · have hlq' : ¬ (q : Int) < (M.length : Int) := by omega
      go_wp2
      exact hexit _ _ _ _ _ _ _ _ _ _ _ _ _ _ _ _ _ _ _ _ _ _ _ _ _ _ _ _ _ _ _ _ _ _ _ _ _ _ wr hb

theorem cv_loop4 (w : World) (M xs : List Wn) (a al : Option Addr) (c cl : Nat) (hlen : M.length ≤ 8796093022208) (hlx : xs.length ≤ 8796093022208) (hr : RdW w (.slice a M.length c) M) (hrl : RdW w (.slice al xs.length cl) xs)
    (hC : ∀ (i : Nat) (x : Wn), xs[i]? = some x → x.a < x.b → ∃ (k : Nat) (m : Wn), M[k]? = some m ∧ m.a ≤ x.a ∧ x.b ≤ m.b)
    (c0 c1 c3 c4 c5 c6 c7 c8 c9 c10 c11 c12 c14 c15 c17 c18 c19 c20 c21 c22 c23 c24 c25 c26 c27 c28 c29 c30 c31 c32 c33 c34 c35 c36 c37 c38 c39 c40 c41 c42 c43 c44 c45 c46 c47 c48 c49 c50 c51 c52 c53 c54 c55 c56 c57 c58 c59 c60 c61 c62 c63 c64 c65 c66 c67 c68 c69 c70 c71 c72 c73 c74 c75 c76 c77 c78 c79 c80 c81 c82 c83 c84 c85 c86 c87 c88 c89 c90 c91 c92 c93 c94 c95 c96 c97 c98 c99 c100 c101 c102 c103 c104 c105 c106 c107 c108 c109 c110 c111 c112 c113 c114 c115 c116 c117 c118 c119 c120 c121 c122 c123 c124 c125 c126 c127 c128 c129 c130 c131 c132 c133 c134 c135 c136 c137 c138 c139 c140 c141 c142 c143 c144 c145 c146 c147 c148 c149 c150 c151 c152 c153 c154 c155 c156 c157 c158 c159 c160 c161 c162 c163 c164 c165 c166 c167 c168 c169 c170 c171 c172 c173 c174 c175 c176 c177 c178 c179 c180 c181 c182 c183 c184 c185 c186 c187 c188 c189 c190 c191 c192 c193 c194 c195 c196 c197 c198 c199 c200 c201 c202 c203 c204 c205 c206 c207 c208 c209 c210 c211 c212 c213 c214 c215 c216 c217 c218 c219 c220 c221 c222 c223 : Value) (N : Act → World → Prop)
    (hexit : ∀ (j u6 u17 u18 u172 u173 u174 u175 u176 u177 u178 u179 u180 u181 u182 u183 u184 u185 u186 u187 u188 u189 u190 u191 u192 u193 u194 u195 u196 u197 u198 u199 u200 u201 u202 u203 u204 u205 u206 u207 u208 u209 u210 u211 u212 u213 u214 u215 u216 u217 u218 u219 u220 u221 u222 u223 : Value) (w4 : World), Below w.heap.size w w4 →
      N { tmps := List.toArray (c0 :: c1 :: (.slice al xs.length cl) :: c3 :: c4 :: c5 :: u6 :: c7 :: c8 :: c9 :: c10 :: c11 :: c12 :: (.slice a M.length c) :: c14 :: c15 :: j :: u17 :: u18 :: c19 :: c20 :: c21 :: c22 :: c23 :: c24 :: c25 :: c26 :: c27 :: c28 :: c29 :: c30 :: c31 :: c32 :: c33 :: c34 :: c35 :: c36 :: c37 :: c38 :: c39 :: c40 :: c41 :: c42 :: c43 :: c44 :: c45 :: c46 :: c47 :: c48 :: c49 :: c50 :: c51 :: c52 :: c53 :: c54 :: c55 :: c56 :: c57 :: c58 :: c59 :: c60 :: c61 :: c62 :: c63 :: c64 :: c65 :: c66 :: c67 :: c68 :: c69 :: c70 :: c71 :: c72 :: c73 :: c74 :: c75 :: c76 :: c77 :: c78 :: c79 :: c80 :: c81 :: c82 :: c83 :: c84 :: c85 :: c86 :: c87 :: c88 :: c89 :: c90 :: c91 :: c92 :: c93 :: c94 :: c95 :: c96 :: c97 :: c98 :: c99 :: c100 :: c101 :: c102 :: c103 :: c104 :: c105 :: c106 :: c107 :: c108 :: c109 :: c110 :: c111 :: c112 :: c113 :: c114 :: c115 :: c116 :: c117 :: c118 :: c119 :: c120 :: c121 :: c122 :: c123 :: c124 :: c125 :: c126 :: c127 :: c128 :: c129 :: c130 :: c131 :: c132 :: c133 :: c134 :: c135 :: c136 :: c137 :: c138 :: c139 :: c140 :: c141 :: c142 :: c143 :: c144 :: c145 :: c146 :: c147 :: c148 :: c149 :: c150 :: c151 :: c152 :: c153 :: c154 :: c155 :: c156 :: c157 :: c158 :: c159 :: c160 :: c161 :: c162 :: c163 :: c164 :: c165 :: c166 :: c167 :: c168 :: c169 :: c170 :: c171 :: u172 :: u173 :: u174 :: u175 :: u176 :: u177 :: u178 :: u179 :: u180 :: u181 :: u182 :: u183 :: u184 :: u185 :: u186 :: u187 :: u188 :: u189 :: u190 :: u191 :: u192 :: u193 :: u194 :: u195 :: u196 :: u197 :: u198 :: u199 :: u200 :: u201 :: u202 :: u203 :: u204 :: u205 :: u206 :: u207 :: u208 :: u209 :: u210 :: u211 :: u212 :: u213 :: u214 :: u215 :: u216 :: u217 :: u218 :: u219 :: u220 :: u221 :: u222 :: u223 :: []), defers := [] } w4) :
    Code.wp Try.prog (Code.loop cvBody4) (Exit.inBlock 6 (onlyN N)) { tmps := List.toArray (c0 :: c1 :: (.slice al xs.length cl) :: c3 :: c4 :: c5 :: c6 :: c7 :: c8 :: c9 :: c10 :: c11 :: c12 :: (.slice a M.length c) :: c14 :: c15 :: (.int .i64 0) :: c17 :: c18 :: c19 :: c20 :: c21 :: c22 :: c23 :: c24 :: c25 :: c26 :: c27 :: c28 :: c29 :: c30 :: c31 :: c32 :: c33 :: c34 :: c35 :: c36 :: c37 :: c38 :: c39 :: c40 :: c41 :: c42 :: c43 :: c44 :: c45 :: c46 :: c47 :: c48 :: c49 :: c50 :: c51 :: c52 :: c53 :: c54 :: c55 :: c56 :: c57 :: c58 :: c59 :: c60 :: c61 :: c62 :: c63 :: c64 :: c65 :: c66 :: c67 :: c68 :: c69 :: c70 :: c71 :: c72 :: c73 :: c74 :: c75 :: c76 :: c77 :: c78 :: c79 :: c80 :: c81 :: c82 :: c83 :: c84 :: c85 :: c86 :: c87 :: c88 :: c89 :: c90 :: c91 :: c92 :: c93 :: c94 :: c95 :: c96 :: c97 :: c98 :: c99 :: c100 :: c101 :: c102 :: c103 :: c104 :: c105 :: c106 :: c107 :: c108 :: c109 :: c110 :: c111 :: c112 :: c113 :: c114 :: c115 :: c116 :: c117 :: c118 :: c119 :: c120 :: c121 :: c122 :: c123 :: c124 :: c125 :: c126 :: c127 :: c128 :: c129 :: c130 :: c131 :: c132 :: c133 :: c134 :: c135 :: c136 :: c137 :: c138 :: c139 :: c140 :: c141 :: c142 :: c143 :: c144 :: c145 :: c146 :: c147 :: c148 :: c149 :: c150 :: c151 :: c152 :: c153 :: c154 :: c155 :: c156 :: c157 :: c158 :: c159 :: c160 :: c161 :: c162 :: c163 :: c164 :: c165 :: c166 :: c167 :: c168 :: c169 :: c170 :: c171 :: c172 :: c173 :: c174 :: c175 :: c176 :: c177 :: c178 :: c179 :: c180 :: c181 :: c182 :: c183 :: c184 :: c185 :: c186 :: c187 :: c188 :: c189 :: c190 :: c191 :: c192 :: c193 :: c194 :: c195 :: c196 :: c197 :: c198 :: c199 :: c200 :: c201 :: c202 :: c203 :: c204 :: c205 :: c206 :: c207 :: c208 :: c209 :: c210 :: c211 :: c212 :: c213 :: c214 :: c215 :: c216 :: c217 :: c218 :: c219 :: c220 :: c221 :: c222 :: c223 :: []), defers := [] } w := by
  obtain ⟨a', c', e', hcl⟩ := hr
  cases e'
  obtain ⟨a', c', e', hcx⟩ := hrl
  cases e'
  have HCL := hidMk hcl
  have HCX := hidMk hcx
  have HC := hidMk hC
  clear hcl hcx hC
  conv => arg 2; arg 1; whnf
  go_loopg [16] xs.length (fun gk j wr => ∃ (q : Nat), gk + q = xs.length ∧ j = .int .i64 q ∧ Below w.heap.size w wr)
  case atStart => exact ⟨0, by omega, rfl, Below.refl _ _⟩
  case round =>
    obtain ⟨q, hgk, rfl, hb⟩ := hrel
    by_cases hlq : q < xs.length
    · have hlq' : (q : Int) < (xs.length : Int) := by omega
      obtain ⟨x, hx⟩ : ∃ x, xs[q]? = some x := ⟨xs[q], by simp [hlq]⟩
      have HX := hidMk hx
      obtain ⟨b1, o1, e0, e1, e2⟩ := HCX.out q x hx
      subst e0
      have f1 := xcell hb e1
      have f2 := xcell hb e2
      clear hx
      go_wp2
      go_quiet (fail)
      go_wp2
      have hb' := below_drewN hb nq
      clear hb f1 f2
      go_loopg [17, 18] M.length (fun gk inn j wr => ∃ (r : Nat) (ib : Bool), gk + r = M.length ∧ j = .int .i64 r ∧ inn = .bool ib ∧ (ib = true ↔ x.b ≤ x.a ∨ ∃ k < r, ∃ m, M[k]? = some m ∧ m.a ≤ x.a ∧ x.b ≤ m.b) ∧ Below w.heap.size w wr)
      case atStart => exact ⟨0, decide (x.a ≥ x.b), by omega, rfl, rfl, by simp, hb'⟩
      case round =>
        clear hb'
        obtain ⟨r, ib, hgk3, rfl, rfl, hib, hb⟩ := hrel
        have HIB := hidMk hib
        clear hib
        by_cases hlr : r < M.length
        · have hlr' : (r : Int) < (M.length : Int) := by omega
          cases ib with
          | true =>
            go_wp2
            go_quiet (fail)
            go_wp2
            go_roundg (gk - 1)
            case measure => omega
            case rel =>
              refine ⟨r + 1, true, by omega, by go_num, rfl, ?_, below_drewN hb _⟩
              refine ⟨fun _ => ?_, fun _ => rfl⟩
              rcases HIB.out.1 (by first | rfl | trivial) with h | ⟨k, h1, h2⟩
              · exact .inl h
              · exact .inr ⟨k, by omega, h2⟩
          | false =>
            obtain ⟨m, hm⟩ : ∃ m, M[r]? = some m := ⟨M[r], by simp [hlr]⟩
            have HM := hidMk hm
            obtain ⟨b2, o2, e0', e3, e4⟩ := HCL.out r m hm
            subst e0'
            replace e1 := xcell hb e1
            replace e2 := xcell hb e2
            replace e3 := xcell hb e3
            replace e4 := xcell hb e4
            clear hm
            have HREST : Hid (∀ ib' : Bool, (ib' = true ↔ (m.a ≤ x.a ∧ x.b ≤ m.b)) → (ib' = true ↔ x.b ≤ x.a ∨ ∃ k < r + 1, ∃ m, M[k]? = some m ∧ m.a ≤ x.a ∧ x.b ≤ m.b)) := by
              intro ib' h
              rw [h]
              constructor
              · intro hh; exact .inr ⟨r, by omega, m, HM.out, hh⟩
              · rintro (hh | ⟨k, hk, m', hm', hh⟩)
                · exact absurd (HIB.out.2 (.inl hh)) (by simp)
                · by_cases hkr : k = r
                  · subst hkr
                    have := HM.out; rw [hm'] at this; cases this; exact hh
                  · exact absurd (HIB.out.2 (.inr ⟨k, by omega, m', hm', hh⟩)) (by simp)
            by_cases h1 : m.a ≤ x.a
            · have g1 : decide (x.a ≥ m.a) = true := by simp; omega
              go_wp2
              go_quiet (fail)
              go_wp2
              go_roundg (gk - 1)
              case measure => omega
              case rel => exact ⟨r + 1, decide (x.b ≤ m.b), by omega, by go_num, rfl, HREST.out _ (by simp [h1]), below_drewN hb _⟩
            · have g1 : decide (x.a ≥ m.a) = false := by simp; omega
              go_wp2
              go_quiet (fail)
              go_wp2
              go_roundg (gk - 1)
              case measure => omega
              case rel => exact ⟨r + 1, false, by omega, by go_num, rfl, HREST.out _ ⟨(fun h => by cases h), (fun h => by omega)⟩, below_drewN hb _⟩
        · have hlr' : ¬ (r : Int) < (M.length : Int) := by omega
          have hit : ib = true := by
            rw [HIB.out]
            by_cases h : x.a < x.b
            · obtain ⟨k, m, h1, h2⟩ := HC.out q x HX.out h
              have := (List.getElem?_eq_some_iff.1 h1).1
              exact .inr ⟨k, by omega, m, h1, h2⟩
            · exact .inl (by omega)
          clear HIB
          subst hit
          go_wp2
          go_roundg (xs.length - (q + 1))
          case measure => omega
          case rel => exact ⟨q + 1, by omega, by go_num, hb⟩
    · have hlq' : ¬ (q : Int) < (xs.length : Int) := by omega
      go_wp2
      exact hexit _ _ _ _ _ _ _ _ _ _ _ _ _ _ _ _ _ _ _ _ _ _ _ _ _ _ _ _ _ _ _ _ _ _ _ _ _ _ _ _ _ _ _ _ _ _ _ _ _ _ _ _ _ _ _ _ wr hb
end Go.Proofs.Ytkedbmpnhplmaaa
