import Derived.Test.YtkedbmpnhplmaaaCvC
namespace Go.Proofs.Ytkedbmpnhplmaaa
open Go.RowKit Go.Shelf
set_option linter.unusedVariables false
set_option linter.unusedSimpArgs false
set_option maxRecDepth 100000
set_option maxHeartbeats 4000000
attribute [local go_sem ↓] neqlW
attribute [local go_sem] guardW

theorem cv_later {w wx : World} {g : Nat} {k s p : Int} (hb : Below w.heap.size w wx) (h : w.cell? ⟨g, 0, none⟩ = some (.int .i64 k) ∧ w.cell? ⟨g, 1, none⟩ = some (.int .i64 s) ∧ w.cell? ⟨g, 2, none⟩ = some (.int .i64 p)) :
    wx.cell? ⟨g, 0, none⟩ = some (.int .i64 k) ∧ wx.cell? ⟨g, 1, none⟩ = some (.int .i64 s) ∧ wx.cell? ⟨g, 2, none⟩ = some (.int .i64 p) := ⟨xcell hb h.1, xcell hb h.2.1, xcell hb h.2.2⟩

theorem covers_walk (k s p t : Int) (hs : (Lit.int .i64 s).wf = true) (v : Value) (xs : List Wn) (W : World) (hmax : xs.length * 16 ≤ 140737488355328) (hr : RdW W v xs) :
    Calls Try.prog 4 #[.agg #[.int .i64 k, .int .i64 s, .int .i64 p], .int .i64 t, v] W fun e W' => e = .returned (.bool true) ∧ Below W.heap.size W W' := by
  have HR : Hid (RdW W v xs) := hr
  obtain ⟨a, cap, rfl, -⟩ := hr
  have HB0 : Hid (Below W.heap.size W (W.alloc (.cells #[.int .i64 k, .int .i64 s, .int .i64 p] 31))) := xbel1 _ _
  go_enter Try.func4, Try.ntmps4
  go_wp2_with fail
  refine (callsIn_wide.1 (assign_ok (k := 1) (s := 10) (p := 0) (t := 25) (by decide) rfl (by omega) (by omega) (by rw [first_in]; decide) 3 (by omega) _)).mono ?_
  rintro e w1 ⟨v1, rfl, r1, b1⟩
  rw [first_in] at r1
  have q1 := cv_later b1 (g := W.heap.size) (k := k) (s := s) (p := p) ⟨by go_simp, by go_simp, by go_simp⟩
  obtain ⟨a1, cap1, e0, m1⟩ := RdW.own r1
  obtain ⟨b, o, rfl, e1, e2⟩ := m1 0 _ rfl
  simp only [List.length_cons, List.length_nil, Nat.zero_add] at e0
  subst e0
  simp only [Nat.zero_mul, Nat.add_zero] at e1 e2
  have HB1 : Hid (Below W.heap.size W w1) := HB0.out.trans (b1.mono HB0.out.size)
  clear b1 m1 r1 HB0
  obtain ⟨c0, c1, c2⟩ := q1
  have HS : Hid (w1.cell? ⟨W.heap.size, 0, none⟩ = some (.int .i64 k) ∧ w1.cell? ⟨W.heap.size, 1, none⟩ = some (.int .i64 s) ∧ w1.cell? ⟨W.heap.size, 2, none⟩ = some (.int .i64 p)) := ⟨c0, c1, c2⟩
  go_wp2_with fail
  cases hbad : (!validB k s p || decide (t < 0) || decide (t > 1099511627776)) with
  | true =>
    refine (callsIn_wide.1 (assign_bad hs hbad 3 (by omega) _)).mono ?_
    rintro e w2 ⟨rfl, b2⟩
    have HB2 : Hid (Below W.heap.size W w2) := HB1.out.trans (b2.mono HB1.out.size)
    clear hbad b2 e1 e2 c0 c1 c2 HS
    go_wp2_with fail
    refine wp_mono (cv_loop1 w2 [] t none 0 (by simp) ⟨none, 0, rfl, fun i x hx => by simp at hx⟩ (fun i x hx => by simp at hx) (fun i x y hx => by simp at hx) _ _ _ _ _ _ _ _ _ _ _ _ _ _ _ _ _ _ _ _ _ _ _ _ _ _ _ _ _ _ _ _ _ _ _ _ _ _ _ _ _ _ _ _ _ _ _ _ _ _ _ _ _ _ _ _ _ _ _ _ _ _ _ _ _ _ _ _ _ _ _ _ _ _ _ _ _ _ _ _ _ _ _ _ _ _ _ _ _ _ _ _ _ _ _ _ _ _ _ _ _ _ _ _ _ _ _ _ _ _ _ _ _ _ _ _ _ _ _ _ _ _ _ _ _ _ _ _ _ _ _ _ _ _ _ _ _ _ _ _ _ _ _ _ _ _ _ _ _ _ _ _ _ _ _ _ _ _ _ _ _ _ _ _ _ _ _ _ _ _ _ _ _ _ _ _ _ _ _ _ _ _ _ _ _ _ _ _ _ _ _ _ _ _ _ _ _ _ _ _ _ _ _ _ _ _ _ _ _ _ _ _ _ _ _ _ _ _ _ _ _ (N := _) ?_) onlyN_le
    intro j u6 u51 u52 u53 u54 u55 u56 u57 u58 u59 u60 u61 u62 u63 u64 u65 u66 u67 u68 u69 u70 u71 u72 u73 u74 u75 u76 u77 u78 u79 u80 u81 u82 u83 u84 u85 u86 u87 u88 u89 u90 u91 u92 u93 u94 u95 u96 u97 u98 u99 u100 u101 u102 u103 u104 w3 hb3
    have HB3 : Hid (Below W.heap.size W w3) := HB2.out.trans (hb3.mono HB2.out.size)
    clear hb3 HB2
    have HBT : Hid (Below W.heap.size W w3) := HB3.out
    go_wp2_with fail
    refine (callsIn_wide.1 (merge_any _ _ xs hmax (HR.out.later HBT.out))).mono ?_
    rintro e wm ⟨um, ps, rfl, hps, hown, hbm⟩
    have HM := hidMk (merged_facts hps)
    have HRM : Hid (RdW wm um (mFold (some_ ps))) := RdW.own hown
    have HBM : Hid (Below W.heap.size W wm) := HBT.out.trans (hbm.mono HBT.out.size)
    have HML : Hid ((mFold (some_ ps)).length ≤ xs.length) := by
      have h1 := mFold_len (some_ ps)
      have h2 : (some_ ps).length ≤ ps.length := List.length_filter_le _ _
      have h3 := hps.1.length_eq
      unfold Hid; omega
    clear hown hps hbm
    generalize mFold (some_ ps) = M at *
    obtain ⟨am, cm, rfl, -⟩ := HRM.out
    go_wp2_with fail
    refine wp_mono (cv_loop2 wm M am cm (by have := HML.out; omega) HRM.out HM.out.1 _ _ _ _ _ _ _ _ _ _ _ _ _ _ _ _ _ _ _ _ _ _ _ _ _ _ _ _ _ _ _ _ _ _ _ _ _ _ _ _ _ _ _ _ _ _ _ _ _ _ _ _ _ _ _ _ _ _ _ _ _ _ _ _ _ _ _ _ _ _ _ _ _ _ _ _ _ _ _ _ _ _ _ _ _ _ _ _ _ _ _ _ _ _ _ _ _ _ _ _ _ _ _ _ _ _ _ _ _ _ _ _ _ _ _ _ _ _ _ _ _ _ _ _ _ _ _ _ _ _ _ _ _ _ _ _ _ _ _ _ _ _ _ _ _ _ _ _ _ _ _ _ _ _ _ _ _ _ _ _ _ _ _ _ _ _ _ _ _ _ _ _ _ _ _ _ _ _ _ _ _ _ _ _ _ _ _ _ _ _ _ _ _ _ _ _ _ _ _ _ _ _ _ _ _ _ _ _ _ _ _ _ _ _ _ _ _ _ _ _ _ _ (N := _) ?_) onlyN_le
    intro j u6 u15 u137 u138 u139 u140 u141 u142 u143 u144 u145 u146 u147 u148 u149 u150 u151 u152 u153 u154 u155 u156 u157 u158 u159 u160 u161 u162 u163 u164 u165 u166 u167 u168 u169 u170 u171 wp hbp
    have HBP := hidMk hbp
    clear hbp
    go_wp2_with fail
    refine wp_mono (cv_loop4 wp M xs am a cm cap (by have := HML.out; omega) (by omega) (HRM.out.later HBP.out) (HR.out.later (HBM.out.trans (HBP.out.mono HBM.out.size))) HM.out.2 _ _ _ _ _ _ _ _ _ _ _ _ _ _ _ _ _ _ _ _ _ _ _ _ _ _ _ _ _ _ _ _ _ _ _ _ _ _ _ _ _ _ _ _ _ _ _ _ _ _ _ _ _ _ _ _ _ _ _ _ _ _ _ _ _ _ _ _ _ _ _ _ _ _ _ _ _ _ _ _ _ _ _ _ _ _ _ _ _ _ _ _ _ _ _ _ _ _ _ _ _ _ _ _ _ _ _ _ _ _ _ _ _ _ _ _ _ _ _ _ _ _ _ _ _ _ _ _ _ _ _ _ _ _ _ _ _ _ _ _ _ _ _ _ _ _ _ _ _ _ _ _ _ _ _ _ _ _ _ _ _ _ _ _ _ _ _ _ _ _ _ _ _ _ _ _ _ _ _ _ _ _ _ _ _ _ _ _ _ _ _ _ _ _ _ _ _ _ _ _ _ _ _ _ _ _ _ _ _ _ _ _ _ _ _ _ _ _ _ _ _ (N := _) ?_) onlyN_le
    intro j2 u6 u17 u18 u172 u173 u174 u175 u176 u177 u178 u179 u180 u181 u182 u183 u184 u185 u186 u187 u188 u189 u190 u191 u192 u193 u194 u195 u196 u197 u198 u199 u200 u201 u202 u203 u204 u205 u206 u207 u208 u209 u210 u211 u212 u213 u214 u215 u216 u217 u218 u219 u220 u221 u222 u223 wq hbq
    have HBQ := hidMk hbq
    clear hbq
    go_wp2_with fail
    go_ret
    exact ⟨rfl, (HBM.out.trans (HBP.out.mono HBM.out.size)).trans (HBQ.out.mono (HBM.out.trans (HBP.out.mono HBM.out.size)).size)⟩
  | false =>
    simp at hbad
    have hv : validB k s p = true := hbad.1.1
    have h0 : 0 ≤ t := by omega
    have h1 : t ≤ 1099511627776 := by omega
    have HF := hidMk (inL_facts hv h0 h1)
    have hl1 : (inL k s p t).length ≤ 1048577 := by
      have := HF.out
      exact inL_small hv h0 h1
    refine (callsIn_wide.1 (assign_ok hs hv h0 h1 hl1 3 (by omega) _)).mono ?_
    rintro e w2 ⟨v2, rfl, r2, b2⟩
    have HB2 : Hid (Below W.heap.size W w2) := HB1.out.trans (b2.mono HB1.out.size)
    have HS2 := hidMk (cv_later b2 HS.out)
    have HR2 : Hid (RdW w2 v2 (inL k s p t)) := RdW.own r2
    have HSL : Hid (k = 2 → ∃ n : Nat, (inL 2 s p t).length = n ∧ 1 ≤ p ∧ p ≤ s ∧ s ≤ 1048576 ∧ n ≤ 1048577 ∧ (n : Int) * p ≤ s + p - 1 ∧ s < ((n : Int) + 1) * p) := fun hk => slide_cnt (by rw [← hk]; exact hv) h0 h1
    have HEQ : Hid (k = 2 → inL k s p t = inL 2 s p t) := fun hk => by rw [hk]
    clear hbad b2 e1 e2 c0 c1 c2 HS r2 hv
    generalize inL k s p t = L at *
    obtain ⟨a2, c2, rfl, -⟩ := HR2.out
    have hne : ((L.length : Int) == 0) = false := by have := HF.out.2.2; simp; intro h; exact this (by simp [h])
    have hne2 : ¬ L.length = 0 := HF.out.2.2
    have hne3 : ¬ L = [] := fun h => hne2 (by rw [h]; rfl)
    go_wp2_with fail
    refine wp_mono (cv_loop1 w2 L t a2 c2 hl1 HR2.out HF.out.1 HF.out.2.1 _ _ _ _ _ _ _ _ _ _ _ _ _ _ _ _ _ _ _ _ _ _ _ _ _ _ _ _ _ _ _ _ _ _ _ _ _ _ _ _ _ _ _ _ _ _ _ _ _ _ _ _ _ _ _ _ _ _ _ _ _ _ _ _ _ _ _ _ _ _ _ _ _ _ _ _ _ _ _ _ _ _ _ _ _ _ _ _ _ _ _ _ _ _ _ _ _ _ _ _ _ _ _ _ _ _ _ _ _ _ _ _ _ _ _ _ _ _ _ _ _ _ _ _ _ _ _ _ _ _ _ _ _ _ _ _ _ _ _ _ _ _ _ _ _ _ _ _ _ _ _ _ _ _ _ _ _ _ _ _ _ _ _ _ _ _ _ _ _ _ _ _ _ _ _ _ _ _ _ _ _ _ _ _ _ _ _ _ _ _ _ _ _ _ _ _ _ _ _ _ _ _ _ _ _ _ _ _ _ _ _ _ _ _ _ _ _ _ _ _ _ (N := _) ?_) onlyN_le
    intro j u6 u51 u52 u53 u54 u55 u56 u57 u58 u59 u60 u61 u62 u63 u64 u65 u66 u67 u68 u69 u70 u71 u72 u73 u74 u75 u76 u77 u78 u79 u80 u81 u82 u83 u84 u85 u86 u87 u88 u89 u90 u91 u92 u93 u94 u95 u96 u97 u98 u99 u100 u101 u102 u103 u104 w3 hb3
    have HB3 : Hid (Below W.heap.size W w3) := HB2.out.trans (hb3.mono HB2.out.size)
    obtain ⟨c0, c1, c2'⟩ := cv_later hb3 HS2.out
    clear hb3 HB2 HS2
    by_cases hk : k = 2
    · obtain ⟨n, hn, p1, p2, p3, p4, p5, p6⟩ := HSL.out hk
      have hLn : L.length = n := by rw [HEQ.out hk]; exact hn
      subst hk
      have HP6 := p6
      rw [Int.add_mul] at HP6
      have w0 : 0 ≤ (n : Int) * p := Int.mul_nonneg (by omega) (by omega)
      have v1 : wrap64 ((n : Int) * p) = (n : Int) * p := w64 (by omega) (by omega)
      have v2 : wrap64 (s + p) = s + p := w64 (by omega) (by omega)
      have v3 : wrap64 (s + p - 1) = s + p - 1 := w64 (by omega) (by omega)
      have v4 : wrap64 ((n : Int) + 1) = (n : Int) + 1 := w64 (by omega) (by omega)
      have v5 : wrap64 (((n : Int) + 1) * p) = ((n : Int) + 1) * p := w64 (by rw [Int.add_mul]; omega) (by rw [Int.add_mul]; omega)
      have g1 : decide ((n : Int) * p > s + p - 1) = false := by simp; omega
      have g2 : decide (((n : Int) + 1) * p ≤ s) = false := by simp; omega
      have hg2 : ¬ ((n : Int) + 1) * p ≤ s := by omega
      have hg1 : ¬ (n : Int) * p > s + p - 1 := by omega
      have HLN := hidMk hLn
      clear hn HSL HEQ HP6 p5 p6
      generalize hq1 : (n : Int) * p = Q1 at *
      generalize hq2 : ((n : Int) + 1) * p = Q2 at *
      rw [hLn]
      clear hLn
      have HBT : Hid (Below W.heap.size W w3) := HB3.out
      go_wp2_with fail
      refine (callsIn_wide.1 (merge_any _ _ xs hmax (HR.out.later HBT.out))).mono ?_
      rintro e wm ⟨um, ps, rfl, hps, hown, hbm⟩
      have HM := hidMk (merged_facts hps)
      have HRM : Hid (RdW wm um (mFold (some_ ps))) := RdW.own hown
      have HBM : Hid (Below W.heap.size W wm) := HBT.out.trans (hbm.mono HBT.out.size)
      have HML : Hid ((mFold (some_ ps)).length ≤ xs.length) := by
        have h1 := mFold_len (some_ ps)
        have h2 : (some_ ps).length ≤ ps.length := List.length_filter_le _ _
        have h3 := hps.1.length_eq
        unfold Hid; omega
      clear hown hps hbm
      generalize mFold (some_ ps) = M at *
      obtain ⟨am, cm, rfl, -⟩ := HRM.out
      go_wp2_with fail
      refine wp_mono (cv_loop2 wm M am cm (by have := HML.out; omega) HRM.out HM.out.1 _ _ _ _ _ _ _ _ _ _ _ _ _ _ _ _ _ _ _ _ _ _ _ _ _ _ _ _ _ _ _ _ _ _ _ _ _ _ _ _ _ _ _ _ _ _ _ _ _ _ _ _ _ _ _ _ _ _ _ _ _ _ _ _ _ _ _ _ _ _ _ _ _ _ _ _ _ _ _ _ _ _ _ _ _ _ _ _ _ _ _ _ _ _ _ _ _ _ _ _ _ _ _ _ _ _ _ _ _ _ _ _ _ _ _ _ _ _ _ _ _ _ _ _ _ _ _ _ _ _ _ _ _ _ _ _ _ _ _ _ _ _ _ _ _ _ _ _ _ _ _ _ _ _ _ _ _ _ _ _ _ _ _ _ _ _ _ _ _ _ _ _ _ _ _ _ _ _ _ _ _ _ _ _ _ _ _ _ _ _ _ _ _ _ _ _ _ _ _ _ _ _ _ _ _ _ _ _ _ _ _ _ _ _ _ _ _ _ _ _ _ _ (N := _) ?_) onlyN_le
      intro j u6 u15 u137 u138 u139 u140 u141 u142 u143 u144 u145 u146 u147 u148 u149 u150 u151 u152 u153 u154 u155 u156 u157 u158 u159 u160 u161 u162 u163 u164 u165 u166 u167 u168 u169 u170 u171 wp hbp
      have HBP := hidMk hbp
      clear hbp
      go_wp2_with fail
      refine wp_mono (cv_loop4 wp M xs am a cm cap (by have := HML.out; omega) (by omega) (HRM.out.later HBP.out) (HR.out.later (HBM.out.trans (HBP.out.mono HBM.out.size))) HM.out.2 _ _ _ _ _ _ _ _ _ _ _ _ _ _ _ _ _ _ _ _ _ _ _ _ _ _ _ _ _ _ _ _ _ _ _ _ _ _ _ _ _ _ _ _ _ _ _ _ _ _ _ _ _ _ _ _ _ _ _ _ _ _ _ _ _ _ _ _ _ _ _ _ _ _ _ _ _ _ _ _ _ _ _ _ _ _ _ _ _ _ _ _ _ _ _ _ _ _ _ _ _ _ _ _ _ _ _ _ _ _ _ _ _ _ _ _ _ _ _ _ _ _ _ _ _ _ _ _ _ _ _ _ _ _ _ _ _ _ _ _ _ _ _ _ _ _ _ _ _ _ _ _ _ _ _ _ _ _ _ _ _ _ _ _ _ _ _ _ _ _ _ _ _ _ _ _ _ _ _ _ _ _ _ _ _ _ _ _ _ _ _ _ _ _ _ _ _ _ _ _ _ _ _ _ _ _ _ _ _ _ _ _ _ _ _ _ _ _ _ _ _ (N := _) ?_) onlyN_le
      intro j2 u6 u17 u18 u172 u173 u174 u175 u176 u177 u178 u179 u180 u181 u182 u183 u184 u185 u186 u187 u188 u189 u190 u191 u192 u193 u194 u195 u196 u197 u198 u199 u200 u201 u202 u203 u204 u205 u206 u207 u208 u209 u210 u211 u212 u213 u214 u215 u216 u217 u218 u219 u220 u221 u222 u223 wq hbq
      have HBQ := hidMk hbq
      clear hbq
      go_wp2_with fail
      go_ret
      exact ⟨rfl, (HBM.out.trans (HBP.out.mono HBM.out.size)).trans (HBQ.out.mono (HBM.out.trans (HBP.out.mono HBM.out.size)).size)⟩
    · have hk' : (k == 2) = false := by simpa using hk
      clear HSL HEQ
      have HBT : Hid (Below W.heap.size W w3) := HB3.out
      go_wp2_with fail
      refine (callsIn_wide.1 (merge_any _ _ xs hmax (HR.out.later HBT.out))).mono ?_
      rintro e wm ⟨um, ps, rfl, hps, hown, hbm⟩
      have HM := hidMk (merged_facts hps)
      have HRM : Hid (RdW wm um (mFold (some_ ps))) := RdW.own hown
      have HBM : Hid (Below W.heap.size W wm) := HBT.out.trans (hbm.mono HBT.out.size)
      have HML : Hid ((mFold (some_ ps)).length ≤ xs.length) := by
        have h1 := mFold_len (some_ ps)
        have h2 : (some_ ps).length ≤ ps.length := List.length_filter_le _ _
        have h3 := hps.1.length_eq
        unfold Hid; omega
      clear hown hps hbm
      generalize mFold (some_ ps) = M at *
      obtain ⟨am, cm, rfl, -⟩ := HRM.out
      go_wp2_with fail
      refine wp_mono (cv_loop2 wm M am cm (by have := HML.out; omega) HRM.out HM.out.1 _ _ _ _ _ _ _ _ _ _ _ _ _ _ _ _ _ _ _ _ _ _ _ _ _ _ _ _ _ _ _ _ _ _ _ _ _ _ _ _ _ _ _ _ _ _ _ _ _ _ _ _ _ _ _ _ _ _ _ _ _ _ _ _ _ _ _ _ _ _ _ _ _ _ _ _ _ _ _ _ _ _ _ _ _ _ _ _ _ _ _ _ _ _ _ _ _ _ _ _ _ _ _ _ _ _ _ _ _ _ _ _ _ _ _ _ _ _ _ _ _ _ _ _ _ _ _ _ _ _ _ _ _ _ _ _ _ _ _ _ _ _ _ _ _ _ _ _ _ _ _ _ _ _ _ _ _ _ _ _ _ _ _ _ _ _ _ _ _ _ _ _ _ _ _ _ _ _ _ _ _ _ _ _ _ _ _ _ _ _ _ _ _ _ _ _ _ _ _ _ _ _ _ _ _ _ _ _ _ _ _ _ _ _ _ _ _ _ _ _ _ _ (N := _) ?_) onlyN_le
      intro j u6 u15 u137 u138 u139 u140 u141 u142 u143 u144 u145 u146 u147 u148 u149 u150 u151 u152 u153 u154 u155 u156 u157 u158 u159 u160 u161 u162 u163 u164 u165 u166 u167 u168 u169 u170 u171 wp hbp
      have HBP := hidMk hbp
      clear hbp
      go_wp2_with fail
      refine wp_mono (cv_loop4 wp M xs am a cm cap (by have := HML.out; omega) (by omega) (HRM.out.later HBP.out) (HR.out.later (HBM.out.trans (HBP.out.mono HBM.out.size))) HM.out.2 _ _ _ _ _ _ _ _ _ _ _ _ _ _ _ _ _ _ _ _ _ _ _ _ _ _ _ _ _ _ _ _ _ _ _ _ _ _ _ _ _ _ _ _ _ _ _ _ _ _ _ _ _ _ _ _ _ _ _ _ _ _ _ _ _ _ _ _ _ _ _ _ _ _ _ _ _ _ _ _ _ _ _ _ _ _ _ _ _ _ _ _ _ _ _ _ _ _ _ _ _ _ _ _ _ _ _ _ _ _ _ _ _ _ _ _ _ _ _ _ _ _ _ _ _ _ _ _ _ _ _ _ _ _ _ _ _ _ _ _ _ _ _ _ _ _ _ _ _ _ _ _ _ _ _ _ _ _ _ _ _ _ _ _ _ _ _ _ _ _ _ _ _ _ _ _ _ _ _ _ _ _ _ _ _ _ _ _ _ _ _ _ _ _ _ _ _ _ _ _ _ _ _ _ _ _ _ _ _ _ _ _ _ _ _ _ _ _ _ _ _ (N := _) ?_) onlyN_le
      intro j2 u6 u17 u18 u172 u173 u174 u175 u176 u177 u178 u179 u180 u181 u182 u183 u184 u185 u186 u187 u188 u189 u190 u191 u192 u193 u194 u195 u196 u197 u198 u199 u200 u201 u202 u203 u204 u205 u206 u207 u208 u209 u210 u211 u212 u213 u214 u215 u216 u217 u218 u219 u220 u221 u222 u223 wq hbq
      have HBQ := hidMk hbq
      clear hbq
      go_wp2_with fail
      go_ret
      exact ⟨rfl, (HBM.out.trans (HBP.out.mono HBM.out.size)).trans (HBQ.out.mono (HBM.out.trans (HBP.out.mono HBM.out.size)).size)⟩
end Go.Proofs.Ytkedbmpnhplmaaa
