import Derived.Test.YthdbfgnjeolfaaaSrE
namespace Go.Proofs.Ythdbfgnjeolfaaa
open Go.RowKit
set_option linter.unusedVariables false
set_option linter.unusedSimpArgs false
set_option maxRecDepth 100000
set_option maxHeartbeats 4000000

theorem tellS_len (tm t : Int) : (tellS tm t).1.length ≤ 1 := by unfold tellS; split <;> simp
theorem takeS_len (rs : List Rw) (bd : Int) (k : Nat) (tm lt : Int) : (takeS rs bd k tm lt).1.length ≤ 2 := by
  unfold takeS
  split
  · simp
  · split
    · exact Nat.le_trans (tellS_len tm 1099511627777) (by decide)
    · rename_i r _
      split
      · simp
      · have := tellS_len tm (r.t - bd); simp; omega

theorem times_walk (rs : List Rw) (a : Option Addr) (c : Nat) (bd : Int) (W : World) (h : RLies W a rs) (hl : rs.length ≤ 4398046511104) (hg : ∀ r ∈ rs, r.vs.length ≤ 4398046511104 ∧ ∀ v ∈ r.vs, v.s.size ≤ maxLen) :
    Calls Try.prog 3 #[.slice a rs.length c, .int .i64 bd] W fun e W' => e = .returned (.bool true) ∧ Below W.heap.size W W' := by
  have HC := new_any rs a c bd W h hl hg
  clear h hg
  go_enter Try.func3, Try.ntmps3
  go_wp2_with fail
  refine HC.mono ?_
  rintro e w1 ⟨hb1, ⟨er, e1, e2, rfl, -⟩ | ⟨h100, hb0, hbm, hval, g, x, qs, rfl, hgW, hR, hO, hqs⟩⟩
  · have HB1 := hidMk hb1
    clear hb1
    go_wp2
    go_ret
    exact ⟨rfl, HB1.out⟩
  · have HVR : Hid (∀ q ∈ qs, 0 ≤ q.r.t ∧ q.r.t ≤ 1099511627776 ∧ q.r.vs.length ≤ 8) := fun q hq => by
      have := hval q.r (by rw [← hqs]; exact List.mem_map.2 ⟨q, hq, rfl⟩)
      unfold validR at this
      simp at this
      omega
    have HTT : Hid (∀ r ∈ rs, r.t ≤ 1099511627776) := fun r hr => by
      have := hval r hr
      unfold validR at this
      simp at this
      omega
    have hql : qs.length = rs.length := by rw [← hqs, List.length_map]
    obtain ⟨ax, cx, rfl, -⟩ := hO.form
    have HQS := hidMk hqs
    have HQL := hidMk hql
    have HR := hidMk hR
    have HO := hidMk hO
    have HB := hidMk hb1
    clear hqs hql hR hO hb1 hval HC
    go_wp2
    go_loopg [7, 8, 9] (rs.length + 1) (fun gk told n i wr => ∃ (k : Nat) (tm lt cn : Int), gk + k = rs.length + 1 ∧ i = .int .i64 k ∧ told = .int .i64 tm ∧ n = .int .i64 cn ∧ Inv rs k tm lt cn ∧ Rdr wr g (.slice ax qs.length cx) bd (k : Int) tm lt ∧ OR wr (g + 1) (.slice ax qs.length cx) qs ∧ Below W.heap.size W wr)
    case atStart => exact ⟨0, -1, 0, 0, by omega, rfl, rfl, rfl, inv_start rs, HR.out, HO.out, HB.out⟩
    case round =>
      clear HR HO HB
      obtain ⟨k, tm, lt, cn, hgk, rfl, rfl, rfl, hinv, hR, hO, hb⟩ := hrel
      have HINV := hidMk hinv
      have HR := hidMk hR
      have HO := hidMk hO
      have HB := hidMk hb
      obtain ⟨i1, i2, i3, i4, i5, i6, i7⟩ := hinv
      have HI6 := hidMk i6
      have HI7 := hidMk i7
      clear hR hO hb i6 i7
      by_cases hk : k ≤ rs.length
      · have hk' : (k : Int) ≤ (rs.length : Int) := by omega
        have HP := hidMk (inv_take (bd := bd) HINV.out hk h100 hb0 HTT.out)
        go_wp2_with fail
        refine (take_any wr g ax cx bd k tm lt qs HR.out HO.out (by omega) ⟨by omega, by omega⟩ (by have := HQL.out; omega) ⟨by omega, by omega⟩ HVR.out).mono ?_
        rintro e w2 ⟨v, els, rfl, hE, hout, hR2, hO2, hg2⟩
        rw [HQS.out] at hout hR2
        have HB2 : Hid (Below W.heap.size W w2) := HB.out.grown hg2 HB.out.size (fun j ej => by cases ej; exact hgW)
        have HPP := HP.out
        rw [← hout] at HPP
        obtain ⟨p1, p2, p3, p4, p5⟩ := HPP
        rw [p2] at hR2
        have hR2' : Rdr w2 g (.slice ax qs.length cx) bd ((k + 1 : Nat) : Int) (takeS rs bd k tm lt).2.2.1 (takeS rs bd k tm lt).2.2.2 := hR2
        have HR2 := hidMk hR2'
        have HO2 := hidMk hO2
        have HE := hidMk hE
        have P1 := hidMk p1
        have P3 := hidMk p3
        have P4 := hidMk p4
        obtain ⟨av, cv, rfl⟩ := hE.form
        have hlen : els.length ≤ 2 := by have h1 := takeS_len rs bd k tm lt; rw [← hout, List.length_map] at h1; exact h1
        clear hout hR2 hO2 hE hg2 hR2' p1 p2 p3 p4 HP HR HO HB HINV
        generalize (takeS rs bd k tm lt).2.2.1 = tm' at *
        generalize (takeS rs bd k tm lt).2.2.2 = lt' at *
        go_wp2
        go_loopg [7, 8, 11] els.length (fun gk told n i wr => ∃ (j : Nat) (tj cj : Int), gk + j = els.length ∧ i = .int .i64 j ∧ told = .int .i64 tj ∧ n = .int .i64 cj ∧ 0 ≤ cj ∧ Good tj ((els.drop j).map outE) ∧ tEnd tj ((els.drop j).map outE) = tm' ∧ cj + cntO ((els.drop j).map outE) = cn + cntO (els.map outE) ∧ cj ≤ 1000 + j ∧ wr = w2)
        case atStart => exact ⟨0, tm, cn, by omega, rfl, rfl, rfl, i3, P1.out, P3.out, rfl, by omega, rfl⟩
        case round =>
          obtain ⟨j, tj, cj, hgj, rfl, rfl, rfl, hcj, hgood, hte, hcn, hcb, rfl⟩ := hrel
          have HGD := hidMk hgood
          have HTE := hidMk hte
          have HCN := hidMk hcn
          clear hgood hte hcn
          by_cases hj : j < els.length
          · have hj' : (j : Int) < (els.length : Int) := by omega
            obtain ⟨e, he⟩ : ∃ e, els[j]? = some e := ⟨els[j], by simp [hj]⟩
            have hdrop : els.drop j = e :: els.drop (j + 1) := by
              rw [List.drop_eq_getElem_cons hj, (List.getElem?_eq_some_iff.1 he).2]
            obtain ⟨b, rfl, c0, c1, c2, c3, c4⟩ := HE.out.at he
            have HGD2 := HGD.out
            have HTE2 := HTE.out
            have HCN2 := HCN.out
            rw [hdrop, List.map_cons] at HGD2 HTE2 HCN2
            have HDR := hidMk hdrop
            clear hdrop he HGD HTE HCN
            rcases HGD2 with ⟨k1, k2, k3⟩ | ⟨k1, k2, k3⟩
            · have ek : e.k = 1 := k1
              have et : tj ≤ e.q.r.t := k2
              have HG3 := hidMk k3
              have HT3 : Hid (tEnd tj ((els.drop (j + 1)).map outE) = tm') := by unfold Hid; rw [← HTE2]; simp [tEnd, k1]
              have HC3 : Hid (cj + 1 + cntO ((els.drop (j + 1)).map outE) = cn + cntO (els.map outE)) := by unfold Hid; rw [← HCN2]; simp [cntO, k1]; omega
              have hwc : wrap64 (cj + 1) = cj + 1 := w64 (by omega) (by omega)
              have hnt : ¬ e.q.r.t < tj := by omega
              rw [ek] at c0
              clear k1 k2 k3 HTE2 HCN2
              go_wp2
              go_roundg (gk - 1)
              case measure => omega
              case rel => exact ⟨j + 1, tj, cj + 1, by omega, by go_num, rfl, rfl, by omega, HG3.out, HT3.out, HC3.out, by omega, rfl⟩
            · have ek : e.k = 2 := k1
              have et : tj < e.t := k2
              have HG3 := hidMk k3
              have hne : ¬ (outE e).1 = 1 := by rw [k1]; decide
              have HT3 : Hid (tEnd e.t ((els.drop (j + 1)).map outE) = tm') := by unfold Hid; rw [← HTE2]; simp [tEnd, hne]; rfl
              have HC3 : Hid (cj + cntO ((els.drop (j + 1)).map outE) = cn + cntO (els.map outE)) := by unfold Hid; rw [← HCN2]; simp [cntO, hne]
              have hnt : ¬ e.t ≤ tj := by omega
              rw [ek] at c0
              clear k1 k2 k3 HTE2 HCN2 hne
              go_wp2
              go_roundg (gk - 1)
              case measure => omega
              case rel => exact ⟨j + 1, e.t, cj, by omega, by go_num, rfl, rfl, by omega, HG3.out, HT3.out, HC3.out, by omega, rfl⟩
          · have hj' : ¬ (j : Int) < (els.length : Int) := by omega
            obtain rfl : j = els.length := by omega
            have h1 := HTE.out
            have h2 := HCN.out
            simp only [List.drop_length, List.map_nil, tEnd, cntO, Int.add_zero] at h1 h2
            have H1 := hidMk h1
            have H2 := hidMk h2
            clear h1 h2
            go_wp2
            go_roundg (rs.length - k)
            case measure => omega
            case rel => exact ⟨k + 1, tm', lt', cj, by omega, by go_num, by rw [H1.out], rfl, by rw [H2.out]; exact P4.out, HR2.out, HO2.out, HB2.out⟩
      · have hk' : ¬ (k : Int) ≤ (rs.length : Int) := by omega
        obtain ⟨z1, z2⟩ := HI7.out (by omega)
        have hwn : wrap64 (cn + lt) = cn + lt := w64 (by omega) (by omega)
        have hz : ((cn + lt) == (rs.length : Int)) = true := by simp; omega
        subst z1
        go_wp2_with fail
        refine (late_any wr g _ bd _ _ lt HR.out).mono ?_
        rintro e w2 ⟨rfl, rfl⟩
        go_wp2
        go_ret
        exact ⟨by simp [z2], HB.out⟩
end Go.Proofs.Ythdbfgnjeolfaaa
