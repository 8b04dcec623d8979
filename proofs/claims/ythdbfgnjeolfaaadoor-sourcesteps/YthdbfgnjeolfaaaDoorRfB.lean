import Derived.Test.YthdbfgnjeolfaaaDoorRfA
import Derived.Test.YthdbfgnjeolfaaaDoorVlR
import Derived.Test.YthdbfgnjeolfaaaDoorVlS
namespace Go.Proofs.YthdbfgnjeolfaaaDoor
open Go.RowKit
set_option linter.unusedVariables false
set_option linter.unusedSimpArgs false
set_option maxRecDepth 100000
set_option maxHeartbeats 4000000

theorem timeR_some {rs : List Rw} {bd : Int} {k : Nat} {r : Rw} (h : rs[k]? = some r) : timeR rs bd (k + 1) = if r.t < timeR rs bd k then timeR rs bd k else if r.t - bd ≤ timeR rs bd k then timeR rs bd k else r.t - bd := by rw [timeR, h]
theorem RLies.at {w : World} {a : Option Addr} {rs : List Rw} {k : Nat} {r : Rw} (h : RLies w a rs) (hr : rs[k]? = some r) : ∃ b off av cv, a = some ⟨b, off, none⟩ ∧ w.cell? ⟨b, off + k * 2, none⟩ = some (.int .i64 r.t) ∧ w.cell? ⟨b, off + k * 2 + 1, none⟩ = some (.slice av r.vs.length cv) ∧ VLies w av r.vs := by
  obtain ⟨hk, e⟩ := List.getElem?_eq_some_iff.1 hr
  have := h k hk
  rw [e] at this
  exact this

def DrN (w w' : World) : Prop := ∃ m, w' = w.drewN m
theorem DrN.more {w w1 : World} (h : DrN w w1) (n : Nat) : DrN w (w1.drewN n) := by obtain ⟨m, rfl⟩ := h; exact ⟨m + n, by rw [World.drewN_drewN]⟩
theorem DrN.at {w : World} (m : Nat) : DrN w (w.drewN m) := ⟨m, rfl⟩

theorem rtime_any (w : World) (g : Nat) (a : Option Addr) (c : Nat) (rs : List Rw) (bd at0 : Int) (k : Nat) (h : Rdf w g (.slice a rs.length c) bd at0) (hR : RLies w a rs) (hf : Fit rs bd) (hk : k ≤ rs.length + 1) :
    Calls Tryd.prog 16 #[.pointer (some ⟨g, 0, none⟩), .int .i64 k] w fun e w' => e = .returned (.int .i64 (timeR rs bd k)) ∧ ∃ m, w' = w.drewN m := by
  obtain ⟨c0, c1, c2⟩ := h.cells
  have HR := hidMk hR
  have HF := hidMk hf
  have hn := hf.n
  have hb0 := hf.b0
  have hb1 := hf.b1
  clear h hR hf
  by_cases hkn : rs.length < k
  · obtain rfl : k = rs.length + 1 := by omega
    have HT : Hid (timeR rs bd (rs.length + 1) = 1099511627777) := timeR_none rs bd _ (Nat.le_refl _)
    have hk' : ((rs.length + 1 : Nat) : Int) > (rs.length : Int) := by omega
    go_enter Tryd.func16, Tryd.ntmps16
    go_wp2
    go_ret
    exact ⟨by rw [HT.out]; rfl, 0, rfl⟩
  · have hk' : ¬ (k : Int) > (rs.length : Int) := by omega
    go_enter Tryd.func16, Tryd.ntmps16
    go_wp2
    go_loopg [5, 6] k (fun gk t i wr => ∃ (j : Nat), gk + j = k ∧ i = .int .i64 j ∧ t = .int .i64 (timeR rs bd j) ∧ DrN w wr)
    case atStart => exact ⟨0, by omega, rfl, rfl, ⟨0, rfl⟩⟩
    case round =>
      obtain ⟨j, hgk, rfl, rfl, ⟨m, rfl⟩⟩ := hrel
      by_cases hj : j < k
      · have hj' : (j : Int) < (k : Int) := by omega
        have hjn : (j : Int) < (rs.length : Int) := by omega
        obtain ⟨r, hr⟩ : ∃ r, rs[j]? = some r := ⟨rs[j]'(by omega), by simp [show j < rs.length by omega]⟩
        obtain ⟨b, off, av, cv, rfl, e1, e2, -⟩ := HR.out.at hr
        have HT := hidMk (timeR_some (bd := bd) hr)
        obtain ⟨q1, q2⟩ := HF.out.t r (List.mem_of_getElem? hr)
        obtain ⟨q3, q4⟩ := timeR_le rs bd hb0 (fun r hr => (HF.out.t r hr).2) j (by omega)
        have hw : wrap64 (r.t - bd) = r.t - bd := w64 (by omega) (by omega)
        have hw2 : IntKind.i64.wrap (r.t - bd) = r.t - bd := wi64 (by omega) (by omega)
        clear hr
        generalize timeR rs bd j = tm at *
        by_cases h1 : r.t ≥ tm
        · have g1 : decide (r.t ≥ tm) = true := by simpa using h1
          by_cases h2 : r.t - bd > tm
          · have HT2 : Hid (timeR rs bd (j + 1) = r.t - bd) := by unfold Hid; rw [HT.out, if_neg (by omega), if_neg (by omega)]
            clear HT
            go_wp2
            go_quiet (fail)
            go_wp2
            go_quiet (fail)
            go_wp2
            go_roundg (gk - 1)
            case measure => omega
            case rel => exact ⟨j + 1, by omega, by go_num, by rw [HT2.out], by first | exact DrN.at _ | exact (DrN.at m).more _ | exact ((DrN.at m).more _).more _⟩
          · have HT2 : Hid (timeR rs bd (j + 1) = tm) := by unfold Hid; rw [HT.out, if_neg (by omega), if_pos (by omega)]
            clear HT
            go_wp2
            go_quiet (fail)
            go_wp2
            go_roundg (gk - 1)
            case measure => omega
            case rel => exact ⟨j + 1, by omega, by go_num, by rw [HT2.out], by first | exact DrN.at _ | exact (DrN.at m).more _ | exact ((DrN.at m).more _).more _⟩
        · have g1 : decide (r.t ≥ tm) = false := by simpa using h1
          have HT2 : Hid (timeR rs bd (j + 1) = tm) := by unfold Hid; rw [HT.out, if_pos (by omega)]
          clear HT
          go_wp2
          go_quiet (fail)
          go_wp2
          go_roundg (gk - 1)
          case measure => omega
          case rel => exact ⟨j + 1, by omega, by go_num, by rw [HT2.out], by first | exact DrN.at _ | exact (DrN.at m).more _ | exact ((DrN.at m).more _).more _⟩
      · have hj' : ¬ (j : Int) < (k : Int) := by omega
        obtain rfl : j = k := by omega
        go_wp2
        go_ret
        exact ⟨rfl, _, rfl⟩

theorem rlate_any (w : World) (g : Nat) (a : Option Addr) (c : Nat) (rs : List Rw) (bd at0 : Int) (k : Nat) (h : Rdf w g (.slice a rs.length c) bd at0) (hR : RLies w a rs) (hf : Fit rs bd) (hk : k < rs.length) :
    Calls Tryd.prog 25 #[.pointer (some ⟨g, 0, none⟩), .int .i64 k] w fun e w' => e = .returned (.bool (lateR rs bd k)) ∧ DrN w w' := by
  have HT := hidMk (rtime_any w g a c rs bd at0 k h hR hf (by omega))
  obtain ⟨c0, c1, c2⟩ := h.cells
  obtain ⟨r, hr⟩ : ∃ r, rs[k]? = some r := ⟨rs[k], by simp [hk]⟩
  obtain ⟨b, off, av, cv, rfl, e1, e2, -⟩ := hR.at hr
  have HL : Hid (lateR rs bd k = decide (r.t < timeR rs bd k)) := by unfold Hid lateR; rw [hr]
  have hk' : (k : Int) < (rs.length : Int) := by omega
  clear h hR hf hr
  go_enter Tryd.func25, Tryd.ntmps25
  go_wp2_with fail
  refine HT.out.mono ?_
  rintro e w1 ⟨rfl, m, rfl⟩
  go_wp2
  go_ret
  exact ⟨by rw [HL.out]; rfl, DrN.at m⟩

theorem rlost_any (w : World) (g : Nat) (a : Option Addr) (c : Nat) (rs : List Rw) (bd : Int) (k : Nat) (h : Rdf w g (.slice a rs.length c) bd (k : Int)) (hR : RLies w a rs) (hf : Fit rs bd) (hk : k ≤ rs.length + 1) :
    Calls Tryd.prog 17 #[.pointer (some ⟨g, 0, none⟩)] w fun e w' => e = .returned (.int .i64 (lostR rs bd k)) ∧ DrN w w' := by
  have HD := hidMk h
  have HR := hidMk hR
  have HF := hidMk hf
  have hn := hf.n
  obtain ⟨c0, c1, c2⟩ := h.cells
  clear h hR hf
  go_enter Tryd.func17, Tryd.ntmps17
  go_wp2
  go_loopg [3, 4] k (fun gk n i wr => ∃ (j : Nat), gk + j = k ∧ j ≤ rs.length ∧ i = .int .i64 j ∧ n = .int .i64 (lostR rs bd j) ∧ DrN w wr)
  case atStart => exact ⟨0, by omega, by omega, rfl, rfl, ⟨0, rfl⟩⟩
  case round =>
    obtain ⟨j, hgk, hjn, rfl, rfl, ⟨m, rfl⟩⟩ := hrel
    by_cases hj : j < k
    · have hj' : (j : Int) < (k : Int) := by omega
      by_cases hjl : j < rs.length
      · have hjl' : (j : Int) < (rs.length : Int) := by omega
        have HS : Hid (lostR rs bd (j + 1) = lostR rs bd j + (if lateR rs bd j then 1 else 0)) := rfl
        obtain ⟨b0, b1⟩ := lostR_bd rs bd j
        generalize lostR rs bd j = L at *
        go_wp2_with fail
        refine (rlate_any (w.drewN m) g a c rs bd k j HD.out HR.out HF.out hjl).mono ?_
        rintro e w1 ⟨rfl, m1, rfl⟩
        cases hl : lateR rs bd j with
        | true =>
          have HS2 : Hid (lostR rs bd (j + 1) = L + 1) := by unfold Hid; rw [HS.out, hl]; rfl
          have hw : wrap64 (L + 1) = L + 1 := w64 (by omega) (by omega)
          go_wp2
          go_roundg (gk - 1)
          case measure => omega
          case rel => exact ⟨j + 1, by omega, by omega, by go_num, by rw [HS2.out], by first | exact DrN.at _ | exact (DrN.at m).more _⟩
        | false =>
          have HS2 : Hid (lostR rs bd (j + 1) = L) := by unfold Hid; rw [HS.out, hl]; simp
          go_wp2
          go_roundg (gk - 1)
          case measure => omega
          case rel => exact ⟨j + 1, by omega, by omega, by go_num, by rw [HS2.out], by first | exact DrN.at _ | exact (DrN.at m).more _⟩
      · obtain rfl : j = rs.length := by omega
        have hjl' : ¬ (rs.length : Int) < (rs.length : Int) := by omega
        have HS : Hid (lostR rs bd k = lostR rs bd rs.length) := by unfold Hid; rw [show k = rs.length + 1 by omega]; exact lostR_stop rs bd _ (Nat.le_refl _)
        go_wp2
        go_ret
        exact ⟨by rw [HS.out]; rfl, DrN.at m⟩
    · have hj' : ¬ (j : Int) < (k : Int) := by omega
      obtain rfl : j = k := by omega
      have hg : decide ((j : Int) < (j : Int)) = false := by simp
      go_wp2
      go_ret
      exact ⟨rfl, DrN.at m⟩
end Go.Proofs.YthdbfgnjeolfaaaDoor
