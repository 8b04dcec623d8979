import Derived.Test.YtdbboaebigpkoaaGreatDoorAgCx
namespace Go.Proofs.YtdbboaebigpkoaaGreatDoor
open Go.RowKit
set_option linter.unusedVariables false
set_option linter.unusedSimpArgs false
set_option maxRecDepth 100000

theorem Own.low {w w' : World} {B g t n : Nat} {xs : List Value} (h : Own w g t n xs) (hb : Below B w w') (hg : g < B) : Own w' g t n xs := by
  refine ⟨h.1, ?_⟩
  rcases h.2 with h2 | ⟨g', cap, cur, h1, h2, h3, h4⟩
  · exact .inl h2
  · refine .inr ⟨g', cap, cur, h1, h2, ?_, h4⟩
    cases h1
    rw [hb.block g hg]; exact h3
/-- What Split gives, of a kind that is one. -/
def SpPost (kind : Int) (l m : List Tm) (w : World) (e : Ending) (w' : World) : Prop := Below w.heap.size w w' ∧
  if l.all tval = true ∧ m.all tval = true then e = .returned (.tuple #[vv (foldV kind (l ++ m)), .nilIface]) else e = .returned (.tuple #[vv v0, errR])
set_option maxHeartbeats 4000000 in
theorem split_any (kind : Int) (hk : 1 ≤ kind ∧ kind ≤ 7) (I : Nat → World → Value → List Tm → Prop) (J : Nat → Nat → World → Value → List Tm → Prop) (K : IsWay kind I) (JJ : IsJoin kind I J) (l m : List Tm) (a : Option Addr) (c : Nat) (b : Option Addr) (d : Nat) (w : World) (hl : TLies w a l) (hg : l.length ≤ 3518437208781 ∧ ∀ o ∈ l, Fits o.v) (hm : TLies w b m) (hgm : m.length ≤ 3518437208781 ∧ ∀ o ∈ m, Fits o.v) (hC : l.all tval = true → Carries kind l) (hCm : m.all tval = true → Carries kind m) :
    Calls Tryz.prog 4 #[.int .i64 kind, .slice a l.length c, .slice b m.length d] w (SpPost kind l m w) := by
  have HA : Hid (∀ W, Below w.heap.size w W → Calls Tryz.prog 8 #[.int .i64 kind, .slice a l.length c] W (CyPost I l W)) := fun W hW => carried_any kind hk I J K JJ l a c W (hl.later hW) hg hC
  have HBm : Hid (∀ W, Below w.heap.size w W → Calls Tryz.prog 8 #[.int .i64 kind, .slice b m.length d] W (CyPost I m W)) := fun W hW => carried_any kind hk I J K JJ m b d W (hm.later hW) hgm hCm
  have HK := hidMk K
  have HJ := hidMk JJ
  have HCm := hidMk hCm
  have HGm0 := hidMk hgm
  have hll := hg.1
  have hmm := hgm.1
  have FIN : Hid (∀ e w', Below w.heap.size w w' → (if l.all tval = true ∧ m.all tval = true then e = .returned (.tuple #[vv (foldV kind (l ++ m)), .nilIface]) else e = .returned (.tuple #[vv v0, errR])) → SpPost kind l m w e w') := fun e w' h1 h2 => ⟨h1, h2⟩
  clear hl hm hg hgm hC hCm hk K JJ
  unfold vv v0 errR at FIN
  go_enter Tryz.func4, Tryz.ntmps4
  go_wp2_with fail
  refine (HA.out _ (bel1 _ _)).mono ?_
  rintro e w1 ⟨hb1, h1⟩
  obtain ⟨hO, hB1⟩ := resAt hb1
  have HB1 := hidMk hB1
  have HO1 := hidMk hO
  have hs1 := hB1.size
  cases hv : l.all tval with
  | false =>
    rw [hv] at h1 FIN
    simp only [Bool.false_eq_true, if_false, false_and] at h1 FIN
    subst h1
    have q0 : w1.cell? ⟨w.heap.size, 0, none⟩ = some (.int .i64 0) := by rw [hO.cell 0 (by decide)]; rfl
    have q1 : w1.cell? ⟨w.heap.size, 1, none⟩ = some (.int .i64 0) := by rw [hO.cell 1 (by decide)]; rfl
    have q2 : w1.cell? ⟨w.heap.size, 2, none⟩ = some (.string ⟨#[]⟩) := by rw [hO.cell 2 (by decide)]; rfl
    have qf0 : w1.frozen? ⟨w.heap.size, 0, none⟩ = false := hO.soft 0
    have qf1 : w1.frozen? ⟨w.heap.size, 1, none⟩ = false := hO.soft 1
    have qf2 : w1.frozen? ⟨w.heap.size, 2, none⟩ = false := hO.soft 2
    have hlr := hO.lt
    clear hO hB1 hb1 HO1
    unfold errR
    go_wp2_with fail
    exact bodyPost_ret (v := .tuple #[.agg #[.int .i64 0, .int .i64 0, .string ⟨#[]⟩], .iface 30 (.int .i64 4)]) (by simp [results, Tryz.results4, go_sem, q0, q1, q2, hlr]; try rfl) rfl (FIN.out _ _ (by first | exact resB HB1.out _ _ _ | exact HB1.out) rfl)
  | true =>
    rw [hv] at h1 FIN
    simp only [if_true, true_and] at h1 FIN
    obtain ⟨x, B, rfl, hBB, hBle, hI⟩ := h1
    have hBl : w.heap.size < B := by simp at hBB; omega
    clear hBB
    have HI := hidMk hI
    clear hO hB1 hI
    go_wp2_with fail
    refine (HBm.out _ HB1.out).mono ?_
    rintro e w2 ⟨hb2, h2⟩
    have HO2 := hidMk (HO1.out.later hb2)
    have HB2 : Hid (Below w.heap.size w w2) := HB1.out.trans (hb2.mono hs1)
    have hs2 := HB2.out.size
    cases hvm : m.all tval with
    | false =>
      rw [hvm] at h2 FIN
      simp only [Bool.false_eq_true, if_false] at h2 FIN
      subst h2
      have hO := HO2.out
      have q0 : w2.cell? ⟨w.heap.size, 0, none⟩ = some (.int .i64 0) := by rw [hO.cell 0 (by decide)]; rfl
      have q1 : w2.cell? ⟨w.heap.size, 1, none⟩ = some (.int .i64 0) := by rw [hO.cell 1 (by decide)]; rfl
      have q2 : w2.cell? ⟨w.heap.size, 2, none⟩ = some (.string ⟨#[]⟩) := by rw [hO.cell 2 (by decide)]; rfl
      have qf0 : w2.frozen? ⟨w.heap.size, 0, none⟩ = false := hO.soft 0
      have qf1 : w2.frozen? ⟨w.heap.size, 1, none⟩ = false := hO.soft 1
      have qf2 : w2.frozen? ⟨w.heap.size, 2, none⟩ = false := hO.soft 2
      have hlr := hO.lt
      clear hO hb2 HO1 HO2 hb1
      unfold errR
      go_wp2_with fail
      exact bodyPost_ret (v := .tuple #[.agg #[.int .i64 0, .int .i64 0, .string ⟨#[]⟩], .iface 30 (.int .i64 4)]) (by simp [results, Tryz.results4, go_sem, q0, q1, q2, hlr]; try rfl) rfl (FIN.out _ _ (by first | exact resB HB2.out _ _ _ | exact HB2.out) rfl)
    | true =>
      have HCl := hidMk (HCm.out hvm)
      rw [hvm] at h2 FIN
      simp only [if_true] at h2 FIN
      obtain ⟨x2, B2, rfl, hBB2, -, hI2⟩ := h2
      have hJ1 := HJ.out.ofI _ _ _ _ HI.out
      have HJ2 := hidMk (HJ.out.later _ _ _ _ _ _ hJ1 hb2)
      obtain ⟨t2, p2, fn, rc, rfl, hM, hP⟩ := HJ.out.parts _ w2 x2 m hI2 HGm0.out
      have m1 := hM.meth
      have m2 := hM.nila
      have m3 := hM.ent
      have HPt := hidMk hP
      have hs12 := hb2.size
      clear hM hP hI2 hJ1 hb2 HI HO1 hb1
      go_wp2_with fail
      refine HPt.out.mono ?_
      rintro e w3 ⟨y, ps, rfl, hO3, hP3, hb3⟩
      obtain ⟨q1', q2', q3', q4'⟩ := HCl.out ps hP3
      obtain ⟨ay, cy, rfl, hTy⟩ := hO3.form
      have hJ3 := HJ.out.later _ _ _ _ _ _ HJ2.out hb3
      have HO3 := hidMk (HO2.out.later hb3)
      have HB3 : Hid (Below w.heap.size w w3) := HB2.out.trans (hb3.mono hs2)
      have hs3 := HB3.out.size
      have hs23 := hb3.size
      obtain ⟨t5, p5, rfl, hJn⟩ := HJ.out.join B w1.heap.size w3 x l m ps ay cy hJ3 hP3 hTy (fun z hz => .inr (by have := (hO3.place z hz).1; omega)) q2' (by omega) (by omega)
      have HJn := hidMk hJn
      clear hJn hJ3 hO3 hP3 hb3 hTy q1' q2' q4' HPt HJ2 HO2 HB2 HCl
      go_wp2_with fail
      refine HJn.out.mono ?_
      rintro e w4 ⟨rfl, hJ4, hK4⟩
      obtain ⟨t6, p6, fn6, rc6, e6, hM6, hA6⟩ := HK.out.answer _ w4 _ _ (HJ.out.toI _ _ _ _ _ hJ4)
      cases e6
      have n1 := hM6.meth
      have n2 := hM6.nila
      have n3 := hM6.ent
      have HA6 := hidMk hA6
      have hBb := hK4.below (by omega)
      have hO4 := HO3.out.low hBb hBl
      have HO4 := hidMk hO4
      have HB4 : Hid (Below w.heap.size w w4) := HB3.out.trans (hBb.mono (by omega))
      have hs4 := HB4.out.size
      unfold vv at HA6
      clear hA6 hM6 hJ4 hK4 hBb hO4 HJn HO3 HB3
      generalize foldV kind (l ++ m) = r at *
      go_wp2_with fail
      refine HA6.out.mono ?_
      rintro e w5 ⟨rfl, hb5⟩
      have hO := HO4.out.later hb5
      have HB5 : Hid (Below w.heap.size w w5) := HB4.out.trans (hb5.mono hs4)
      have q0 : w5.cell? ⟨w.heap.size, 0, none⟩ = some (.int .i64 0) := by rw [hO.cell 0 (by decide)]; rfl
      have q1 : w5.cell? ⟨w.heap.size, 1, none⟩ = some (.int .i64 0) := by rw [hO.cell 1 (by decide)]; rfl
      have q2 : w5.cell? ⟨w.heap.size, 2, none⟩ = some (.string ⟨#[]⟩) := by rw [hO.cell 2 (by decide)]; rfl
      have qf0 : w5.frozen? ⟨w.heap.size, 0, none⟩ = false := hO.soft 0
      have qf1 : w5.frozen? ⟨w.heap.size, 1, none⟩ = false := hO.soft 1
      have qf2 : w5.frozen? ⟨w.heap.size, 2, none⟩ = false := hO.soft 2
      have hlr := hO.lt
      clear hO hb5 HO4 HB4 HA6
      go_wp2_with fail
      exact bodyPost_ret (v := .tuple #[.agg #[.int .i64 r.k, .int .i64 r.n, .string r.s], .nilIface]) (by simp [results, Tryz.results4, go_sem, q0, q1, q2, hlr]; try rfl) rfl (FIN.out _ _ (by first | exact resB HB5.out _ _ _ | exact HB5.out) rfl)
end Go.Proofs.YtdbboaebigpkoaaGreatDoor
