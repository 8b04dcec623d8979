import Derived.Test.YthdbfgnjeolfaaaDoorRfI
import Derived.Test.YthdbfgnjeolfaaaDoorTldB
namespace Go.Proofs.YthdbfgnjeolfaaaDoor
open Go.RowKit
set_option linter.unusedVariables false
set_option linter.unusedSimpArgs false
set_option maxRecDepth 100000
set_option maxHeartbeats 8000000

/-- A script that can be read. -/
def OpL (w : World) (a : Option Addr) (os : List (Int × Int)) : Prop := ∀ i o, os[i]? = some o → ∃ b off, a = some ⟨b, off, none⟩ ∧ w.cell? ⟨b, off + i * 2, none⟩ = some (.int .i64 o.1) ∧ w.cell? ⟨b, off + i * 2 + 1, none⟩ = some (.int .i64 o.2)
theorem OpL.later {w w' : World} {a : Option Addr} {os : List (Int × Int)} (h : OpL w a os) (hb : Below w.heap.size w w') : OpL w' a os := fun i o ho => by
  obtain ⟨b, off, e, h1, h2⟩ := h i o ho
  exact ⟨b, off, e, cell_later hb h1, cell_later hb h2⟩
theorem err_same {rs : List Rw} {bd er : Int} (h : (er = 5 ∧ 100 < rs.length) ∨ (er = 4 ∧ rs.length ≤ 100 ∧ ¬ (0 ≤ bd ∧ bd ≤ 1048576 ∧ ∀ r ∈ rs, validR r = true))) : errN rs bd = er := by
  unfold errN
  rcases h with ⟨rfl, h⟩ | ⟨rfl, h1, h2⟩
  · rw [if_pos h]
  · rw [if_neg (by omega), if_neg (fun hh => h2 ⟨hh.1, hh.2.1, fun r hr => List.all_eq_true.1 hh.2.2 r hr⟩)]
theorem err_none {rs : List Rw} {bd : Int} (h1 : rs.length ≤ 100) (h2 : 0 ≤ bd) (h3 : bd ≤ 1048576) (h4 : ∀ r ∈ rs, validR r = true) : errN rs bd = 0 := by
  unfold errN
  rw [if_neg (by omega), if_pos ⟨h2, h3, List.all_eq_true.2 h4⟩]
theorem fit_of {rs : List Rw} {bd : Int} (h1 : rs.length ≤ 100) (h2 : 0 ≤ bd) (h3 : bd ≤ 1048576) (h4 : ∀ r ∈ rs, validR r = true) : Fit rs bd :=
  ⟨h1, h2, h3, fun r hr => by have := h4 r hr; unfold validR at this; simp at this; omega, fun r hr => by have := h4 r hr; unfold validR at this; simp at this; omega⟩

theorem steps_walk (rs : List Rw) (a : Option Addr) (c : Nat) (bd : Int) (os : List (Int × Int)) (sa : Option Addr) (sc : Nat) (W : World) (h : RLies W a rs) (hl : rs.length ≤ 4398046510976) (hg : ∀ r ∈ rs, r.vs.length ≤ 4398046511104 ∧ ∀ v ∈ r.vs, v.s.size ≤ maxLen)
    (hs : OpL W sa os) (hos : os.length ≤ 4611686018427387904) (hE : Ety W) :
    Calls Tryd.prog 3 #[.slice a rs.length c, .int .i64 bd, .slice sa os.length sc] W fun e W' => e = .returned (.bool true) ∧ Below W.heap.size W W' := by
  have HR := hidMk h
  have HG := hidMk hg
  have HS := hidMk hs
  have HE := hidMk hE
  clear h hg hs hE
  go_enter Tryd.func3, Tryd.ntmps3
  go_wp2_with fail
  refine (lcopied_any rs a c W HR.out hl (fun r hr => (HG.out r hr).1)).mono ?_
  rintro e w1 ⟨x, qi, rfl, hOW, hqi, hb1⟩
  have hqil : qi.length = rs.length := by rw [← hqi, List.length_map]
  obtain ⟨ai, ci, rfl, hRi⟩ := hOW.rows.form
  rw [hqi] at hRi
  rw [hqil] at hOW
  rw [hqil]
  have HOW := hidMk hOW
  have HRi := hidMk hRi
  have HB1 := hidMk hb1
  have HQI := hidMk hqi
  have HQL := hidMk hqil
  clear hOW hRi hqi hqil hb1
  go_wp2_with fail
  refine (new_any rs ai ci bd w1 HRi.out (by omega) HG.out).mono ?_
  rintro e w2 ⟨hb2, hcase⟩
  have HB12 := hidMk hb2
  have HB2 : Hid (Below W.heap.size W w2) := HB1.out.trans (hb2.mono HB1.out.size)
  clear hb2
  rcases hcase with ⟨er, e1, e2, rfl, her⟩ | ⟨h100, hb0, hbm, hval, g, x, qs, rfl, hgW, hR, hO, hqs⟩
  · have HER := hidMk (err_same her)
    clear her
    go_wp2_with fail
    refine (rnew_any rs a c bd w2 (HR.out.later HB2.out) (by omega) HG.out).mono ?_
    unfold RNewPost
    rw [HER.out]
    rintro e w3 ⟨hb3, ⟨-, rfl⟩ | ⟨h0, -⟩⟩
    · have HB3 : Hid (Below W.heap.size W w3) := HB2.out.trans (hb3.mono HB2.out.size)
      have HE3 := hidMk (HE.out.later HB3.out)
      clear hb3
      go_wp2_with fail
      refine (told_errno er w3 HE3.out).mono ?_
      rintro e w4 ⟨rfl, b4⟩
      have HB4 : Hid (Below W.heap.size W w4) := HB3.out.trans (b4.mono HB3.out.size)
      have hne : (er != 0) = true := by simp; omega
      clear b4
      go_wp2_with fail
      go_ret
      exact ⟨rfl, HB4.out⟩
    · omega
  · have HFIT := hidMk (fit_of h100 hb0 hbm hval)
    have HER := hidMk (err_none h100 hb0 hbm hval)
    have hql : qs.length = rs.length := by rw [← hqs, List.length_map]
    obtain ⟨ax, cx, rfl, -⟩ := hO.form
    rw [hql] at hR hO
    have HRD := hidMk hR
    have HOR := hidMk hO
    have HQS := hidMk hqs
    have HQQ := hidMk hql
    clear hR hO hqs hql hval
    go_wp2_with fail
    refine (rnew_any rs a c bd w2 (HR.out.later HB2.out) (by omega) HG.out).mono ?_
    unfold RNewPost
    rw [HER.out]
    rintro e w3 ⟨hb3, ⟨h0, -⟩ | ⟨-, g2, rfl, hg2, hRf⟩⟩
    · exact absurd rfl h0
    have HB3 : Hid (Below W.heap.size W w3) := HB2.out.trans (hb3.mono HB2.out.size)
    have HBO : Hid (Both w3 g g2 ax a cx c qs rs bd 0) := ⟨by omega, Own.later HRD.out hb3, HOR.out.later hb3, hRf⟩
    have HB13 : Hid (Below w1.heap.size w1 w3) := HB12.out.trans (hb3.mono HB12.out.size)
    have hS2 : w1.heap.size ≤ g2 := by have := HB12.out.size; omega
    have hW1 : W.heap.size ≤ w1.heap.size := HB1.out.size
    have hgg : g < g2 := Nat.lt_of_lt_of_le (Own.lt HRD.out) hg2
    have HOL1 : Hid (∀ j, (Value.slice ax rs.length cx).ownBlock = some j → j < g2) := fun j hj => Nat.lt_of_lt_of_le (World.ownsRow.lt HOR.out.own j (by simpa [Value.ownBlock] using hj)).2 hg2
    have HOL2 : Hid (∀ p ∈ qs, ∀ y, p.a = some y → y.block < g2) := fun p hp y hy => Nat.lt_of_lt_of_le (HOR.out.apart p hp y hy).2.1 hg2
    clear hb3 hRf HRD HOR HB12 HB2
    go_wp2_with fail
    refine (told_nil w3).mono ?_
    rintro e w4 ⟨rfl, rfl⟩
    have HSH : Hid (0 < rs.length → ∃ gi, ai = some ⟨gi, 0, none⟩ ∧ Sh w4 W.heap.size w1.heap.size gi qi) := fun hp => by
      have hOW := HOW.out
      rcases hOW.rows.own.2 with ⟨hh, hh2⟩ | ⟨gi, c3, cur2, hh, -⟩
      · have := HQL.out; omega
      · simp only [Value.slice.injEq] at hh
        have hai := hh.1
        rw [hai] at hOW
        exact ⟨gi, hai, (hOW.sh (Nat.le_refl _)).later HB13.out⟩
    clear HOW HRi HB13 HB1
    go_wp2_with fail
    go_loopg [13] rs.length (fun gk i wr => ∃ (k : Nat), gk + k = rs.length ∧ i = .int .i64 k ∧ (0 < rs.length → ∃ gi, ai = some ⟨gi, 0, none⟩ ∧ Sh wr W.heap.size w1.heap.size gi qi) ∧ Up w1.heap.size w4 wr ∧ Below W.heap.size W wr)
    case atStart => exact ⟨0, by omega, rfl, HSH.out, Up.refl _ _, HB3.out⟩
    case round =>
      clear HSH
      obtain ⟨k, hgk, rfl, hsh, hup, hb⟩ := hrel
      by_cases hk : k < rs.length
      · have hk' : (k : Int) < (rs.length : Int) := by omega
        obtain ⟨gi, rfl, hSh⟩ := hsh (by omega)
        obtain ⟨q, hq⟩ : ∃ q, qi[k]? = some q := ⟨qi[k]'(by have := HQL.out; omega), by simp [show k < qi.length by have := HQL.out; omega]⟩
        obtain ⟨⟨u, r0⟩, r1, r2⟩ := hSh.row k q hq
        have hlo := hSh.lo
        have hgs := hSh.lt
        have HSh := hidMk (hSh.set ⟨gi, k * 2, none⟩ (.int .i64 77) (fun _ => ⟨k, rfl⟩))
        have HUp := hidMk (hup.set ⟨gi, k * 2, none⟩ (.int .i64 77) hgs)
        have HBb := hidMk (hb.setCell (p := ⟨gi, k * 2, none⟩) hlo (.int .i64 77))
        have HQ := hidMk hq
        clear hsh hup hb hSh hq
        go_upto_region 13 with fail
        clear r0 r1 r2
        generalize wr.setCell ⟨gi, k * 2, none⟩ (.int .i64 77) = w5 at *
        go_wp2_with fail
        go_loopg [14] q.r.vs.length (fun gk i wx => ∃ (j : Nat), gk + j = q.r.vs.length ∧ i = .int .i64 j ∧ Sh wx W.heap.size w1.heap.size gi qi ∧ Up w1.heap.size w4 wx ∧ Below W.heap.size W wx)
        case atStart => exact ⟨0, by omega, rfl, HSh.out, HUp.out, HBb.out⟩
        case round =>
          clear HSh HUp HBb
          obtain ⟨j, hgj, rfl, hSh, hup, hb⟩ := hrel
          obtain ⟨-, r1, -⟩ := hSh.row k q HQ.out
          have HSh := hidMk hSh
          have HUp := hidMk hup
          have HBb := hidMk hb
          by_cases hj : j < q.r.vs.length
          · have hj' : (j : Int) < (q.r.vs.length : Int) := by omega
            obtain ⟨y, hya, y0, y1, y2, y3⟩ := hSh.val q (List.mem_of_getElem? HQ.out) j hj
            obtain ⟨⟨u0, v0⟩, f0⟩ := y3 0 (by decide)
            obtain ⟨⟨u1, v1⟩, f1⟩ := y3 1 (by decide)
            obtain ⟨⟨u2, v2⟩, f2⟩ := y3 2 (by decide)
            simp only [Nat.add_zero] at v0 f0
            rw [hya] at r1
            obtain ⟨x1, v1'⟩ := cell_set_some (p := ⟨y, j * 3, none⟩) (x := .int .i64 98) v1
            clear y3 hya hSh hup hb
            have hq8 : q.r.vs.length ≤ 8 := HFIT.out.v q.r (by rw [← HQI.out]; exact List.mem_map.2 ⟨q, List.mem_of_getElem? HQ.out, rfl⟩)
            go_wp2_with fail
            go_roundg (gk - 1)
            case measure => omega
            case rel => exact ⟨j + 1, by omega, by go_num, ((HSh.out.set ⟨y, j * 3, none⟩ _ (fun e => absurd e y2)).set ⟨y, j * 3 + 1, none⟩ _ (fun e => absurd e y2)).set ⟨y, j * 3 + 2, none⟩ _ (fun e => absurd e y2), ((HUp.out.set ⟨y, j * 3, none⟩ _ y1).set ⟨y, j * 3 + 1, none⟩ _ y1).set ⟨y, j * 3 + 2, none⟩ _ y1, ((HBb.out.setCell (p := ⟨y, j * 3, none⟩) y0 _).setCell (p := ⟨y, j * 3 + 1, none⟩) y0 _).setCell (p := ⟨y, j * 3 + 2, none⟩) y0 _⟩
          · have hj' : ¬ (j : Int) < (q.r.vs.length : Int) := by omega
            clear hSh hup hb
            go_wp2_with fail
            go_roundg (rs.length - (k + 1))
            case measure => omega
            case rel => exact ⟨k + 1, by omega, by go_num, (fun _ => ⟨gi, rfl, HSh.out⟩), HUp.out, HBb.out⟩
      · have hk' : ¬ (k : Int) < (rs.length : Int) := by omega
        have HBO2 := hidMk (HBO.out.up hup hgW hS2)
        have HB5 := hidMk hb
        clear hsh hup hb HBO HB3
        go_wp2_with fail
        clear hk' hk hgk
        generalize wr = w6 at *
        go_loopg [15] os.length (fun gk idx wr => ∃ (i at_ : Nat), gk + i = os.length ∧ idx = .int .i64 i ∧ Both wr g g2 ax a cx c qs rs bd at_ ∧ Below W.heap.size W wr)
        case atStart => exact ⟨0, 0, by omega, rfl, HBO2.out, HB5.out⟩
        case round =>
          clear HBO2 HB5
          obtain ⟨i, at_, hgi, rfl, hBo, hb⟩ := hrel
          have HBo := hidMk hBo
          have HBb := hidMk hb
          have hsz := hb.size
          have hat := hBo.1
          clear hBo hb
          by_cases hi : i < os.length
          · have hi' : (i : Int) < (os.length : Int) := by omega
            obtain ⟨⟨ok, oA⟩, ho⟩ : ∃ o, os[i]? = some o := ⟨os[i], by simp [hi]⟩
            obtain ⟨b, off, rfl, s0, s1⟩ := (HS.out.later HBb.out) i _ ho
            simp only at s0 s1
            clear ho
            go_upto_region 21 with fail
            have hgw : g2 < wr.heap.size := Own.lt HBo.out.2.2.2
            have hs71 : (wr.alloc (.cells #[.int .i64 ok, .int .i64 oA] 42)).heap.size = wr.heap.size + 1 := by simp
            have hbo := bel1 wr (.cells #[.int .i64 ok, .int .i64 oA] 42)
            have o0 : (wr.alloc (.cells #[.int .i64 ok, .int .i64 oA] 42)).cell? ⟨wr.heap.size, 0, none⟩ = some (.int .i64 ok) := by go_simp
            have o1 : (wr.alloc (.cells #[.int .i64 ok, .int .i64 oA] 42)).cell? ⟨wr.heap.size, 1, none⟩ = some (.int .i64 oA) := by go_simp
            have B1 := hidMk (HBo.out.later hbo)
            have X1 : Hid (Below W.heap.size W (wr.alloc (.cells #[.int .i64 ok, .int .i64 oA] 42))) := HBb.out.alloc hsz _
            have hs7 : W.heap.size ≤ (wr.alloc (.cells #[.int .i64 ok, .int .i64 oA] 42)).heap.size := X1.out.size
            clear s0 s1 hbo HBo HBb
            generalize wr.alloc (.cells #[.int .i64 ok, .int .i64 oA] 42) = w7 at *
            by_cases hok : ok = 1
            · subst hok
              go_wp2_with fail
              have hsk := seek_any w7 g ax cx bd (at_ : Int) (timeR rs bd at_) (lostR rs bd at_) oA qs (by rw [HQQ.out]; exact B1.out.2.1) (by rw [HQQ.out]; exact B1.out.2.2.1) (by rw [HQS.out]; exact HFIT.out)
              rw [HQQ.out, HQS.out] at hsk
              refine hsk.mono ?_
              clear hsk
              rintro e w8 (⟨hout, rfl, rfl⟩ | ⟨k, rfl, hk8, rfl, hR8, hO8, hg8⟩)
              · have HE7 := hidMk (HE.out.later X1.out)
                go_wp2_with fail
                refine (told_errno 4 w8 HE7.out).mono ?_
                rintro e w9 ⟨rfl, b9⟩
                have p1 := cell_later b9 o1
                have B9 := hidMk (B1.out.later b9)
                have X9 : Hid (Below W.heap.size W w9) := X1.out.trans (b9.mono X1.out.size)
                clear b9 o0 o1 B1 X1
                by_cases hneg : oA < 0
                · have q1 : decide (oA < 0) = true := by simpa using hneg
                  go_wp2_with fail
                  go_roundg (gk - 1)
                  case measure => omega
                  case rel => exact ⟨i + 1, at_, by omega, by go_num, B9.out, X9.out⟩
                · have q1 : decide (oA < 0) = false := by simpa using hneg
                  have q2 : oA > (rs.length : Int) + 1 := by omega
                  go_wp2_with fail
                  go_roundg (gk - 1)
                  case measure => omega
                  case rel => exact ⟨i + 1, at_, by omega, by go_num, B9.out, X9.out⟩
              · have p1 := hg8.cell o1 (by simp only; intro e; cases e; omega)
                have HRf8 : Hid (Rdf w8 g2 (.slice a rs.length c) bd (at_ : Int)) := Own.grown B1.out.2.2.2 hg8 (fun e => by cases e; omega)
                have HX8 : Hid (Below W.heap.size W w8) := X1.out.grown hg8 X1.out.size (fun j ej => by cases ej; omega)
                have HR8 := hidMk hR8
                have HO8 := hidMk hO8
                clear hR8 hO8 hg8 o0 o1 B1 X1
                go_wp2_with fail
                refine (told_nil w8).mono ?_
                rintro e w9 ⟨rfl, rfl⟩
                obtain ⟨c0, c1, c2⟩ := HRf8.out.cells
                have sf := Own.soft HRf8.out 2
                have q1 : decide ((k : Int) < 0) = false := by simp
                have q2 : ¬ (k : Int) > (rs.length : Int) + 1 := by omega
                have HP := hidMk (Own.put HRf8.out 2 (.int .i64 (k : Int)))
                have BB : Hid (Both (w9.setCell ⟨g2, 2, none⟩ (.int .i64 (k : Int))) g g2 ax a cx c qs rs bd k) := ⟨hk8, Own.grown HR8.out HP.out.2 (fun e => by cases e; omega), HO8.out.beside HP.out.2 HOL1.out HOL2.out, HP.out.1⟩
                have BX : Hid (Below W.heap.size W (w9.setCell ⟨g2, 2, none⟩ (.int .i64 (k : Int)))) := HX8.out.setCell (p := ⟨g2, 2, none⟩) (by simp only; omega) _
                go_upto_region 35 with fail
                clear c0 c1 c2 sf HRf8 HR8 HO8 HX8 HP p1
                generalize w9.setCell ⟨g2, 2, none⟩ (.int .i64 (k : Int)) = w10 at *
                have HRLx : Hid (RLies w10 a rs) := HR.out.later BX.out
                go_wp2_with fail
                refine (at_any w10 g _ bd _ _ _ BB.out.2.1).mono ?_
                rintro e wz1 ⟨rfl, rfl⟩
                go_wp2_with fail
                refine (tm_any _ g _ bd _ _ _ BB.out.2.1).mono ?_
                rintro e wz2 ⟨rfl, rfl⟩
                go_wp2_with fail
                refine (late_any _ g _ bd _ _ _ BB.out.2.1).mono ?_
                rintro e wz3 ⟨rfl, rfl⟩
                go_wp2_with fail
                refine (ended_any _ g ax rs.length cx bd _ _ _ BB.out.2.1).mono ?_
                rintro e wz4 ⟨rfl, m4, hm4⟩
                have BB4 : Hid (Both wz4 g g2 ax a cx c qs rs bd k) := by unfold Hid; rw [hm4]; exact ⟨BB.out.1, BB.out.2.1, BB.out.2.2.1.drewN m4, BB.out.2.2.2⟩
                have BX4 : Hid (Below W.heap.size W wz4) := by unfold Hid; rw [hm4]; exact below_drewN BX.out m4
                clear hm4 BX HRLx
                obtain ⟨z0, z1, z2⟩ := BB4.out.2.2.2.cells
                go_wp2_with fail
                refine (rtime_any wz4 g2 a c rs bd _ k BB4.out.2.2.2 (HR.out.later BX4.out) HFIT.out BB4.out.1).mono ?_
                rintro e wz5 ⟨rfl, m5, hm5⟩
                have BB5 : Hid (Both wz5 g g2 ax a cx c qs rs bd k) := by unfold Hid; rw [hm5]; exact ⟨BB4.out.1, BB4.out.2.1, BB4.out.2.2.1.drewN m5, BB4.out.2.2.2⟩
                have BX5 : Hid (Below W.heap.size W wz5) := by unfold Hid; rw [hm5]; exact below_drewN BX4.out m5
                clear hm5 z0 z1 z2 BB4 BX4
                go_wp2_with fail
                refine (rlost_any wz5 g2 a c rs bd k BB5.out.2.2.2 (HR.out.later BX5.out) HFIT.out BB5.out.1).mono ?_
                rintro e wz6 ⟨rfl, m6, hm6⟩
                have BB6 : Hid (Both wz6 g g2 ax a cx c qs rs bd k) := by unfold Hid; rw [hm6]; exact ⟨BB5.out.1, BB5.out.2.1, BB5.out.2.2.1.drewN m6, BB5.out.2.2.2⟩
                have BX6 : Hid (Below W.heap.size W wz6) := by unfold Hid; rw [hm6]; exact below_drewN BX5.out m6
                clear hm6 BB5 BX5
                obtain ⟨z0, z1, z2⟩ := BB6.out.2.2.2.cells
                have t1 : (timeR rs bd k != timeR rs bd k) = false := by simp
                have t2 : (lostR rs bd k != lostR rs bd k) = false := by simp
                have t3 : (((k : Nat) : Int) != ((k : Nat) : Int)) = false := by simp
                go_wp2_with fail
                go_roundg (gk - 1)
                case measure => omega
                case rel => exact ⟨i + 1, k, by omega, by go_num, BB6.out, BX6.out⟩
            · have hok' : (ok == 1) = false := by simpa using hok
              obtain ⟨O, AT, hAT, hTS, hOl, hOv, hOt, hrt⟩ := both_take W g2 a c rs bd HFIT.out HR.out (by omega) at_ hat
              have HTS := hidMk hTS
              have HRT := hidMk hrt
              have HOv := hidMk hOv
              have HOt := hidMk hOt
              obtain ⟨l1, l2⟩ := lostR_bd rs bd at_
              clear hTS hrt hOv hOt
              go_wp2_with fail
              have htk := take_any w7 g ax cx bd at_ (timeR rs bd at_) (lostR rs bd at_) qs (by rw [HQQ.out]; exact B1.out.2.1) (by rw [HQQ.out]; exact B1.out.2.2.1) (by omega) ⟨by omega, by omega⟩ (by rw [HQQ.out]; omega) ⟨HFIT.out.b0, HFIT.out.b1⟩ (fun q hq => by have h1 := HFIT.out.t q.r (by rw [← HQS.out]; exact List.mem_map.2 ⟨q, hq, rfl⟩); have h2 := HFIT.out.v q.r (by rw [← HQS.out]; exact List.mem_map.2 ⟨q, hq, rfl⟩); exact ⟨h1.1, h1.2, h2⟩)
              rw [HQQ.out, HQS.out, HTS.out] at htk
              refine htk.mono ?_
              clear htk
              rintro e w8 ⟨v8, els1, rfl, hE1, ho1, hR8, hO8, hg8⟩
              have HE1 := hidMk hE1
              have HO1 := hidMk ho1
              have HR8 := hidMk hR8
              have HO8 := hidMk hO8
              have HRf8 : Hid (Rdf w8 g2 (.slice a rs.length c) bd (at_ : Int)) := Own.grown B1.out.2.2.2 hg8 (fun e => by cases e; omega)
              have HX8 : Hid (Below W.heap.size W w8) := X1.out.grown hg8 X1.out.size (fun j ej => by cases ej; omega)
              have hs8 : w7.heap.size ≤ w8.heap.size := hg8.size
              obtain ⟨av1, cv1, rfl⟩ := hE1.form
              clear hE1 ho1 hR8 hO8 hg8 o0 o1 B1 X1
              go_wp2_with fail
              refine (HRT.out w8 HRf8.out HX8.out).mono ?_
              rintro e w9 ⟨v9, els2, rfl, hE2, ho2, hRf9, hg9⟩
              have HE2 := hidMk hE2
              have HX9 : Hid (Below W.heap.size W w9) := HX8.out.grown hg9 HX8.out.size (fun j ej => by cases ej; omega)
              have HR9 : Hid (Rdr w9 g (.slice ax rs.length cx) bd (AT : Int) (timeR rs bd AT) (lostR rs bd AT)) := Own.grown HR8.out hg9 (fun e => by cases e; omega)
              have HO9 : Hid (OR w9 (g + 1) (.slice ax rs.length cx) qs) := HO8.out.beside hg9 HOL1.out HOL2.out
              have HRf9 := hidMk hRf9
              have HEG := hidMk (HE1.out.grown hg9 (by omega))
              have hs9 : w8.heap.size ≤ w9.heap.size := hg9.size
              have HEQ : Hid (els1.map outE = els2.map outE) := HO1.out.trans ho2.symm
              obtain ⟨av2, cv2, rfl⟩ := hE2.form
              have HV1 : Hid (∀ e ∈ els1, e.q.r.vs.length ≤ 8) := fun e he => HOv.out (outE e) (by rw [← HO1.out]; exact List.mem_map.2 ⟨e, he, rfl⟩)
              have HV2 : Hid (∀ j e, els1[j + 1]? = some e → e.q.r.vs = []) := fun j e he => HOt.out j (outE e) (by rw [← HO1.out, List.getElem?_map, he]; rfl)
              have HL1 : Hid (∀ y, av1 = some y → y.block < w8.heap.size) := fun y hy => by
                rcases HE1.out.own.2 with ⟨hh, -⟩ | ⟨g3, c3, cur3, hh, -, hh3, -⟩
                · simp only [Value.slice.injEq] at hh; rw [hh.1] at hy; cases hy
                · simp only [Value.slice.injEq] at hh; rw [hh.1] at hy; cases hy; exact (Array.getElem?_eq_some_iff.1 hh3).1
              have HL2 : Hid (∀ e ∈ els1, ∀ y, e.q.a = some y → y.block < w8.heap.size) := fun e he y hy => by
                obtain ⟨a', c', ee, -, hh⟩ := (HE1.out.vals e he).form
                cases ee
                exact (hh y hy).2
              have hl1 : els1.length ≤ 2 := by have h1 := congrArg List.length HO1.out; rw [List.length_map] at h1; omega
              clear hE2 ho2 hRf9 hg9 HRf8 HX8 HR8 HO8
              go_wp2_with fail
              refine (flows_any w9 w7.heap.size w8.heap.size av1 av2 cv1 cv2 els1 els2 HEG.out HE2.out (by omega) HL1.out HL2.out HEQ.out hl1 HV2.out HV1.out).mono ?_
              rintro e w10 ⟨rfl, b10⟩
              have BB : Hid (Both w10 g g2 ax a cx c qs rs bd AT) := ⟨hAT, HR9.out.low b10 (by omega), HO9.out.low b10 (fun j hj => by have := HOL1.out j hj; omega) (fun p hp y hy => by have := HOL2.out p hp y hy; omega), HRf9.out.low b10 (by omega)⟩
              have BX : Hid (Below W.heap.size W w10) := HX9.out.trans (b10.mono (by omega))
              clear b10 HEG HE1 HE2 HR9 HO9 HRf9 HX9 HO1 HEQ
              go_upto_region 35 with fail
              have HRLx : Hid (RLies w10 a rs) := HR.out.later BX.out
              go_wp2_with fail
              refine (at_any w10 g _ bd _ _ _ BB.out.2.1).mono ?_
              rintro e wz1 ⟨rfl, rfl⟩
              go_wp2_with fail
              refine (tm_any _ g _ bd _ _ _ BB.out.2.1).mono ?_
              rintro e wz2 ⟨rfl, rfl⟩
              go_wp2_with fail
              refine (late_any _ g _ bd _ _ _ BB.out.2.1).mono ?_
              rintro e wz3 ⟨rfl, rfl⟩
              go_wp2_with fail
              refine (ended_any _ g ax rs.length cx bd _ _ _ BB.out.2.1).mono ?_
              rintro e wz4 ⟨rfl, m4, hm4⟩
              have BB4 : Hid (Both wz4 g g2 ax a cx c qs rs bd AT) := by unfold Hid; rw [hm4]; exact ⟨BB.out.1, BB.out.2.1, BB.out.2.2.1.drewN m4, BB.out.2.2.2⟩
              have BX4 : Hid (Below W.heap.size W wz4) := by unfold Hid; rw [hm4]; exact below_drewN BX.out m4
              clear hm4 BX HRLx
              obtain ⟨z0, z1, z2⟩ := BB4.out.2.2.2.cells
              go_wp2_with fail
              refine (rtime_any wz4 g2 a c rs bd _ AT BB4.out.2.2.2 (HR.out.later BX4.out) HFIT.out BB4.out.1).mono ?_
              rintro e wz5 ⟨rfl, m5, hm5⟩
              have BB5 : Hid (Both wz5 g g2 ax a cx c qs rs bd AT) := by unfold Hid; rw [hm5]; exact ⟨BB4.out.1, BB4.out.2.1, BB4.out.2.2.1.drewN m5, BB4.out.2.2.2⟩
              have BX5 : Hid (Below W.heap.size W wz5) := by unfold Hid; rw [hm5]; exact below_drewN BX4.out m5
              clear hm5 z0 z1 z2 BB4 BX4
              go_wp2_with fail
              refine (rlost_any wz5 g2 a c rs bd AT BB5.out.2.2.2 (HR.out.later BX5.out) HFIT.out BB5.out.1).mono ?_
              rintro e wz6 ⟨rfl, m6, hm6⟩
              have BB6 : Hid (Both wz6 g g2 ax a cx c qs rs bd AT) := by unfold Hid; rw [hm6]; exact ⟨BB5.out.1, BB5.out.2.1, BB5.out.2.2.1.drewN m6, BB5.out.2.2.2⟩
              have BX6 : Hid (Below W.heap.size W wz6) := by unfold Hid; rw [hm6]; exact below_drewN BX5.out m6
              clear hm6 BB5 BX5
              obtain ⟨z0, z1, z2⟩ := BB6.out.2.2.2.cells
              have t1 : (timeR rs bd AT != timeR rs bd AT) = false := by simp
              have t2 : (lostR rs bd AT != lostR rs bd AT) = false := by simp
              have t3 : (((AT : Nat) : Int) != ((AT : Nat) : Int)) = false := by simp
              go_wp2_with fail
              go_roundg (gk - 1)
              case measure => omega
              case rel => exact ⟨i + 1, AT, by omega, by go_num, BB6.out, BX6.out⟩
          · have hi' : ¬ (i : Int) < (os.length : Int) := by omega
            go_wp2_with fail
            go_ret
            exact ⟨rfl, HBb.out⟩
end Go.Proofs.YthdbfgnjeolfaaaDoor
