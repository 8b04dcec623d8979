import Derived.Test.YtobhccmnlmlapaaGreatDoorQStZd
import Derived.Test.YtobhccmnlmlapaaGreatDoorQStZa
import Derived.Test.YtobhccmnlmlapaaGreatDoorGu
import Derived.Test.YtobhccmnlmlapaaGreatDoorQHdA
import Derived.Test.YtobhccmnlmlapaaGreatDoorQBkP
namespace Go.Proofs.YtobhccmnlmlapaaGreatDoor
open Go.RowKit Go.Maps
set_option linter.unusedVariables false
set_option linter.unusedSimpArgs false
set_option maxRecDepth 100000

theorem opened (body : List UInt8) (hb : body.length ≤ 134217728) : Wr.opnE (Wr.lat (Wr.sealed body)) (Wr.sealed body).length 0 = 0 ∧ Wr.opnN (Wr.lat (Wr.sealed body)) (Wr.sealed body).length 0 = body.length ∧ ∀ i, i < body.length → Wr.opnF (Wr.lat (Wr.sealed body)) 0 i = Wr.lat body i := by
  have h := Wr.open_sealed [] body [] hb
  rw [List.nil_append, List.append_nil, List.length_nil] at h
  obtain ⟨s1, s2, s3⟩ := h
  generalize Wr.lat (Wr.sealed body) = f at *
  generalize (Wr.sealed body).length = n at *
  have e0 : ((0 : Nat) : Int) = (0 : Int) := rfl
  rw [e0] at s1
  refine ⟨s1, ?_, fun i hi => ?_⟩
  · unfold Wr.opnN
    rw [if_pos s1, ← s2]
    rfl
  · have := s3 i hi
    unfold Wr.opnF
    rw [← this]
    rfl
theorem open_ok (a : Option Addr) (cap : Nat) (body bs : List UInt8) (w : World) (hbs : bs = Wr.sealed body) (hb : body.length ≤ 134217728) (hl : Wr.Bytes w a bs.length (Wr.lat bs)) (hc : bs.length ≤ cap) (hm : cap ≤ 9223372036854775807) (hq : Wr.Quart w) :
    Calls Tryz.prog 68 #[.slice a bs.length cap, .int .i64 0] w fun e w' => Below w.heap.size w w' ∧ ∃ v', e = .returned (.tuple #[v', .int .i64 (bs.length : Int), .nilIface]) ∧ Wr.OL w' w.heap.size v' body := by
  have hln : bs.length = body.length + 8 := by rw [hbs, Wr.sealed_len]
  refine (Wr.open_any2 a bs.length cap (Wr.lat bs) 0 w hl hc hm (by omega) (by omega) (by omega) hq).mono ?_
  rintro e w' ⟨b2, v2, rfl, o2⟩
  obtain ⟨s1, s2, s3⟩ := opened body hb
  rw [← hbs] at s1 s2 s3
  refine ⟨b2, v2, ?_, ?_⟩
  · have hT : Wr.opnT (Wr.lat bs) bs.length 0 = (bs.length : Int) := by unfold Wr.opnT; rw [if_pos s1, s2, hln]; omega
    rw [hT, s1]; rfl
  · rw [s2] at o2
    have he : (List.range body.length).map (fun i => Wr.u8v (Wr.opnF (Wr.lat bs) 0 i)) = body.map Wr.u8v := by
      apply List.ext_getElem?
      intro j
      by_cases hj : j < body.length
      · rw [List.getElem?_map, List.getElem?_range hj, List.getElem?_map, List.getElem?_eq_getElem hj]
        simp only [Option.map_some]
        rw [s3 j hj]
        simp [Wr.lat, hj]
      · rw [List.getElem?_eq_none (by simp; omega), List.getElem?_eq_none (by simp; omega)]
    rw [he] at o2
    exact o2
/-- Pieces that were handed in, below a block. -/
structure PIn (w : World) (B : Nat) (pb : Option Addr) (ps : List Pc) : Prop where
  row : ∀ i (hi : i < ps.length), ∃ b off, pb = some ⟨b, off, none⟩ ∧ b < B ∧ w.cell? ⟨b, off + i * 2, none⟩ = some (.int .i64 (ps[i].g : Int)) ∧ w.cell? ⟨b, off + i * 2 + 1, none⟩ = some ps[i].v
  byt : ∀ p ∈ ps, ∃ a c, p.v = .slice a p.b.length c ∧ Wr.Bytes w a p.b.length (Wr.lat p.b) ∧ p.b.length ≤ c ∧ c ≤ 9223372036854775807 ∧ ∀ y, a = some y → y.block < B
theorem PIn.kept {w w' : World} {B : Nat} {pb : Option Addr} {ps : List Pc} (h : PIn w B pb ps) (hb : Below B w w') : PIn w' B pb ps := by
  refine ⟨fun i hi => ?_, fun p hp => ?_⟩
  · obtain ⟨b, off, e, hlt, h1, h2⟩ := h.row i hi
    exact ⟨b, off, e, hlt, (hb.cell (p := ⟨b, off + i * 2, none⟩) hlt).trans h1, (hb.cell (p := ⟨b, off + i * 2 + 1, none⟩) hlt).trans h2⟩
  · obtain ⟨a, c, e, h1, h2, h3, h4⟩ := h.byt p hp
    refine ⟨a, c, e, fun i hi => ?_, h2, h3, h4⟩
    obtain ⟨b, off, e', hc⟩ := h1 i hi
    have hlt := h4 _ e'
    exact ⟨b, off, e', (hb.cell (p := ⟨b, off + i, none⟩) hlt).trans hc⟩
def inR (lo hi : Int) (p : Pc) : Bool := decide (lo ≤ (p.g : Int)) && decide ((p.g : Int) < hi)
/-- What pieces of these groups have. -/
def accP (lo hi : Int) (cl : Nat → List Ce) (ps : List Pc) : List Ce := (ps.filter (inR lo hi)).flatMap fun p => cl p.g
/-- Pieces that can be read. -/
structure Reads (lo hi : Int) (cl : Nat → List Ce) (ps : List Pc) : Prop where
  grp : ∀ p ∈ ps, p.g < 32
  nod : (ps.map (·.g)).Nodup
  byt : ∀ p ∈ ps, p.b = Wr.sealed (encBody (cl p.g)) ∧ (encBody (cl p.g)).length ≤ 134217728
  up : ∀ p ∈ ps, (cl p.g).Pairwise fun x y => ltC x y = true
  ok : ∀ p ∈ ps, inR lo hi p = true → ∀ c ∈ cl p.g, okC lo hi c ∧ GoodK c.key ∧ Go.Proofs.YtobhccmnlmlapaaGreatDoor.grp c.key = p.g
  wl : wt (accP lo hi cl ps) ≤ 67108864
def zb32 : List Value := List.replicate 32 (.bool false)
/-- Which groups were met. -/
def mets (l : List Nat) : List Value := (List.range 32).map fun g => .bool (decide (g ∈ l))
theorem mets_at (l : List Nat) (g : Nat) (hg : g < 32) : (mets l)[g]? = some (.bool (decide (g ∈ l))) := by unfold mets; rw [List.getElem?_map, List.getElem?_range hg]; rfl
theorem mets_set (l : List Nat) (g : Nat) (hg : g < 32) : (mets l).set g (.bool true) = mets (l ++ [g]) := by
  apply List.ext_getElem?
  intro j
  by_cases hj : j < 32
  · rw [mets_at _ j hj]
    by_cases e : j = g
    · subst e
      rw [List.getElem?_set_self (by simp [mets, hj])]
      simp
    · rw [List.getElem?_set_ne (fun e' => e e'.symm), mets_at _ j hj]
      simp [e]
  · rw [List.getElem?_eq_none (by simp [mets]; omega), List.getElem?_eq_none (by simp [mets]; omega)]
/-- How far pieces were read. -/
structure RI (w wr : World) (B t mp : Nat) (lo hi : Int) (cl : Nat → List Ce) (ps : List Pc) (M k : Nat) (ss : List Sh) : Prop where
  pq : PS wr B t mp lo hi ss
  prm : (ces ss).Perm (accP lo hi cl (ps.take k))
  bel : Below B w wr
  met : Own wr M 131 32 (mets ((ps.take k).map (·.g)))
set_option maxHeartbeats 2000000 in
theorem read_ok (w : World) (B t mp : Nat) (lo hi : Int) (pb : Option Addr) (pc : Nat) (cl : Nat → List Ce) (ps : List Pc) (h : PS w B t mp lo hi []) (hin : PIn w B pb ps) (hr : Reads lo hi cl ps) (ht : ∀ W, Below B w W → Vl.Tab W ∧ Wr.Quart W) (hlo : -9223372036854775808 ≤ lo ∧ hi ≤ 9223372036854775807) :
    Calls Tryz.prog 39 #[.slice pb ps.length pc, .int .i64 lo, .int .i64 hi, .func (.func 40) #[.pointer (some ⟨t, 0, none⟩)] #[]] w fun e w' => e = .returned .nilIface ∧ ∃ ss, PS w' B t mp lo hi ss ∧ (ces ss).Perm (accP lo hi cl ps) ∧ Below B w w' := by
  have HP := hidMk h
  have HI := hidMk hin
  have HR := hidMk hr
  have HT := hidMk ht
  have hBw : B ≤ w.heap.size := by have h1 := h.ge.1; have h2 := h.own.lt; omega
  have hpl : ps.length ≤ 32 := by
    have h1 := sum_sub (fun _ => 1) (ps.map (·.g)) (List.range 32) hr.nod (fun g hg => by obtain ⟨p, hp, rfl⟩ := List.mem_map.1 hg; exact List.mem_range.2 (hr.grp p hp))
    simp only [List.map_const', List.sum_replicate_nat, Nat.mul_one, List.length_map, List.length_range] at h1
    exact h1
  have HZ : Hid (Own (w.alloc (.cells #[.bool false, .bool false, .bool false, .bool false, .bool false, .bool false, .bool false, .bool false, .bool false, .bool false, .bool false, .bool false, .bool false, .bool false, .bool false, .bool false, .bool false, .bool false, .bool false, .bool false, .bool false, .bool false, .bool false, .bool false, .bool false, .bool false, .bool false, .bool false, .bool false, .bool false, .bool false, .bool false] 131)) w.heap.size 131 32 (mets [])) := Own.new w 131 32 #[.bool false, .bool false, .bool false, .bool false, .bool false, .bool false, .bool false, .bool false, .bool false, .bool false, .bool false, .bool false, .bool false, .bool false, .bool false, .bool false, .bool false, .bool false, .bool false, .bool false, .bool false, .bool false, .bool false, .bool false, .bool false, .bool false, .bool false, .bool false, .bool false, .bool false, .bool false, .bool false] rfl
  clear h hin hr ht
  go_enter Tryz.func39, Tryz.ntmps39
  go_wp2_with fail
  have HS0 : Hid (∀ o, Own (w.alloc o) w.heap.size 131 32 (mets []) → RI w (w.alloc o) B t mp lo hi cl ps w.heap.size 0 []) := fun o ho => by
    have b0 := bel1 w o
    exact ⟨HP.out.later b0, by simp [accP, ces], (Below.refl _ _).alloc hBw _, by simpa using ho⟩
  go_loopw [17] (fun i wr => ∃ (k : Nat) (ss : List Sh), i = .int .i64 (k : Int) ∧ k ≤ ps.length ∧ RI w wr B t mp lo hi cl ps w.heap.size k ss) (fun i _ => ps.length - (intOf i).toNat)
  case atStart => exact ⟨0, [], rfl, Nat.zero_le _, HS0.out _ HZ.out⟩
  case round =>
    obtain ⟨k, ss, rfl, hk, hri⟩ := hrel
    have HRI := hidMk hri
    clear hri HS0 HZ
    by_cases hlt : k < ps.length
    · have hki : (k : Int) < (ps.length : Int) := by omega
      have hI := HI.out.kept HRI.out.bel
      obtain ⟨b, off, rfl, hbB, e0, e1⟩ := hI.row k hlt
      obtain ⟨va, vc, hv, hby, hvc, hvc2, hvB⟩ := hI.byt ps[k] (List.getElem_mem hlt)
      have hg32 := HR.out.grp ps[k] (List.getElem_mem hlt)
      have hnot : ps[k].g ∉ (ps.take k).map (·.g) := fun hm => by
        have hn := HR.out.nod
        rw [← List.take_append_drop k ps, List.drop_eq_getElem_cons hlt, List.map_append, List.map_cons, List.nodup_append] at hn
        exact hn.2.2 _ hm _ (List.mem_cons_self) rfl
      obtain ⟨hb1, hb2⟩ := HR.out.byt ps[k] (List.getElem_mem hlt)
      have hup := HR.out.up ps[k] (List.getElem_mem hlt)
      have hok := HR.out.ok ps[k] (List.getElem_mem hlt)
      have hM : wr.cell? ⟨w.heap.size, ps[k].g, none⟩ = some (.bool false) := by
        rw [HRI.out.met.cell _ hg32, mets_at _ _ hg32, decide_eq_false hnot]
      have hMf := HRI.out.met.soft ps[k].g
      have HTK : Hid (ps.take (k + 1) = ps.take k ++ [ps[k]]) := List.take_succ_eq_append_getElem hlt
      have HMS : Hid (mets ((ps.take (k + 1)).map (·.g)) = (mets ((ps.take k).map (·.g))).set ps[k].g (.bool true)) := by rw [Hid, mets_set _ _ hg32, HTK.out, List.map_append]; rfl
      have HAc : Hid (accP lo hi cl (ps.take (k + 1)) = accP lo hi cl (ps.take k) ++ if inR lo hi ps[k] = true then cl ps[k].g else []) := by
        rw [Hid, HTK.out]
        unfold accP
        rw [List.filter_append, List.flatMap_append]
        by_cases hin : inR lo hi ps[k] = true
        · simp [hin]
        · simp [hin]
      have HWt : Hid (wt (accP lo hi cl (ps.take (k + 1))) ≤ 67108864) := by
        refine Nat.le_trans ?_ HR.out.wl
        conv => rhs; rw [← List.take_append_drop (k + 1) ps]
        unfold accP
        rw [List.filter_append, List.flatMap_append, wt_append]
        omega
      have HNg : Hid (∀ y ∈ accP lo hi cl (ps.take k), Go.Proofs.YtobhccmnlmlapaaGreatDoor.grp y.key ≠ ps[k].g) := fun y hy e => by
        obtain ⟨p', hp', hy'⟩ := List.mem_flatMap.1 hy
        obtain ⟨h1, h2⟩ := List.mem_filter.1 hp'
        have h3 := (HR.out.ok p' (List.mem_of_mem_take h1) h2 y hy').2.2
        exact hnot (List.mem_map.2 ⟨p', h1, h3.symm.trans e⟩)
      have hMlt := HRI.out.met.lt
      generalize hpk : ps[k] = p at *
      obtain ⟨pg, pv, pbs⟩ := p
      simp only at e0 e1 hv hby hvc hvc2 hg32 hnot hb1 hb2 hup hok hM hMf HMS HAc HNg
      subst hv
      have HSB := hidMk hb1
      have HBY := hidMk hby
      clear hb1 hby
      have hgi : ((pg : Nat) : Int) < 32 := by omega
      have hga : (0 : Int) ≤ ((pg : Nat) : Int) := by omega
      have hMw : w.heap.size ≠ wr.heap.size := by omega
      clear hpk
      have HW1 : Hid (RI w ((wr.setCell ⟨w.heap.size, pg, none⟩ (.bool true)).alloc (.cells #[.int .i64 (pg : Int), .slice va pbs.length vc] 57)) B t mp lo hi cl ps w.heap.size k ss → True) := fun _ => trivial
      have hp1 := HRI.out.met.put pg (.bool true)
      have hnb := HRI.out.pq.not_bl HRI.out.met (by decide) (by decide) (by decide)
      have G1 : Gs (fun i => i = w.heap.size) wr (wr.setCell ⟨w.heap.size, pg, none⟩ (.bool true)) := Gs.one hp1.2 (fun k e => (Option.some.inj e).symm)
      have hq1 := (HRI.out.pq.kept G1 (fun i hi e => hnb (by have e' : i = w.heap.size := e; rw [← e']; exact hi))).later (bel1 _ (.cells #[.int .i64 (pg : Int), .slice va pbs.length vc] 57))
      have hB1 : Below B w ((wr.setCell ⟨w.heap.size, pg, none⟩ (.bool true)).alloc (.cells #[.int .i64 (pg : Int), .slice va pbs.length vc] 57)) := by
        have h1 : Below B w (wr.setCell ⟨w.heap.size, pg, none⟩ (.bool true)) := HRI.out.bel.grown hp1.2 (Nat.le_trans hBw HRI.out.bel.size) (fun j e => by cases e; exact hBw)
        exact h1.alloc (Nat.le_trans hBw h1.size) _
      have hm1 : Own ((wr.setCell ⟨w.heap.size, pg, none⟩ (.bool true)).alloc (.cells #[.int .i64 (pg : Int), .slice va pbs.length vc] 57)) w.heap.size 131 32 (mets ((ps.take (k + 1)).map (·.g))) := by rw [HMS.out]; exact hp1.1.later (bel1 _ _)
      have HQ1 := hidMk hq1
      have HB1 := hidMk hB1
      have HM1 := hidMk hm1
      clear HW1 hp1 hnb G1 hq1 hB1 hm1
      by_cases hin : inR lo hi ⟨pg, .slice va pbs.length vc, pbs⟩ = true
      · have hin' : lo ≤ ((pg : Nat) : Int) ∧ ((pg : Nat) : Int) < hi := by unfold inR at hin; simpa using hin
        obtain ⟨i1, i2⟩ := hin'
        have hpl8 : pbs.length = (encBody (cl pg)).length + 8 := by rw [HSB.out, Wr.sealed_len]
        obtain ⟨vb, vo, rfl⟩ : ∃ vb vo, va = some ⟨vb, vo, none⟩ := by obtain ⟨b', o', e', -⟩ := HBY.out 0 (by omega); exact ⟨b', o', e'⟩
        have hvlt : vb < B := hvB _ rfl
        have hby1 : Wr.Bytes ((wr.setCell ⟨w.heap.size, pg, none⟩ (.bool true)).alloc (.cells #[.int .i64 (pg : Int), .slice (some ⟨vb, vo, none⟩) pbs.length vc] 57)) (some ⟨vb, vo, none⟩) pbs.length (Wr.lat pbs) := fun i hi => by
          obtain ⟨b', o', e', hc⟩ := HBY.out i hi
          cases e'
          refine ⟨vb, vo, rfl, ?_⟩
          have h1 : (wr.setCell ⟨w.heap.size, pg, none⟩ (.bool true)).cell? ⟨vb, vo + i, none⟩ = some (.int .u8 ((Wr.lat pbs i).toNat : Int)) := (grown_set wr ⟨w.heap.size, pg, none⟩ (.bool true)).cell hc (by simp; omega)
          exact cell_later (bel1 _ _) h1
        have HOP := hidMk (open_ok (some ⟨vb, vo, none⟩) vc (encBody (cl pg)) pbs _ HSB.out hb2 hby1 hvc hvc2 (HT.out _ HB1.out).2)
        have HL8 := hidMk hpl8
        clear hby1 hpl8
        go_wp2_with fail
        refine HOP.out.mono ?_
        rintro e w2 ⟨b2, v2, rfl, o2⟩
        obtain ⟨ba2, bc2, hv2, hb2y, hbc2, hbm2⟩ := o2.conv
        subst hv2
        have HB2 := hidMk (HB1.out.trans (b2.mono (Nat.le_trans hBw (Nat.le_trans HRI.out.bel.size (by simp)))))
        have HQ2 := hidMk (HQ1.out.later b2)
        have HM2 := hidMk (HM1.out.later b2)
        have HOne2 := hidMk ((Own.new (wr.setCell ⟨w.heap.size, pg, none⟩ (.bool true)) 57 2 #[.int .i64 (pg : Int), .slice (some ⟨vb, vo, none⟩) pbs.length vc] rfl).later b2)
        have q0 := HOne2.out.two.1
        have q1 := HOne2.out.two.2.1
        rw [size_set] at q0 q1
        obtain ⟨o', ho'⟩ : ∃ o', (if vc = pbs.length then some (Addr.mk vb vo none) else some (Addr.mk vb (vo + pbs.length) none)) = some (Addr.mk vb o' none) := by split <;> exact ⟨_, rfl⟩
        have hsl := Wr.slice_from vb vo pbs.length vc pbs.length (pbs.length : Int) rfl (Nat.le_refl _) o' ho' w2.drew
        have hsla := Wr.sliceAt_from vb vo pbs.length vc pbs.length (pbs.length : Int) rfl (Nat.le_refl _) o' ho' w2.drew
        rw [Nat.sub_self] at hsl hsla
        have HTk := hidMk (take_ok w2.drew B t mp lo hi ss pg (cl pg) ba2 bc2 (if vc = pbs.length then some (Addr.mk vb vo none) else some (Addr.mk vb (vo + pbs.length) none)) (vc - pbs.length) HQ2.out.drew ⟨hup, fun c hc => hok hin c hc, fun c hc y hy e => HNg.out y (HRI.out.prm.mem_iff.1 hy) (by rw [e.1]; exact (hok hin c hc).2.2), by
            have h1 := HWt.out
            rw [HAc.out, if_pos hin, wt_append, ← wt_perm HRI.out.prm] at h1
            exact h1⟩ (fun W hW => (HT.out W ((below_drewN HB2.out 1).trans hW)).1) (show Wr.Bytes w2.drew _ _ _ from hb2y) hbc2 (by unfold maxLen at hbm2; omega) hb2 (by
            obtain ⟨b', o'', e', -⟩ := hb2y 0 (by unfold encBody; rw [List.length_append]; have := Wr.encInt_pos ((cl pg).length : Int); omega)
            exact ⟨b', o'', e'⟩))
        have q0' : w2.drew.cell? ⟨wr.heap.size, 0, none⟩ = some (.int .i64 (pg : Int)) := q0
        have q1' : w2.drew.cell? ⟨wr.heap.size, 1, none⟩ = some (.slice (some ⟨vb, vo, none⟩) pbs.length vc) := q1
        clear b2 o2 hb2y hbc2 hbm2 ho'
        go_wp2_with fail
        clear q0 q1 HOne2
        refine wp_region_head (K := 8) (C := fun W => W = w2.drew) 6 (by kernel_rfl) (by kernel_rfl) (by kernel_rfl) (by decide) (by kernel_rfl) (by kernel_rfl) rfl ?_
        simp only [List.take_succ_cons, List.take_zero]
        with_reducible refine wpQuiet_step ?_
        intro K hK
        go_simp
        refine hK _ ?_
        clear hK K
        with_reducible refine wpQuiet_step ?_
        intro K hK
        go_simp
        refine hK _ ?_
        clear hK K
        with_reducible refine wpQuiet_step ?_
        intro K hK
        go_simp
        refine hK _ ?_
        clear hK K
        with_reducible refine wpQuiet_step ?_
        intro K hK
        go_simp
        refine hK _ ?_
        clear hK K
        with_reducible refine wpQuiet_step ?_
        intro K hK
        go_simp
        refine hK _ ?_
        clear hK K
        with_reducible refine wpQuiet_step ?_
        intro K hK
        go_simp
        refine hK _ ?_
        clear hK K
        with_reducible refine wpQuiet_step ?_
        intro K hK
        go_simp
        refine hK _ ?_
        clear hK K
        with_reducible refine wpQuiet_step ?_
        intro K hK
        go_simp
        refine hK _ ?_
        clear hK K
        intro w' hC
        obtain rfl := hC
        refine wpAny_ready (fuel := 1) (rs := [8]) (by kernel_rfl) (by simp) ?_
        refine AllReady.cons rfl (fun K hK => ?_) AllReady.nil
        go_simp
        refine HTk.out.mono ?_
        rintro e w3 ⟨rfl, hfin⟩
        refine hK _ _ ?_
        clear hK K
        have HF : Hid (∃ ss2, RI w w3 B t mp lo hi cl ps w.heap.size (k + 1) ss2) := by
          obtain ⟨ss2, f1, f2, f3, f4⟩ := hfin
          refine ⟨ss2, f1, ?_, ?_, ?_⟩
          · rw [HAc.out, if_pos hin]
            exact f2.trans (HRI.out.prm.append_right _)
          · exact (below_drewN HB2.out 1).trans (f3.toBelow (Nat.le_trans hBw (below_drewN HB2.out 1).size) (fun i hi => (HQ2.out.drew.lt hi).1))
          · have hO : Own w2.drew w.heap.size 131 32 (mets ((ps.take (k + 1)).map (·.g))) := HM2.out
            have hnb := HQ2.out.drew.not_bl hO (by decide) (by decide) (by decide)
            exact f3.own hO (fun b hb e => hnb (by cases hb; exact e))
        clear hfin HTk HQ2 HM2 HB2
        obtain ⟨ss2, hri2⟩ := HF.out
        clear HF
        have HF := hidMk hri2
        clear hri2
        refine wpAny_ready (fuel := 0) (rs := [9]) (by kernel_rfl) (by simp) ?_
        refine AllReady.cons rfl (fun K hK => ?_) AllReady.nil
        go_simp
        refine hK _ _ ?_
        clear hK K
        refine ⟨by kernel_rfl, ?_⟩
        go_wp2_with fail
        exact ⟨⟨k + 1, ss2, by go_num, by omega, HF.out⟩, by simp [intOf]; omega⟩
      · have HF : Hid (RI w ((wr.setCell ⟨w.heap.size, pg, none⟩ (.bool true)).alloc (.cells #[.int .i64 (pg : Int), .slice va pbs.length vc] 57)) B t mp lo hi cl ps w.heap.size (k + 1) ss) := ⟨HQ1.out, by rw [HAc.out, if_neg hin, List.append_nil]; exact HRI.out.prm, HB1.out, HM1.out⟩
        by_cases i1 : lo ≤ ((pg : Nat) : Int)
        · have i2 : ¬ ((pg : Nat) : Int) < hi := fun h => hin (by unfold inR; simp [i1, h])
          go_wp2_with fail
          exact ⟨⟨k + 1, ss, by go_num, by omega, HF.out⟩, by simp [intOf]; omega⟩
        · go_wp2_with fail
          exact ⟨⟨k + 1, ss, by go_num, by omega, HF.out⟩, by simp [intOf]; omega⟩
    · obtain rfl : k = ps.length := by omega
      have HF : Hid (∃ ss, PS wr B t mp lo hi ss ∧ (ces ss).Perm (accP lo hi cl ps) ∧ Below B w wr) := ⟨ss, HRI.out.pq, by have := HRI.out.prm; rw [List.take_of_length_le (Nat.le_refl _)] at this; exact this, HRI.out.bel⟩
      go_wp2_with fail
      go_ret
      exact ⟨rfl, HF.out⟩
end Go.Proofs.YtobhccmnlmlapaaGreatDoor
