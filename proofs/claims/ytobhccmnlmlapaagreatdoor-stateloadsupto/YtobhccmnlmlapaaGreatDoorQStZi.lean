import Derived.Test.YtobhccmnlmlapaaGreatDoorQStU
import Derived.Test.YtobhccmnlmlapaaGreatDoorQStJ
import Derived.Test.YtobhccmnlmlapaaGreatDoorQStZc
import Derived.Test.YtobhccmnlmlapaaGreatDoorQHdA
namespace Go.Proofs.YtobhccmnlmlapaaGreatDoor
open Go.RowKit Go.Maps
set_option linter.unusedVariables false
set_option linter.unusedSimpArgs false
set_option maxRecDepth 100000
/-- Rows of two types are apart. -/
theorem rows_ne {w : World} {B T size n B' T' size' n' : Nat} {v v' : Value} {xs ys : List Value} (h : w.ownsRow B T size v n xs) (h' : w.ownsRow B' T' size' v' n' ys) (hne : T ≠ T') : ∀ g, v.ownBlock = some g → v'.ownBlock ≠ some g := fun g hg hg' => by
  rcases h.2 with ⟨h1, _⟩ | ⟨g1, cap, cur, h1, h2, h3, _⟩
  · rw [h1] at hg; cases hg
  · rcases h'.2 with ⟨k1, _⟩ | ⟨g2, cap2, cur2, k1, k2, k3, _⟩
    · rw [k1] at hg'; cases hg'
    · rw [h1] at hg
      rw [k1] at hg'
      have e1 : g1 = g := Option.some.inj hg
      have e2 : g2 = g := Option.some.inj hg'
      rw [e1] at h3
      rw [e2, h3] at k3
      injection k3 with k3
      injection k3 with _ k4
      exact hne k4
def ripe (T : Int) (c : Ce) : Bool := decide (c.w.t ≤ T)
/-- Cells with keys and data of their own. -/
structure RC (w : World) (n0 : Nat) (u : Value) (qs : List Cx) : Prop where
  own : OC w n0 u qs
  key : ∀ q ∈ qs, OV w n0 (.slice q.ka q.c.key.length q.kc) q.c.key
  dat : ∀ q ∈ qs, Wr.OL w n0 q.dv q.c.d
theorem RC.nil (w : World) (n0 : Nat) : RC w n0 (.slice none 0 0) [] := ⟨World.ownsRow_nil _ _ _ _, (fun p h => by cases h), (fun p h => by cases h)⟩
theorem RC.later {w w' : World} {n0 : Nat} {u : Value} {qs : List Cx} (h : RC w n0 u qs) (hb : Below w.heap.size w w') : RC w' n0 u qs := ⟨own_later h.own hb, fun q hq => own_later (h.key q hq) hb, fun q hq => own_later (h.dat q hq) hb⟩
theorem RC.iter {w w' : World} {n0 : Nat} {u : Value} {qs : List Cx} {b r n : Nat} {D : DataW Value} {left : Lit → Bool} {cnt : Nat} {P : Program} {k : TypeId} (h : RC w n0 u qs) (hr : w.ranges P k heldE b r n D left cnt) (hg : w.grownBy w' (some r)) : RC w' n0 u qs :=
  ⟨own_grown h.own hg fun g hg' e => (row_not_iter hr h.own g hg').1 (Option.some.inj e), fun q hq => own_grown (h.key q hq) hg fun g hg' e => (row_not_iter hr (h.key q hq) g hg').1 (Option.some.inj e), fun q hq => own_grown (h.dat q hq) hg fun g hg' e => (row_not_iter hr (h.dat q hq) g hg').1 (Option.some.inj e)⟩
theorem RC.turned {w w' : World} {n0 : Nat} {u u' : Value} {qs ps : List Cx} (h : RC w n0 u qs) (hp : ∀ p ∈ ps, p ∈ qs) (hown : OC w' n0 u' ps) (hgr : w.grownBy w' u.ownBlock) : RC w' n0 u' ps :=
  ⟨hown, fun q hq => own_grown (h.key q (hp q hq)) hgr fun g hg' e => rows_ne (h.key q (hp q hq)) h.own (by decide) g hg' e.symm, fun q hq => own_grown (h.dat q (hp q hq)) hgr fun g hg' e => rows_ne (h.dat q (hp q hq)) h.own (by decide) g hg' e.symm⟩
theorem RC.more {w w' : World} {n0 : Nat} {u u' : Value} {qs : List Cx} {q : Cx} (h : RC w n0 u qs) (hk : OV w n0 (.slice q.ka q.c.key.length q.kc) q.c.key) (hd : Wr.OL w n0 q.dv q.c.d) (hown : w'.ownsRow n0 55 4 u' (qs.length + 1) (qs.flatMap cellsC ++ cellsC q)) (hgr : w.grownBy w' u.ownBlock) : RC w' n0 u' (qs ++ [q]) := by
  refine ⟨?_, fun p hp => ?_, fun p hp => ?_⟩
  · unfold OC
    rw [List.length_append, List.flatMap_append]
    simpa using hown
  · rcases List.mem_append.1 hp with hp | hp
    · exact own_grown (h.key p hp) hgr fun g hg' e => rows_ne (h.key p hp) h.own (by decide) g hg' e.symm
    · rw [List.mem_singleton.1 hp]
      exact own_grown hk hgr fun g hg' e => rows_ne hk h.own (by decide) g hg' e.symm
  · rcases List.mem_append.1 hp with hp | hp
    · exact own_grown (h.dat p hp) hgr fun g hg' e => rows_ne (h.dat p hp) h.own (by decide) g hg' e.symm
    · rw [List.mem_singleton.1 hp]
      exact own_grown hd hgr fun g hg' e => rows_ne hd h.own (by decide) g hg' e.symm
/-- How far the shelves have come. -/
structure RG (w wr : World) (mp : Nat) (T : Int) (ss : List Sh) (es : List (Lit × DataW Value)) (left : Lit → Bool) (cnt : Nat) (qs : List Sh) (u : Value) (prc : List Cx) : Prop where
  rng : wr.ranges Tryz.prog 9 heldE mp w.heap.size ss.length (DataW.map es) left cnt
  coll : CollK sk (ss.map entS) left (qs.map entS)
  sub : ∀ q ∈ qs, q ∈ ss
  rc : RC wr w.heap.size u prc
  prm : (prc.map (·.c)).Perm ((ces qs).filter (ripe T))
  bel : Below w.heap.size w wr
/-- How far one shelf has come. -/
structure IR (w wr : World) (mp r2 b1 : Nat) (T : Int) (ss : List Sh) (es : List (Lit × DataW Value)) (left : Lit → Bool) (cnt : Nat) (qs : List Sh) (s : Sh) (ka : Option Addr) (kc : Nat) (es1 : List (Lit × DataW Value)) (left1 : Lit → Bool) (cnt1 : Nat) (ys : List Dt) (u : Value) (prc : List Cx) : Prop where
  rng : wr.ranges Tryz.prog 9 heldE mp w.heap.size ss.length (DataW.map es) left cnt
  rng1 : wr.ranges Tryz.prog 38 heldE s.mb r2 s.ds.length (DataW.map es1) left1 cnt1
  coll : CollK wk (s.ds.map entD) left1 (ys.map entD)
  sub : ∀ y ∈ ys, y ∈ s.ds
  rc : RC wr w.heap.size u prc
  prm : (prc.map (·.c)).Perm ((ces qs).filter (ripe T) ++ (ys.map (ceOf s.key)).filter (ripe T))
  bel : Below w.heap.size w wr
  one : Own wr b1 87 2 [.slice ka s.key.length kc, .map (some s.mb)]
  two : w.heap.size < b1 ∧ w.heap.size < r2 ∧ b1 ≠ r2
def RipePost (w : World) (ss : List Sh) (T : Int) (e : Ending) (w' : World) : Prop := ∃ u qs, e = .returned u ∧ RC w' w.heap.size u qs ∧ qs.map (·.c) = srt ((ces ss).filter (ripe T)) ∧ Below w.heap.size w w'
set_option maxHeartbeats 2000000 in
theorem ripe_any (w : World) (B t mp : Nat) (lo hi T : Int) (ss : List Sh) (h : PS w B t mp lo hi ss) :
    Calls Tryz.prog 13 #[.pointer (some ⟨t, 0, none⟩), .int .i64 T] w (RipePost w ss T) := by
  have HP := hidMk h
  obtain ⟨es, ho, hp, hok, hn⟩ := h.mpo
  obtain ⟨-, -, c2, -, -⟩ := h.cells
  have htl : t < w.heap.size := (h.lt (.inl (.inl rfl))).2
  have HPM := hidMk hp
  have HOK := hidMk hok
  have HN := hidMk hn
  have HST := hidMk (CollK.start (kd := sk) K9 hp hok hn)
  clear h hp hok hn
  go_enter Tryz.func13, Tryz.ntmps13
  go_wp2_with (first
    | (at_range; refine wpList_range_own _ rfl _ 80 rfl 9 _ K9 Tryz.underlying80 _ mp _ _ rfl ho ?_; intro w0 hrg0 hg0 hs0)
    | fail)
  have HS0 : Hid (RG w w0 mp T ss es (Maps.has (DataW.map es)) (Maps.size (DataW.map es)) [] (.slice none 0 0) []) := by
    have hb0 : Below w.heap.size w w0 := ⟨hg0.os, hg0.tape, hg0.output, hg0.size, fun i hi => hg0.block i hi (by simp)⟩
    rw [List.length_map] at hrg0
    exact ⟨hrg0, HST.out, fun q hq => by (cases hq), RC.nil _ _, List.Perm.refl _, hb0⟩
  clear ho hrg0 hg0 hs0 HST
  go_frame
  go_loopw [5, 16] (fun u _ wr => ∃ left cnt qs prc, RG w wr mp T ss es left cnt qs u prc) (fun _ _ wr => wr.rangeLeft mp w.heap.size)
  case atStart => exact ⟨_, _, _, _, HS0.out⟩
  case round =>
    obtain ⟨left, cnt, qs, prc, hbg⟩ := hrel
    have HBG := hidMk hbg
    have hrg := hbg.rng
    clear hbg HS0
    go_wp2_with (first
      | (at_next; refine wpList_next_ranges _ rfl _ rfl 9 K9 heldE (fun s => .string s) id (fun key kl hk => by obtain ⟨x, hx, _⟩ := str_inv hk; exact ⟨x, hx⟩) (fun v _ _ => ⟨v, rfl⟩) mp w.heap.size ss.length _ _ _ rfl hrg ?_ ?_)
      | go_in)
    · intro hc0 hl0
      have hpq : qs.Perm ss := by
        have hp := HBG.out.coll.all HN.out hl0
        have hy := HBG.out.coll.1
        rw [List.map_map] at hy
        have hn := HN.out
        rw [List.map_map] at hn
        exact perm_sub (f := entS) (k := fun x => nameOf x.key) (fun a b e => by injection e) hn hy HBG.out.sub hp
      have HE : Hid ((prc.map (·.c)).Perm ((ces ss).filter (ripe T))) := HBG.out.prm.trans ((hpq.flatMap_right _).filter _)
      have HSo : Hid (Calls Tryz.prog 42 #[u5, .func (.func 43) #[] #[]] wr fun e w' => e = .returned (.tuple #[]) ∧ ∃ ps : List Cx, RC w' w.heap.size u5 ps ∧ ps.map (·.c) = srt ((ces ss).filter (ripe T)) ∧ Below w.heap.size w w') := by
        have hrc := HBG.out.rc
        refine (sortsC wr _ u5 prc hrc.own (fun q hq => ?_) ?_).mono ?_
        · obtain ⟨a, c, e, l, b⟩ := (hrc.key q hq).form
          cases e
          refine ⟨l, fun z hz e' => ?_, ?_, ?_⟩
          · have hb : (Value.slice q.ka q.c.key.length q.kc).ownBlock = some z.block := by
              rcases (hrc.key q hq).2 with ⟨h1, _⟩ | ⟨g1, cap, cur, h1, -⟩
              · injection h1 with h1; rw [h1] at hz; cases hz
              · injection h1 with h1; rw [h1] at hz; cases hz; rw [h1]; rfl
            exact rows_ne (hrc.key q hq) hrc.own (by decide) _ hb e'.symm
          · have hm := HE.out.mem_iff.1 (List.mem_map_of_mem hq)
            have := (HP.out.okC _ (List.mem_filter.1 hm).1).1
            exact vk_len this
          · obtain ⟨a', c', e'⟩ := row_form (hrc.dat q hq)
            exact ⟨a', _, c', e'⟩
        · have h1 := HE.out.length_eq
          rw [List.length_map] at h1
          have h2 : ((ces ss).filter (ripe T)).length ≤ (ces ss).length := List.length_filter_le _ _
          have h4 := HP.out.cells_few
          omega
        · rintro e w' ⟨rfl, ps, p1, p2, p3, p4⟩
          refine ⟨rfl, ps, hrc.turned (fun p hp => p1.mem_iff.1 hp) p3 p4, srt_of ((p1.map _).trans HE.out) (HP.out.apart.filter _) p2, HBG.out.bel.grown p4 HBG.out.bel.size (fun b hb => (World.ownsRow.lt hrc.own b hb).1)⟩
      clear hl0 hpq hrg
      go_wp2_with fail
      refine HSo.out.mono ?_
      rintro e w2 ⟨rfl, ps, h1, h2, h3⟩
      have HF : Hid (RC w2 w.heap.size u5 ps ∧ ps.map (·.c) = srt ((ces ss).filter (ripe T)) ∧ Below w.heap.size w w2) := ⟨h1, h2, h3⟩
      clear h1 h2 h3 HSo
      go_wp2_with fail
      go_ret
      exact ⟨u5, ps, rfl, HF.out⟩
    · intro x c kl yd yp w2 cnt2 hkey hlk hv hat hrg2 hlt hg2 hs2 hen
      obtain ⟨x', ex, hfx, rfl⟩ := str_inv hkey
      obtain rfl : x = x' := by simpa using ex
      simp only [heldE, id, Option.some.injEq, Prod.mk.injEq] at hv
      obtain ⟨rfl, rfl⟩ := hv
      have hxc := mem_atK (kd := sk) K9 HPM.out HOK.out HN.out hfx hat
      obtain ⟨s, hs, ent⟩ := List.mem_map.1 hxc
      obtain ⟨rfl, rfl⟩ : nameOf s.key = x ∧ Value.agg #[s.kv, .map (some s.mb)] = c := by simpa [entS] using ent
      obtain ⟨ka, kc, hkv, -⟩ := (HP.out.sho s hs).key.form
      have hlr := hrg.lt
      have HI2 : Hid (w2.ranges Tryz.prog 9 heldE mp w.heap.size ss.length (DataW.map es) (fun z => left z && !z.sameKey (sk.kl (nameOf s.key))) cnt2 ∧ RC w2 w.heap.size u5 prc ∧ Below w.heap.size w w2) :=
        ⟨hrg2, HBG.out.rc.iter hrg hg2, HBG.out.bel.grown hg2 HBG.out.bel.size (fun j e => by cases e; omega)⟩
      have HC2 : Hid (CollK sk (ss.map entS) (fun z => left z && !z.sameKey (sk.kl (nameOf s.key))) ((qs ++ [s]).map entS)) := by
        rw [Hid, List.map_append]
        exact CollK.step (kd := sk) K9 HBG.out.coll HN.out HOK.out hxc hlk
      have HLT : Hid (w2.rangeLeft mp w.heap.size < wr.rangeLeft mp w.heap.size) := by rw [Hid, hrg2.left_eq, hrg.left_eq]; exact hlt
      have HSS := hidMk hs
      have HVL : Hid (VLies w ka s.key) := by have := (HP.out.sho s hs).key.form; obtain ⟨a', c', e', l', -⟩ := this; rw [hkv] at e'; cases e'; exact l'
      have HKV := hidMk hkv
      simp only [hkv, id] at hen ⊢
      have hrl2 := hrg2.lt
      have HB2 : Hid (Below w.heap.size w (w2.alloc (.cells #[.slice ka s.key.length kc, .map (some s.mb)] 87))) := HI2.out.2.2.alloc HI2.out.2.2.size _
      have HO1 := hidMk (Own.new w2 87 2 #[.slice ka s.key.length kc, .map (some s.mb)] rfl)
      have b12 := bel1 w2 (.cells #[.slice ka s.key.length kc, .map (some s.mb)] 87)
      have HI3 : Hid ((w2.alloc (.cells #[.slice ka s.key.length kc, .map (some s.mb)] 87)).ranges Tryz.prog 9 heldE mp w.heap.size ss.length (DataW.map es) (fun z => left z && !z.sameKey (sk.kl (nameOf s.key))) cnt2 ∧ RC (w2.alloc (.cells #[.slice ka s.key.length kc, .map (some s.mb)] 87)) w.heap.size u5 prc) :=
        ⟨ranges_gs HI2.out.1 (Gs.below (S := fun _ => False) b12) (fun s => s) (fun s => s), HI2.out.2.1.later b12⟩
      have h3 := HP.out.later HB2.out
      obtain ⟨es1, ho1, hp1, hok1, hn1⟩ := (h3.sho s hs).map
      have HP1 := hidMk hp1
      have HOK1 := hidMk hok1
      have HN1 := hidMk hn1
      have HST1 := hidMk (CollK.start (kd := wk) lawV hp1 hok1 hn1)
      obtain ⟨o0, o1, -, -⟩ := HO1.out.two
      rw [List.length_map] at ho1
      clear hrg hrg2 hlt hg2 hs2 hat hlk hkey hxc ent hs hkv ex hfx h3 hp1 hok1 hn1 b12
      go_wp2_with (first
        | (at_range; refine wpList_range_own _ rfl _ 85 rfl 38 _ lawV Tryz.underlying85 _ s.mb _ _ rfl ho1 ?_; intro w4 hrg4 hg4 hs4)
        | fail)
      have hz3 : (w2.alloc (.cells #[.slice ka s.key.length kc, .map (some s.mb)] 87)).heap.size = w2.heap.size + 1 := by simp
      rw [hz3] at hrg4
      have HS4 : Hid (IR w w4 mp (w2.heap.size + 1) w2.heap.size T ss es (fun z => left z && !z.sameKey (sk.kl (nameOf s.key))) cnt2 qs s ka kc es1 (Maps.has (DataW.map es1)) (Maps.size (DataW.map es1)) [] u5 prc) := by
        have hb4 : Below (w2.alloc (.cells #[.slice ka s.key.length kc, .map (some s.mb)] 87)).heap.size (w2.alloc (.cells #[.slice ka s.key.length kc, .map (some s.mb)] 87)) w4 := ⟨hg4.os, hg4.tape, hg4.output, hg4.size, fun i hi => hg4.block i hi (by simp)⟩
        exact ⟨ranges_gs HI3.out.1 (Gs.below (S := fun _ => False) hb4) (fun s => s) (fun s => s), hrg4, HST1.out, fun q hq => by (cases hq), HI3.out.2.later hb4, by simpa using HBG.out.prm, HB2.out.trans (hb4.mono HB2.out.size), HO1.out.later hb4, by omega, by omega, by omega⟩
      clear hrg4 hg4 hs4 ho1 o0 o1 HST1
      try go_frame
      go_loopw [5, 23] (fun u _ wr' => ∃ left1 cnt1 ys prc', IR w wr' mp (w2.heap.size + 1) w2.heap.size T ss es (fun z => left z && !z.sameKey (sk.kl (nameOf s.key))) cnt2 qs s ka kc es1 left1 cnt1 ys u prc') (fun _ _ wr' => wr'.rangeLeft s.mb (w2.heap.size + 1))
      case atStart => exact ⟨_, _, _, _, HS4.out⟩
      case round =>
        obtain ⟨left1, cnt1, ys, prc', hig⟩ := hrel
        have HIG := hidMk hig
        have hrgi := hig.rng1
        clear hig HS4
        go_wp2_with (first
          | (at_next; refine wpList_next_ranges _ rfl _ rfl 38 lawV heldE vv id (fun key kl hk => by obtain ⟨x, hx, _⟩ := keyV_inv hk; exact ⟨x, hx⟩) (fun v _ _ => ⟨v, rfl⟩) s.mb (w2.heap.size + 1) s.ds.length _ _ _ rfl hrgi ?_ ?_)
          | go_in)
        · intro hc0 hl0
          have hpy : ys.Perm s.ds := by
            have hp := HIG.out.coll.all HN1.out hl0
            have hy := HIG.out.coll.1
            rw [List.map_map] at hy
            have hn := HN1.out
            rw [List.map_map] at hn
            exact perm_sub (f := entD) (k := fun x => x.w) (fun a b e => by injection e) hn hy HIG.out.sub hp
          have HF : Hid (RG w wr mp T ss es (fun z => left z && !z.sameKey (sk.kl (nameOf s.key))) cnt2 (qs ++ [s]) _ prc') := (by
            refine ⟨HIG.out.rng, HC2.out, fun q hq => ?_, HIG.out.rc, HIG.out.prm.trans ?_, HIG.out.bel⟩
            · rcases List.mem_append.1 hq with hq | hq
              · exact HBG.out.sub q hq
              · rw [List.mem_singleton.1 hq]; exact HSS.out
            · have e1 : ces (qs ++ [s]) = ces qs ++ s.ds.map (ceOf s.key) := by unfold ces; rw [List.flatMap_append]; simp [cesS]
              rw [e1, List.filter_append]
              exact ((hpy.map _).filter _).append_left _)
          clear hl0 hrgi hpy
          go_wp2_with fail
          go_roundw
          case rel => exact ⟨_, _, _, _, HF.out⟩
          case measure => rw [HF.out.rng.left_eq, ← HI2.out.1.left_eq]; exact HLT.out
        · intro x c kl yd yp w5 cnt5 hkey hlk hv hat hrg5 hlt5 hg5 hs5 hen5
          obtain ⟨ax, cx, hu5⟩ := row_form HIG.out.rc.own
          subst hu5
          obtain ⟨x', ex, hfx, rfl⟩ := keyV_inv hkey
          obtain rfl : x = x' := vv_inj ex
          simp only [heldE, id, Option.some.injEq, Prod.mk.injEq] at hv
          obtain ⟨rfl, rfl⟩ := hv
          have hxc := mem_atK (kd := wk) lawV HP1.out HOK1.out HN1.out hfx hat
          obtain ⟨y, hy, ent⟩ := List.mem_map.1 hxc
          obtain ⟨rfl, rfl⟩ : y.w = x ∧ y.v = c := by simpa [entD] using ent
          have hlr1 := hrgi.lt
          have hdat := ((HP.out.sho s HSS.out).dat y hy).1
          obtain ⟨ya, yc, hyv, hyb, -, -⟩ := hdat.conv
          obtain ⟨t1, t2, t3⟩ := HIG.out.two
          have g5 : Gs (fun i => i = w2.heap.size + 1) wr w5 := Gs.one hg5 (fun k e => (Option.some.inj e).symm)
          have hrc5 := HIG.out.rc.iter hrgi hg5
          have b5 : Below w.heap.size w w5 := HIG.out.bel.grown hg5 HIG.out.bel.size (fun j e => by cases e; omega)
          have hO5 : Own w5 w2.heap.size 87 2 [.slice ka s.key.length kc, .map (some s.mb)] := g5.own HIG.out.one (fun g hg e => by have e' : g = w2.heap.size + 1 := e; have e2 : w2.heap.size = g := Option.some.inj hg; omega)
          have hmpl := (HP.out.lt (.inl (.inr (.inl rfl)))).2
          have hmbl := (HP.out.lt (.inl (.inr (.inr ⟨s, HSS.out, rfl⟩)))).2
          have hstep := CollK.step (kd := wk) lawV HIG.out.coll HN1.out HOK1.out hxc hlk
          have r5 : w5.ranges Tryz.prog 9 heldE mp w.heap.size ss.length (DataW.map es) (fun z => left z && !z.sameKey (sk.kl (nameOf s.key))) cnt2 := ranges_gs HIG.out.rng g5 (fun e => by have e' : mp = w2.heap.size + 1 := e; omega) (fun e => by have e' : w.heap.size = w2.heap.size + 1 := e; omega)
          have HGEN : Hid (∀ W u' prc'', Gs (fun i => (Value.slice ax prc'.length cx).ownBlock = some i) w5 W → RC W w.heap.size u' prc'' → (prc''.map (·.c)).Perm ((ces qs).filter (ripe T) ++ ((ys ++ [y]).map (ceOf s.key)).filter (ripe T)) → IR w W mp (w2.heap.size + 1) w2.heap.size T ss es (fun z => left z && !z.sameKey (sk.kl (nameOf s.key))) cnt2 qs s ka kc es1 (fun z => left1 z && !z.sameKey (wk.kl y.w)) cnt5 (ys ++ [y]) u' prc'') := fun W u' prc'' gsW hrcW hpm => by
            have hge : ∀ i, (Value.slice ax prc'.length cx).ownBlock = some i → w.heap.size ≤ i := fun i hi => (World.ownsRow.lt hrc5.own i hi).1
            refine ⟨ranges_gs r5 gsW (fun e => by have := hge _ e; omega) (fun e => (row_not_iter r5 hrc5.own _ e).1 rfl), ranges_gs hrg5 gsW (fun e => by have := hge _ e; omega) (fun e => (row_not_iter hrg5 hrc5.own _ e).1 rfl), by rw [List.map_append]; exact hstep, fun q hq => ?_, hrcW, hpm, b5.trans (gsW.toBelow b5.size hge), gsW.own hO5 (fun g hg e => own_not_row hO5 hrc5.own (by decide) g e (Option.some.inj hg).symm), HIG.out.two⟩
            rcases List.mem_append.1 hq with hq | hq
            · exact HIG.out.sub q hq
            · rw [List.mem_singleton.1 hq]; exact hy
          have hb6 : Below w5.heap.size w5 (w5.alloc (.cells #[.int .i64 y.w.f, .int .i64 y.w.t] 38)) := bel1 _ _
          have HB6 := hidMk (b5.trans (hb6.mono b5.size))
          have HRC6 := hidMk (hrc5.later hb6)
          have HO6 := hidMk (hO5.later hb6)
          have HO5L := hidMk hO5.lt
          have HG6 : Hid (Gs (fun i => (Value.slice ax prc'.length cx).ownBlock = some i) w5 (w5.alloc (.cells #[.int .i64 y.w.f, .int .i64 y.w.t] 38))) := Gs.below hb6
          have HLT5 : Hid (cnt5 < cnt1) := hlt5
          have HYB := hidMk hyb
          have HPQ : Hid (wt (ces ss) ≤ 67108864) := HP.out.wl
          have hyl : y.d.length ≤ 67108864 := by
            have h1 : (⟨s.key, y.w, y.d⟩ : Ce) ∈ ces ss := mem_ces.2 ⟨s, HSS.out, y, hy, rfl⟩
            obtain ⟨p, q, e⟩ := List.append_of_mem h1
            have h2 := HPQ.out
            rw [e, wt_append, wt_cons] at h2
            unfold wg wgh at h2
            simp only at h2
            omega
          have hkl := vk_len (HP.out.sho s HSS.out).val
          have HC1 : Hid (∀ W, Below w.heap.size w W → Calls Tryz.prog 41 #[.slice ka s.key.length kc] W fun e w' => ∃ a' c', e = .returned (.slice a' s.key.length c') ∧ OV w' W.heap.size (.slice a' s.key.length c') s.key ∧ Below W.heap.size W w') := fun W hb => clone_any ka s.key kc W (HVL.out.later hb) (by omega)
          have HC2 : Hid (∀ W, Below w.heap.size w W → Calls Tryz.prog 37 #[.slice ya y.d.length yc] W fun e w' => ∃ v', e = .returned v' ∧ Wr.OL w' W.heap.size v' y.d ∧ Below W.heap.size W w') := fun W hb => bclone_any ya y.d yc W (HYB.out.later hb) (by omega)
          have hpl : prc'.length ≤ 4194304 := by
            have h2 := HIG.out.prm.length_eq
            rw [List.length_append, List.length_map] at h2
            have h21 : ((ces qs).filter (ripe T)).length ≤ (ces qs).length := List.length_filter_le _ _
            have h22 : ((ys.map (ceOf s.key)).filter (ripe T)).length ≤ (ys.map (ceOf s.key)).length := List.length_filter_le _ _
            rw [List.length_map] at h22
            rw [ces_len] at h21
            have h3 := sum_sub (fun s => s.ds.length) qs ss (nodup_of_map HBG.out.coll.1 |> fun h => nodup_of_map h) HBG.out.sub
            have h4 := sum_sub (fun _ => 1) ys s.ds (nodup_of_map HIG.out.coll.1 |> fun h => nodup_of_map h) HIG.out.sub
            simp only [List.map_const', List.sum_replicate_nat, Nat.mul_one] at h4
            have h5 := HP.out.cells_few
            rw [ces_len] at h5
            have h6 : s.ds.length ≤ (ss.map fun s => s.ds.length).sum := by
              obtain ⟨p, q, e⟩ := List.append_of_mem HSS.out
              rw [e]; simp; omega
            omega
          simp only [vv, id, hyv] at hen5 ⊢
          clear hlk hat hkey hxc ent hrg5 hfx ex hs5 hg5 g5 hrgi hrc5 hstep r5 b5 hb6 hyb hlt5 hdat
          by_cases hT : y.w.t ≤ T
          · have HPM2 : Hid (∀ q : Cx, q.c = ⟨s.key, y.w, y.d⟩ → ((prc' ++ [q]).map (·.c)).Perm ((ces qs).filter (ripe T) ++ ((ys ++ [y]).map (ceOf s.key)).filter (ripe T))) := fun q hq => by
              rw [List.map_append, List.map_append, List.filter_append, ← List.append_assoc]
              have e1 : (List.map (ceOf s.key) [y]).filter (ripe T) = [⟨s.key, y.w, y.d⟩] := by simp [ceOf, ripe, hT]
              rw [e1]
              have e2 : List.map (·.c) [q] = [(⟨s.key, y.w, y.d⟩ : Ce)] := by simp [hq]
              rw [e2]
              exact HIG.out.prm.append_right _
            have k6 : (w5.alloc (.cells #[.int .i64 y.w.f, .int .i64 y.w.t] 38)).drew.cell? ⟨w2.heap.size, 0, none⟩ = some (.slice ka s.key.length kc) ∧ (w5.alloc (.cells #[.int .i64 y.w.f, .int .i64 y.w.t] 38)).drew.cell? ⟨w5.heap.size, 0, none⟩ = some (.int .i64 y.w.f) ∧ (w5.alloc (.cells #[.int .i64 y.w.f, .int .i64 y.w.t] 38)).drew.cell? ⟨w5.heap.size, 1, none⟩ = some (.int .i64 y.w.t) := by
              have h1 := HO6.out.two.1
              refine ⟨h1, ?_, ?_⟩
              · go_simp
              · go_simp
            have HB6d := hidMk (below_drewN HB6.out 1)
            obtain ⟨i0, hi0, hz0, hz1, hz2⟩ := info_parts infoC
            have hw25 : w2.heap.size < w5.heap.size := HO5L.out
            have HKP : Hid (∀ W, Below (w5.alloc (.cells #[.int .i64 y.w.f, .int .i64 y.w.t] 38)).drew.heap.size (w5.alloc (.cells #[.int .i64 y.w.f, .int .i64 y.w.t] 38)).drew W → W.cell? ⟨w2.heap.size, 0, none⟩ = some (.slice ka s.key.length kc) ∧ W.cell? ⟨w5.heap.size, 0, none⟩ = some (.int .i64 y.w.f) ∧ W.cell? ⟨w5.heap.size, 1, none⟩ = some (.int .i64 y.w.t)) := fun W hb => ⟨cell_later hb k6.1, cell_later hb k6.2.1, cell_later hb k6.2.2⟩
            have HFIN : Hid (∀ w8 a7 c7 a8 c8 w9 gg cap, Below (w5.alloc (.cells #[.int .i64 y.w.f, .int .i64 y.w.t] 38)).drew.heap.size (w5.alloc (.cells #[.int .i64 y.w.f, .int .i64 y.w.t] 38)).drew w8 → OV w8 w.heap.size (.slice a7 s.key.length c7) s.key → Wr.OL w8 w.heap.size (.slice a8 y.d.length c8) y.d →
                w9.ownsRow w.heap.size 55 4 (.slice (some ⟨gg, 0, none⟩) (prc'.length + 1) cap) (prc'.length + 1) (prc'.flatMap cellsC ++ [.slice a7 s.key.length c7, .int .i64 y.w.f, .int .i64 y.w.t, .slice a8 y.d.length c8]) → World.grownBy (w8.alloc (.cells #[.slice a7 s.key.length c7, .int .i64 y.w.f, .int .i64 y.w.t, .slice a8 y.d.length c8] 55)) w9 (Value.slice ax prc'.length cx).ownBlock →
                ∃ left1 cnt1 ys prc'', IR w w9 mp (w2.heap.size + 1) w2.heap.size T ss es (fun z => left z && !z.sameKey (sk.kl (nameOf s.key))) cnt2 qs s ka kc es1 left1 cnt1 ys (.slice (some ⟨gg, 0, none⟩) (prc'.length + 1) cap) prc'' ∧ cnt1 = cnt5) := fun w8 a7 c7 a8 c8 w9 gg cap hb8 o7 o8 hown hgr => by
              have b9 := bel1 w8 (.cells #[.slice a7 s.key.length c7, .int .i64 y.w.f, .int .i64 y.w.t, .slice a8 y.d.length c8] 55)
              have hrc9 := ((HRC6.out.later (below_drewN (Below.refl _ _) 1)).later hb8).later b9
              have hm := hrc9.more (q := ⟨⟨s.key, y.w, y.d⟩, a7, c7, .slice a8 y.d.length c8⟩) (own_later o7 b9) (own_later o8 b9) hown hgr
              refine ⟨_, _, _, _, HGEN.out w9 _ _ ?_ hm (HPM2.out _ rfl), rfl⟩
              exact ((HG6.out.trans (Gs.below (below_drewN (Below.refl _ _) 1))).trans ((Gs.below hb8).trans (Gs.below b9))).trans (Gs.one hgr (fun k e => e))
            have HOU : Hid (∀ W, Below (w5.alloc (.cells #[.int .i64 y.w.f, .int .i64 y.w.t] 38)).drew.heap.size (w5.alloc (.cells #[.int .i64 y.w.f, .int .i64 y.w.t] 38)).drew W → W.ownsRow w.heap.size 55 4 (.slice ax prc'.length cx) prc'.length (prc'.flatMap cellsC) ∧ Below w.heap.size w W ∧ w.heap.size ≤ W.heap.size) := fun W hb => ⟨((HRC6.out.later (below_drewN (Below.refl _ _) 1)).later hb).own, HB6d.out.trans (hb.mono HB6d.out.size), (HB6d.out.trans (hb.mono HB6d.out.size)).size⟩
            have HGK : Hid (∀ W w9 cs, Below (w5.alloc (.cells #[.int .i64 y.w.f, .int .i64 y.w.t] 38)).drew.heap.size (w5.alloc (.cells #[.int .i64 y.w.f, .int .i64 y.w.t] 38)).drew W → World.grownBy (W.alloc (.cells cs 55)) w9 (Value.slice ax prc'.length cx).ownBlock → w9.cell? ⟨w2.heap.size, 0, none⟩ = some (.slice ka s.key.length kc) ∧ w9.cell? ⟨w5.heap.size, 0, none⟩ = some (.int .i64 y.w.f) ∧ w9.cell? ⟨w5.heap.size, 1, none⟩ = some (.int .i64 y.w.t)) := fun W w9 cs hb hgr => by
              have b9 := bel1 W (.cells cs 55)
              have hrow := (((HRC6.out.later (below_drewN (Below.refl _ _) 1)).later hb).later b9).own
              have hA := ((HO6.out.later (below_drewN (Below.refl _ _) 1)).later hb).later b9
              have hWn : Own (w5.alloc (.cells #[.int .i64 y.w.f, .int .i64 y.w.t] 38)) w5.heap.size 38 2 [.int .i64 y.w.f, .int .i64 y.w.t] := Own.new w5 38 2 #[.int .i64 y.w.f, .int .i64 y.w.t] rfl
              have hB := ((hWn.later (below_drewN (Below.refl _ _) 1)).later hb).later b9
              have hA9 := hA.grown hgr (fun e => own_not_row hA hrow (by decide) _ e.symm rfl)
              have hB9 := hB.grown hgr (fun e => own_not_row hB hrow (by decide) _ e.symm rfl)
              exact ⟨hA9.two.1, hB9.two.1, hB9.two.2.1⟩
            have hmx : prc'.length + 1 ≤ 4194305 := by omega
            clear HO6 HRC6 HG6 HPM2
            go_wp2_with fail
            go_region_held3 (fun W => W.cell? ⟨w2.heap.size, 0, none⟩ = some (.slice ka s.key.length kc) ∧ W.cell? ⟨w5.heap.size, 0, none⟩ = some (.int .i64 y.w.f) ∧ W.cell? ⟨w5.heap.size, 1, none⟩ = some (.int .i64 y.w.t))
              (first | exact k6 | exact k7 | exact k8 | exact k9 | go_keep)
              (first
                | (go_at_call 41; refine (HC1.out _ HB6d.out).mono ?_; rintro e w7 ⟨a7, c7, rfl, o7, b7⟩; have k7 := HKP.out _ b7; have B7 := hidMk b7; have O7 := hidMk o7; clear b7 o7)
                | (go_at_call 37; refine (HC2.out _ (HOU.out _ B7.out).2.1).mono ?_; rintro e w8 ⟨v8, rfl, o8, b8⟩; obtain ⟨a8, c8, hv8⟩ := row_form o8; subst hv8; have k8 := HKP.out _ (B7.out.trans (b8.mono B7.out.size)); have B8 := hidMk (B7.out.trans (b8.mono B7.out.size)); have P7 := hidMk (World.ownsRow.mono (own_later O7.out b8) (HOU.out _ (Below.refl _ _)).2.2); have P8 := hidMk (World.ownsRow.mono o8 (HOU.out _ B7.out).2.2); clear b8 o8)
                | (refine step_append_lies _ (by rfl) _ _ _ (by rfl) w.heap.size 55 i0 _ 4 64 Tryz.underlying51 hi0 hz0 hz1 hz2 rfl (by omega) (.slice ax prc'.length cx) prc'.length (prc'.flatMap cellsC) (by rfl) (own_later (HOU.out _ B8.out).1 (bel1 _ _))
                        ⟨w8.heap.size, 0, none⟩ 1 1 [.slice a7 s.key.length c7, .int .i64 y.w.f, .int .i64 y.w.t, .slice a8 y.d.length c8] (by rfl) (by rfl) (World.news_of_block (cs := #[.slice a7 s.key.length c7, .int .i64 y.w.f, .int .i64 y.w.t, .slice a8 y.d.length c8]) (t := 55) (fr := (0, 0)) (heap_alloc_new w8 _)) (by intro u hu; simp at hu; rcases hu with rfl | rfl | rfl | rfl <;> rfl)
                        (by omega) (by unfold maxLen; omega) (by omega) (by have := (HOU.out _ B8.out).2.2; simp; omega) (w8.heap.size + 1) (by simp) ?_; intro gg cap w9 hown9 hgrow9 hat9 hlt9; have k9 := HGK.out _ _ _ B8.out hgrow9))
            all_goals
              have HF := hidMk (HFIN.out w8 a7 c7 a8 c8 w9 gg cap B8.out P7.out P8.out hown9 hgrow9)
              clear hown9 hgrow9 hat9 hlt9 k9
              go_wp2_with fail
              go_roundw
              case rel => obtain ⟨l1, n1, z1, p1, h1, -⟩ := HF.out; exact ⟨l1, n1, z1, p1, h1⟩
              case measure => obtain ⟨l1, n1, z1, p1, h1, e1⟩ := HF.out; rw [h1.rng1.left_eq, HIG.out.rng1.left_eq, e1]; exact HLT5.out
          · have HF := hidMk (HGEN.out _ _ _ HG6.out HRC6.out (by
              rw [List.map_append, List.filter_append]
              have e1 : (List.map (ceOf s.key) [y]).filter (ripe T) = [] := by simp [ceOf, ripe]; omega
              rw [e1, List.append_nil]
              exact HIG.out.prm))
            go_wp2_with fail
            go_roundw
            case rel => exact ⟨_, _, _, _, HF.out⟩
            case measure => rw [HF.out.rng1.left_eq, HIG.out.rng1.left_eq]; exact HLT5.out
end Go.Proofs.YtobhccmnlmlapaaGreatDoor
