import Derived.Test.YtodkekmfadfjkaaGreatDoorSrE
import Derived.Deep.LoopGhost
namespace Go.Proofs.YtodkekmfadfjkaaGreatDoor
open Go.RowKit
set_option linter.unusedVariables false
set_option linter.unusedSimpArgs false
set_option maxRecDepth 100000

theorem Is.head {l a b : List UInt8} {t : Int} {vs : List V} (h : Is l t vs) (h1 : 58 ∉ a) (h2 : (l = a ++ 58 :: b) ∨ (l = a ∧ b = [])) : a = Lib.itoa t ∧ b = tl vs := by
  have e := h.2.2
  unfold showR at e
  rcases h2 with e2 | ⟨e2, -⟩
  · rw [e2] at e
    obtain ⟨q1, q2⟩ := cut_uniq e (colon_itoa t) h1
    exact ⟨q1.symm, q2.symm⟩
  · rw [e2] at e
    exact absurd (by rw [← e]; simp) h1
/-- What loose answers. -/
def LPost (w : World) (l : List UInt8) (e : Ending) (w' : World) : Prop := Below w.heap.size w w' ∧
  ((∃ (t : Int) (vs : List V) (a : Option Addr) (c : Nat), e = .returned (.tuple #[.agg #[.int .i64 t, .slice a vs.length c], .nilIface]) ∧ VLies w' a vs ∧ (∀ y, a = some y → w.heap.size ≤ y.block) ∧ (∀ v ∈ vs, FitV v) ∧ vs.length ≤ l.length ∧ (-9223372036854775808 ≤ t ∧ t ≤ 9223372036854775807) ∧ ∀ t' vs', Is l t' vs' → t' = t ∧ vs' = vs) ∨
   ((∀ t' vs', ¬ Is l t' vs') ∧ e = .returned (.tuple #[.agg #[.int .i64 0, .slice none 0 0], .iface 31 (.int .i64 1)])))
theorem cutV_len (l : List UInt8) : (cutV l).1.length ≤ l.length ∧ (cutV l).2.length ≤ l.length := by
  unfold cutV
  split
  · simp
  · simp; omega
theorem OV.set {w : World} {B g j : Nat} {x u : Value} {vs : List V} (h : OV w B x vs) (hg : g < B) : OV (w.setCell ⟨g, j, none⟩ u) B x vs :=
  h.grown (grown_set w ⟨g, j, none⟩ u) (fun k hk => by cases hk; exact hg)
theorem Own.set {w : World} {g g' j t n : Nat} {xs : List Value} {u : Value} (h : Own w g t n xs) (hg : g ≠ g') : Own (w.setCell ⟨g', j, none⟩ u) g t n xs :=
  h.grown (grown_set w ⟨g', j, none⟩ u) (fun e => hg (Option.some.inj e))
set_option maxHeartbeats 4000000 in
theorem loose_any (l : List UInt8) (w : World) (hl : l.length ≤ 268435456) (hS : ∀ W, Below w.heap.size w W → Vl.Sen W ∧ Vl.Sen3 W ∧ Vl.Tab W) :
    Calls Tryz.prog 11 #[.string ⟨l.toArray⟩] w (LPost w l) := by
  obtain ⟨i0, hi0, hz0, hz1, hz2⟩ := info_parts infoV
  have HS := hidMk hS
  have HG0 := hidMk (Own.new w 24 2 #[.int .i64 0, .slice none 0 0] rfl)
  have HB0 := hidMk (bel1 w (.cells #[.int .i64 0, .slice none 0 0] 24))
  have FERR : Hid ((∀ t' vs', ¬ Is l t' vs') → ∀ w6, Below w.heap.size w w6 → LPost w l (.returned (.tuple #[.agg #[.int .i64 0, .slice none 0 0], .iface 31 (.int .i64 1)])) w6) := fun hno w6 h6 => ⟨h6, .inr ⟨hno, rfl⟩⟩
  clear hS
  go_enter Tryz.func11, Tryz.ntmps11
  go_wp2_with fail
  generalize w.alloc (.cells #[.int .i64 0, .slice none 0 0] 24) = W0 at *
  refine (cut_any l W0 (by omega)).mono ?_
  rintro e w1 ⟨⟨n, hw1⟩, a, b, f, rfl, h1, h2⟩
  have HD := hidMk (And.intro h1 h2)
  have hal : a.length ≤ l.length ∧ b.length ≤ l.length := by
    rcases h2 with e | ⟨e, e2⟩
    · rw [e]; simp; omega
    · rw [e, e2]; simp
  have HB1 : Hid (Below W0.heap.size W0 w1) := by rw [Hid, hw1]; exact below_drewN (Below.refl _ _) n
  have HW1 := hidMk (HB0.out.trans (HB1.out.mono HB0.out.size))
  have HRD := hidMk (read_V a w1 (by omega) (HS.out _ HW1.out).1 (HS.out _ HW1.out).2.1 (HS.out _ HW1.out).2.2)
  have HG1 := hidMk (HG0.out.later HB1.out)
  clear h1 h2 hw1 HB1 HB0 HG0
  go_wp2_with fail
  refine HRD.out.mono ?_
  rintro e w2 ⟨b2, hr⟩
  have HW2 := hidMk (HW1.out.trans (b2.mono HW1.out.size))
  have HG2 := hidMk (HG1.out.later b2)
  have hz := HW2.out.size
  clear b2 HRD HG1 HW1
  rcases hr with ⟨v0, hv, hf, hsh, rfl⟩ | ⟨hno, rfl⟩
  · have HL0 : Hid (Left l v0.n [] b) := fun t' vs' h => by
      obtain ⟨q1, q2⟩ := h.head HD.out.1 HD.out.2
      obtain ⟨t0, t1, -⟩ := h.time
      obtain ⟨-, q4⟩ := int_show v0.k v0.n v0.s t' hv hf.2.1 hf.2.2 (by omega) (by omega) ((shB_eq v0).trans (by rw [hsh, q1]))
      exact ⟨q4.symm, vs', rfl, q2⟩
    have HTR := hidMk (And.intro hf.2.1 hf.2.2)
    clear hv hf hsh HD
    have hlt := HG2.out.lt
    have lS : (w2.alloc (.cells #[.int .i64 v0.k, .int .i64 v0.n, .string v0.s] 39)).heap.size = w2.heap.size + 1 := by simp
    have HGR := hidMk (Own.new (w2.alloc (.cells #[.int .i64 v0.k, .int .i64 v0.n, .string v0.s] 39)) 24 2 #[.int .i64 v0.n, .slice none 0 0] rfl)
    rw [lS] at HGR
    have HB3 := hidMk ((bel1 w2 (.cells #[.int .i64 v0.k, .int .i64 v0.n, .string v0.s] 39)).alloc (by simp) (.cells #[.int .i64 v0.n, .slice none 0 0] 24))
    have HG3 := hidMk (HG2.out.later HB3.out)
    have HW3 := hidMk (HW2.out.trans (HB3.out.mono HW2.out.size))
    go_wp2_with fail
    generalize (w2.alloc (.cells #[.int .i64 v0.k, .int .i64 v0.n, .string v0.s] 39)).alloc (.cells #[.int .i64 v0.n, .slice none 0 0] 24) = W3 at *
    obtain ⟨gr, hgr⟩ : ∃ gr, w2.heap.size + 1 = gr := ⟨_, rfl⟩
    have hgl : w.heap.size < gr := by omega
    rw [hgr] at HGR
    rw [hgr]
    clear HG2 HW2 HB3 lS hlt hgr hz
    go_loopg [5] b.length (fun gk s wr => ∃ (rest : List UInt8) (acc : List V) (x : Value), rest.length = gk ∧ s = .string ⟨rest.toArray⟩ ∧ Left l v0.n acc rest ∧ (∀ v ∈ acc, FitV v) ∧ acc.length + rest.length ≤ l.length ∧ Own wr gr 24 2 [.int .i64 v0.n, x] ∧ OV wr (gr + 1) x acc ∧ Own wr w.heap.size 24 2 [.int .i64 0, .slice none 0 0] ∧ Below w.heap.size w wr)
    case atStart => exact ⟨b, [], _, rfl, rfl, HL0.out, (fun v hv => by cases hv), by simp; omega, HGR.out, World.ownsRow_nil _ _ _ _, HG3.out, HW3.out⟩
    case round =>
      obtain ⟨rest, acc, x, hgk, rfl, hleft, hfit, hlen, hgr, hov, hg0, hw⟩ := hrel
      have HLF := hidMk hleft
      have HFT := hidMk hfit
      have HGr := hidMk hgr
      have HOV := hidMk hov
      have HG0 := hidMk hg0
      have HW := hidMk hw
      obtain ⟨ax, cx, hx, hvl, hab⟩ := hov.form
      subst hx
      have c0 := hg0.cell 0 (by decide)
      have c1 := hg0.cell 1 (by decide)
      have f0 := hg0.soft 0
      have f1 := hg0.soft 1
      have r0 := hgr.cell 0 (by decide)
      have r1 := hgr.cell 1 (by decide)
      have rs := hgr.soft 1
      have hgl2 := hgr.lt
      have HAB : Hid (∀ y, ax = some y → w.heap.size ≤ y.block) := fun y hy => by have := (hab y hy).1; omega
      clear hleft hfit hgr hov hg0 hw HGR HG3 HW3 HL0 hab
      cases rest with
      | nil =>
        have FIN : Hid (∀ w6, Below w.heap.size w w6 → VLies w6 ax acc → LPost w l (.returned (.tuple #[.agg #[.int .i64 v0.n, .slice ax acc.length cx], .nilIface])) w6) := fun w6 h6 hv6 => ⟨h6, .inl ⟨v0.n, acc, ax, cx, rfl, hv6, HAB.out, HFT.out, by simp at hlen; omega, HTR.out, fun t' vs' h => by
          obtain ⟨e, ws, e2, e3⟩ := HLF.out t' vs' h
          refine ⟨e, ?_⟩
          cases ws with
          | nil => rw [e2, List.append_nil]
          | cons y ws => unfold tl at e3; cases e3⟩⟩
        clear HLF hvl
        go_wp2_with fail
        refine bodyPost_ret (v := .tuple #[.agg #[.int .i64 v0.n, .slice ax acc.length cx], .nilIface]) (by simp [results, Tryz.results11, go_sem, c0, c1]) rfl (FIN.out _ ((HW.out.setCell (Nat.le_refl _) _).setCell (Nat.le_refl _) _) ?_)
        obtain ⟨a', c', e', hv', -⟩ := OV.form ((HOV.out.set (j := 0) (u := .int .i64 v0.n) (show w.heap.size < gr + 1 by omega)).set (j := 1) (u := .slice ax acc.length cx) (show w.heap.size < gr + 1 by omega))
        injection e' with e1 e2 e3
        rw [← e1] at hv'
        exact hv'
      | cons y m =>
        have s0 : ∀ W, (Instr.slice 9 (.string ⟨(y :: m).toArray⟩) (some (.int .i64 1)) none none).run Tryz.prog W = .ok (.string ⟨m.toArray⟩) W := fun W => slF (y :: m) 1 (by simp) W
        obtain ⟨cw, cr, hcv⟩ : ∃ cw cr, cutV m = (cw, cr) := ⟨_, _, rfl⟩
        have hcl := cutV_len m
        have HCV := hidMk (cutV_any m)
        rw [hcv] at HCV hcl
        simp only [List.length_cons] at hlen hgk hcl
        have HCE := hidMk hcv
        have HNX : Hid (∀ t' vs', Is l t' vs' → t' = v0.n ∧ ∃ v ws, vs' = acc ++ v :: ws ∧ validV v = true ∧ FitV v ∧ sh v = cw ∧ cr = tl ws) := fun t' vs' h => by
          obtain ⟨e, ws, e2, e3⟩ := HLF.out t' vs' h
          cases ws with
          | nil => unfold tl at e3; cases e3
          | cons v ws =>
            unfold tl at e3
            have hm : m = sh v ++ (if ws.isEmpty then [] else 44 :: tl ws) := (List.cons.inj e3).2
            have hin : v ∈ vs' := by rw [e2]; simp
            have q := cutV_ok v (h.val v hin) ws
            rw [← hm, HCE.out] at q
            exact ⟨e, v, ws, e2, h.val v hin, h.2.1 v hin, (congrArg Prod.fst q).symm, congrArg Prod.snd q⟩
        clear hcv HCE HLF hvl
        go_wp2_with fail
        refine (HCV.out wr (by omega)).mono ?_
        rintro e w3 ⟨⟨n3, hw3⟩, rfl⟩
        have hb3 : Below wr.heap.size wr w3 := by rw [hw3]; exact below_drewN (Below.refl _ _) n3
        have HW3 := hidMk (HW.out.trans (hb3.mono HW.out.size))
        have HRD := hidMk (read_V cw w3 (by omega) (HS.out _ HW3.out).1 (HS.out _ HW3.out).2.1 (HS.out _ HW3.out).2.2)
        have HGr3 := hidMk (HGr.out.later hb3)
        have HOV3 := hidMk (HOV.out.later hb3)
        have HG3 := hidMk (HG0.out.later hb3)
        clear hw3 hb3 HW HGr HOV HG0 HCV c0 c1 f0 f1 r0 r1 rs s0
        go_wp2_with fail
        refine HRD.out.mono ?_
        rintro e w4 ⟨b4, hr⟩
        have HW4 := hidMk (HW3.out.trans (b4.mono HW3.out.size))
        have HGr4 := hidMk (HGr3.out.later b4)
        have HOV4 := hidMk (HOV3.out.later b4)
        have HG4 := hidMk (HG3.out.later b4)
        have hl4 := HGr4.out.lt
        have hz4 := HW4.out.size
        have hlt4 : w.heap.size < w4.heap.size := by omega
        clear b4 HRD HW3 HGr3 HOV3 HG3
        rcases hr with ⟨v, hv, hf, hsh, rfl⟩ | ⟨hno, rfl⟩
        · have HLF4 : Hid (Left l v0.n (acc ++ [v]) cr) := fun t' vs' h => by
            obtain ⟨e, v', ws, e2, q1, q2, q3, q4⟩ := HNX.out t' vs' h
            have e5 : v' = v := sh_inj q1 hv q2 hf (q3.trans hsh.symm)
            refine ⟨e, ws, ?_, q4⟩
            rw [e2, e5]; simp
          have HFT4 : Hid (∀ u ∈ acc ++ [v], FitV u) := fun u hu => by
            rcases List.mem_append.1 hu with h | h
            · exact HFT.out u h
            · rw [List.mem_singleton.1 h]; exact hf
          have r1 := HGr4.out.cell 1 (by decide)
          have hne4 : ¬ gr = w4.heap.size := by omega
          clear hv hf hsh HNX HFT
          go_wp2_with (first
            | (at_builtin; refine wpList_append_own_at _ rfl _ _ 22 rfl (gr + 1) 39 i0 (.agg #[.int .i64 0, .int .i64 0, .string ⟨#[]⟩]) 3 32 Tryz.underlying22 hi0 hz0 hz1 hz2 rfl (by decide) _ acc.length (acc.flatMap cellsV) rfl ((World.ownsRow.alloc HOV4.out _).alloc _) ⟨w4.heap.size + 1, 0, none⟩ 1 1 (cellsV v) rfl rfl ?c1 ?c2 ?c3 ?c4 ?c5 ?_))
          case c1 =>
            intro j u hj
            match j, hj with
            | 0, hj => simp [cellsV] at hj; subst hj; simp [Addr.add]
            | 1, hj => simp [cellsV] at hj; subst hj; simp [Addr.add]
            | 2, hj => simp [cellsV] at hj; subst hj; simp [Addr.add]
          case c2 => intro u hu; simp [cellsV] at hu; rcases hu with rfl | rfl | rfl <;> rfl
          case c3 => unfold maxLen; omega
          case c4 => omega
          case c5 => simp; omega
          intro v' w5 hown' hgrow _ hat
          have hne : ∀ k, (Value.slice ax acc.length cx).ownBlock = some k → gr + 1 ≤ k := fun k hk => (World.ownsRow.lt HOV4.out k hk).1
          have hb2 : Below w4.heap.size w4 ((w4.alloc (.cells #[.int .i64 v.k, .int .i64 v.n, .string v.s] 39)).alloc (.cells #[.int .i64 v.k, .int .i64 v.n, .string v.s] 39)) := (bel1 _ _).alloc (by simp) _
          have HGr5 := hidMk ((HGr4.out.later hb2).grown hgrow (fun e => by have := hne gr e.symm; omega))
          have HG5 := hidMk ((HG4.out.later hb2).grown hgrow (fun e => by have := hne _ e.symm; omega))
          have HW5 : Hid (Below w.heap.size w w5) := (HW4.out.trans (hb2.mono HW4.out.size)).grown hgrow (by have := hb2.size; omega) (fun k hk => by have := hne k hk; omega)
          have HOV5 : Hid (OV w5 (gr + 1) v' (acc ++ [v])) := by
            unfold Hid OV
            rw [List.length_append, List.flatMap_append]
            simpa using hown'
          obtain ⟨a5, c5, hv5, -⟩ := HOV5.out.form
          subst hv5
          clear hown' hgrow hat hne hb2 HGr4 HOV4 HG4 HW4
          have d1 := HGr5.out.cell 1 (by decide)
          have ds := HGr5.out.soft 1
          have HF6 : Hid (Own (w5.setCell ⟨gr, 1, none⟩ (.slice a5 (acc ++ [v]).length c5)) gr 24 2 [.int .i64 v0.n, .slice a5 (acc ++ [v]).length c5] ∧ OV (w5.setCell ⟨gr, 1, none⟩ (.slice a5 (acc ++ [v]).length c5)) (gr + 1) (.slice a5 (acc ++ [v]).length c5) (acc ++ [v]) ∧ Own (w5.setCell ⟨gr, 1, none⟩ (.slice a5 (acc ++ [v]).length c5)) w.heap.size 24 2 [.int .i64 0, .slice none 0 0] ∧ Below w.heap.size w (w5.setCell ⟨gr, 1, none⟩ (.slice a5 (acc ++ [v]).length c5))) :=
            ⟨(HGr5.out.put 1 _).1, HOV5.out.set (by omega), HG5.out.set (by omega), HW5.out.setCell (p := ⟨gr, 1, none⟩) (show w.heap.size ≤ gr by omega) _⟩
          have hl5 : (acc ++ [v]).length = acc.length + 1 := by simp
          rw [hl5] at HF6
          rw [hl5]
          go_wp2_with fail
          go_roundg cr.length
          case measure => omega
          case rel => exact ⟨cr, acc ++ [v], _, rfl, rfl, HLF4.out, HFT4.out, by rw [hl5]; omega, HF6.out.1, HF6.out.2.1, HF6.out.2.2.1, HF6.out.2.2.2⟩
        · have HNO : Hid (∀ t' vs', ¬ Is l t' vs') := fun t' vs' h => by
            obtain ⟨-, v', ws, -, q1, q2, q3, -⟩ := HNX.out t' vs' h
            exact hno v' q2 q1 q3
          clear hno HNX
          have c0 := HG4.out.cell 0 (by decide)
          have c1 := HG4.out.cell 1 (by decide)
          have f0 := HG4.out.soft 0
          have f1 := HG4.out.soft 1
          have hlt := HG4.out.lt
          go_wp2_with fail
          exact bodyPost_ret (v := .tuple #[.agg #[.int .i64 0, .slice none 0 0], .iface 31 (.int .i64 1)]) (by simp [results, Tryz.results11, go_sem, c0, c1, hlt, Nat.ne_of_lt hlt]) rfl (FERR.out HNO.out _ (((HW4.out.setCell (p := ⟨w.heap.size, 0, none⟩) (Nat.le_refl _) _).setCell (p := ⟨w.heap.size, 1, none⟩) (Nat.le_refl _) _).alloc (by simp; omega) _))
  · have HNO : Hid (∀ t' vs', ¬ Is l t' vs') := fun t' vs' h => by
      obtain ⟨q1, -⟩ := h.head HD.out.1 HD.out.2
      obtain ⟨t0, t1, -⟩ := h.time
      have v : Vl.validB 1 t' ⟨#[]⟩ = true := by unfold Vl.validB; simp
      refine hno ⟨1, t', ⟨#[]⟩⟩ ⟨Nat.zero_le _, by show _ ≤ t'; omega, by show t' ≤ _; omega⟩ v ?_
      rw [q1]
      show (Vl.showB 1 t' ⟨#[]⟩).data.toList = _
      unfold Vl.showB
      rw [if_pos v]
      simp
    clear hno HD
    have c0 := HG2.out.cell 0 (by decide)
    have c1 := HG2.out.cell 1 (by decide)
    have f0 := HG2.out.soft 0
    have f1 := HG2.out.soft 1
    have hlt := HG2.out.lt
    go_wp2_with fail
    exact bodyPost_ret (v := .tuple #[.agg #[.int .i64 0, .slice none 0 0], .iface 31 (.int .i64 1)]) (by simp [results, Tryz.results11, go_sem, c0, c1, hlt, Nat.ne_of_lt hlt]) rfl (FERR.out HNO.out _ (((HW2.out.setCell (p := ⟨w.heap.size, 0, none⟩) (Nat.le_refl _) _).setCell (p := ⟨w.heap.size, 1, none⟩) (Nat.le_refl _) _).alloc (by simp; omega) _))
end Go.Proofs.YtodkekmfadfjkaaGreatDoor
