import Derived.Test.YtodkekmfadfjkaaGreatDoorSrR
import Derived.Test.YtodkekmfadfjkaaGreatDoorSrG
import Derived.Deep.CutBlock
import Derived.Deep.Cut
import Derived.Deep.LoopGhost
namespace Go.Proofs.YtodkekmfadfjkaaGreatDoor
open Go.RowKit
set_option linter.unusedVariables false
set_option linter.unusedSimpArgs false
set_option maxRecDepth 100000

theorem ixS (l : List UInt8) (k : Nat) (hk : k < l.length) (w : World) : (Instr.index 9 (.string ⟨l.toArray⟩) (.int .i64 (k : Int))).run Tryz.prog w = .ok (.int .u8 (l[k].toNat : Int)) w := by
  rw [run_index_string w 9 ⟨l.toArray⟩ .i64 (k : Int) Tryz.underlying9]
  have hz : (⟨l.toArray⟩ : ByteArray).size = l.length := rfl
  rw [dif_pos ⟨by omega, by rw [hz]; omega⟩]
  rfl
def ReadD (w : World) (l : List UInt8) (e : Ending) (w' : World) : Prop := Below w.heap.size w w' ∧ ∃ (v : V) (ok : Bool), e = .returned (.tuple #[.agg #[.int .i64 v.k, .int .i64 v.n, .string v.s], .bool ok]) ∧ (ok = true → validV v = true ∧ FitV v ∧ sh v = l) ∧ (ok = false → ∀ u : V, FitV u → validV u = true → sh u ≠ l)
theorem read_D (l : List UInt8) (w : World) (hs : l.length ≤ 140737488355327) : Calls Tryz.prog 13 #[.string ⟨l.toArray⟩] w (ReadD w l) := by
  refine (Vl.refRead_any ⟨l.toArray⟩ w hs).mono ?_
  rintro e w' ⟨k, n, t, ok, rfl, hb, h1, h2⟩
  refine ⟨hb, ⟨k, n, t⟩, ok, rfl, fun h => ?_, fun h u hf hv e => ?_⟩
  · obtain ⟨q1, q2, q3, q4⟩ := h1 h
    exact ⟨q1, valid_fit q1 q3 q4, by unfold sh shB; rw [q2]⟩
  · exact h2 h u.k u.n u.s hf.2.1 hf.2.2 hv (by rw [← e]; exact shB_eq u)
/-- What the document's Row answers. -/
def RowD (w : World) (l : List UInt8) (e : Ending) (w' : World) : Prop := Below w.heap.size w w' ∧ ∃ (t : Int) (vs : List V) (a : Option Addr) (c : Nat) (ok : Bool), e = .returned (.tuple #[.agg #[.int .i64 t, .slice a vs.length c], .bool ok]) ∧ VLies w' a vs ∧ vs.length ≤ 4194304 ∧ (∀ v ∈ vs, FitV v) ∧ (ok = true → Is l t vs) ∧ (ok = false → ∀ t' vs', ¬ Is l t' vs')
set_option maxHeartbeats 8000000 in
theorem rowD_any (l : List UInt8) (w : World) (hl : l.length ≤ 1048576) :
    Calls Tryz.prog 5 #[.string ⟨l.toArray⟩] w (RowD w l) := by
  obtain ⟨i0, hi0, hz0, hz1, hz2⟩ := info_parts infoV
  have HG0 := hidMk (Own.new w 24 2 #[.int .i64 0, .slice none 0 0] rfl)
  have HB0 := hidMk (bel1 w (.cells #[.int .i64 0, .slice none 0 0] 24))
  have FERR : Hid ((∀ t' vs', ¬ Is l t' vs') → ∀ w6, Below w.heap.size w w6 → RowD w l (.returned (.tuple #[.agg #[.int .i64 0, .slice none 0 0], .bool false])) w6) := fun hno w6 h6 => ⟨h6, 0, [], none, 0, false, rfl, (fun i hi => by simp at hi), by simp, (fun v hv => by cases hv), (fun h => by cases h), fun _ => hno⟩
  have hsz : (⟨l.toArray⟩ : ByteArray).size = l.length := rfl
  go_enter Tryz.func5, Tryz.ntmps5
  go_upto_block 0 with fail
  generalize w.alloc (.cells #[.int .i64 0, .slice none 0 0] 24) = W0 at *
  go_cut [4] from 5 (fun i wr => ∃ k : Nat, i = .int .i64 (k : Int) ∧ k ≤ l.length ∧ 58 ∉ l.take k ∧ (∀ h : k < l.length, l[k] = 58) ∧ Below W0.heap.size W0 wr)
  case first =>
    go_wp2_with fail
    go_loopw [4] (fun i wr => ∃ k : Nat, i = .int .i64 (k : Int) ∧ k ≤ l.length ∧ 58 ∉ l.take k ∧ Below W0.heap.size W0 wr) (fun i _ => l.length - (intOf i).toNat)
    case atStart => exact ⟨0, rfl, Nat.zero_le _, by simp, Below.refl _ _⟩
    case round =>
      obtain ⟨k, rfl, hk, hno, hb⟩ := hrel
      have HNO := hidMk hno
      have HB := hidMk hb
      clear hno hb
      by_cases hlt : k < l.length
      · have hki : (k : Int) < (l.length : Int) := by omega
        have ix := ixS l k hlt
        by_cases hy : l[k] = 58
        · have HY := hidMk hy
          rw [hy] at ix
          have HZ : Hid (∃ k' : Nat, Value.int .i64 (k : Int) = .int .i64 (k' : Int) ∧ k' ≤ l.length ∧ 58 ∉ l.take k' ∧ (∀ h : k' < l.length, l[k'] = 58) ∧ Below W0.heap.size W0 wr) := ⟨k, rfl, hk, HNO.out, fun _ => HY.out, HB.out⟩
          clear hy
          go_wp2_with fail
          go_meet
          case rel => exact HZ.out
        · have hy' : ¬ (l[k].toNat : Int) = 58 := fun e => hy (UInt8.toNat_inj.1 (by rw [show (58 : UInt8).toNat = 58 from rfl]; omega))
          have HNO2 : Hid (58 ∉ l.take (k + 1)) := by
            rw [Hid, List.take_succ_eq_append_getElem hlt, List.mem_append, List.mem_singleton]
            rintro (h | h)
            · exact HNO.out h
            · exact hy h.symm
          clear hy
          go_wp2_with fail
          exact ⟨⟨k + 1, by go_num, by omega, HNO2.out, HB.out⟩, by simp [intOf]; omega⟩
      · obtain rfl : k = l.length := by omega
        have HZ : Hid (∃ k' : Nat, Value.int .i64 (l.length : Int) = .int .i64 (k' : Int) ∧ k' ≤ l.length ∧ 58 ∉ l.take k' ∧ (∀ h : k' < l.length, l[k'] = 58) ∧ Below W0.heap.size W0 wr) := ⟨l.length, rfl, hk, HNO.out, fun h => absurd h (by omega), HB.out⟩
        go_wp2_with fail
        go_meet
        case rel => exact HZ.out
  case rest =>
    apply_assumption
    obtain ⟨k, rfl, hk, hno, h58, hb⟩ := hcut
    have HD : Hid (58 ∉ l.take k ∧ ((l = l.take k ++ 58 :: l.drop (k + 1)) ∨ (l = l.take k ∧ l.drop (k + 1) = []))) := by
      refine ⟨hno, ?_⟩
      by_cases h : k < l.length
      · exact .inl (by rw [← h58 h, ← List.drop_eq_getElem_cons h, List.take_append_drop])
      · exact .inr ⟨(List.take_of_length_le (by omega)).symm, List.drop_eq_nil_of_le (by omega)⟩
    have s1 := slT l k hk
    have HW1 := hidMk (HB0.out.trans (hb.mono HB0.out.size))
    have HG1 := hidMk (HG0.out.later hb)
    have htl : (l.take k).length = k := by rw [List.length_take]; omega
    have HRD := hidMk (read_D (l.take k) wc (by omega))
    clear hno h58 hb HG0 HB0
    go_wp2_with fail
    refine HRD.out.mono ?_
    rintro e w2 ⟨b2, v0, ok, rfl, h1, h2⟩
    have HW2 := hidMk (HW1.out.trans (b2.mono HW1.out.size))
    have HG2 := hidMk (HG1.out.later b2)
    have hlt := HG2.out.lt
    have c0 := HG2.out.cell 0 (by decide)
    have c1 := HG2.out.cell 1 (by decide)
    have f0 := HG2.out.soft 0
    have f1 := HG2.out.soft 1
    clear b2 HRD HG1 HW1 s1
    cases ok with
    | false =>
      have HNO : Hid (∀ t' vs', ¬ Is l t' vs') := fun t' vs' h => by
        obtain ⟨q1, -⟩ := h.head HD.out.1 HD.out.2
        obtain ⟨t0, t1, -⟩ := h.time
        have v : Vl.validB 1 t' ⟨#[]⟩ = true := by unfold Vl.validB; simp
        refine h2 rfl ⟨1, t', ⟨#[]⟩⟩ ⟨Nat.zero_le _, by show _ ≤ t'; omega, by show t' ≤ _; omega⟩ v ?_
        rw [q1]
        show (Vl.showB 1 t' ⟨#[]⟩).data.toList = _
        unfold Vl.showB
        rw [if_pos v]
        simp
      clear h1 h2 HD
      go_wp2_with fail
      exact bodyPost_ret (v := .tuple #[.agg #[.int .i64 0, .slice none 0 0], .bool false]) (by simp [results, Tryz.results5, go_sem, c0, c1, hlt, Nat.ne_of_lt hlt]) rfl (FERR.out HNO.out _ (((HW2.out.setCell (p := ⟨w.heap.size, 0, none⟩) (Nat.le_refl _) _).setCell (p := ⟨w.heap.size, 1, none⟩) (Nat.le_refl _) _).alloc (by simp <;> omega) _))
    | true =>
      obtain ⟨hv0, hf0, hs0⟩ := h1 rfl
      clear h1 h2
      have HIS : Hid (∀ t' vs', Is l t' vs' → v0.k = 1 ∧ t' = v0.n ∧ l = l.take k ++ 58 :: l.drop (k + 1) ∧ l.drop (k + 1) = tl vs') := fun t' vs' h => by
        obtain ⟨q1, q2⟩ := h.head HD.out.1 HD.out.2
        obtain ⟨t0, t1, -⟩ := h.time
        obtain ⟨q3, q4⟩ := int_show v0.k v0.n v0.s t' hv0 hf0.2.1 hf0.2.2 (by omega) (by omega) ((shB_eq v0).trans (by rw [hs0, q1]))
        refine ⟨q3, q4.symm, ?_, q2⟩
        rcases HD.out.2 with e | ⟨e, -⟩
        · exact e
        · exfalso
          have q5 := h.2.2
          unfold showR at q5
          exact HD.out.1 (by rw [← e, ← q5]; simp)
      have HTR := hidMk (And.intro hf0.2.1 hf0.2.2)
      clear hv0 hf0 hs0 HD
      by_cases hk1 : v0.k = 1
      · have HK1 := hidMk hk1
        have lS : (w2.alloc (.cells #[.int .i64 1, .int .i64 v0.n, .string v0.s] 39)).heap.size = w2.heap.size + 1 := by simp
        have HGR := hidMk (Own.new (w2.alloc (.cells #[.int .i64 1, .int .i64 v0.n, .string v0.s] 39)) 24 2 #[.int .i64 v0.n, .slice none 0 0] rfl)
        rw [lS] at HGR
        have HB3 := hidMk ((bel1 w2 (.cells #[.int .i64 1, .int .i64 v0.n, .string v0.s] 39)).alloc (by simp) (.cells #[.int .i64 v0.n, .slice none 0 0] 24))
        have HG3 := hidMk (HG2.out.later HB3.out)
        have HW3 := hidMk (HW2.out.trans (HB3.out.mono HW2.out.size))
        have hwk : IntKind.i64.wrap ((k : Int) + 2) = ((k + 2 : Nat) : Int) := (wi64 (by omega) (by omega)).trans (by omega)
        have hwk' : IntKind.i64.wrap ((k : Int) + 2) = (k : Int) + 2 := wi64 (by omega) (by omega)
        rw [hk1]
        clear hk1 c0 c1 f0 f1
        go_wp2_with fail
        generalize (w2.alloc (.cells #[.int .i64 1, .int .i64 v0.n, .string v0.s] 39)).alloc (.cells #[.int .i64 v0.n, .slice none 0 0] 24) = W3 at *
        obtain ⟨gr, hgr⟩ : ∃ gr, w2.heap.size + 1 = gr := ⟨_, rfl⟩
        have hgl : w.heap.size < gr := by omega
        rw [hgr] at HGR
        rw [hgr]
        clear HG2 HW2 HB3 lS hlt hgr hwk hwk'
        go_loopw [8, 9, 10] (fun vf vq vi wr => ∃ (f i : Nat) (q : Bool) (acc : List V) (x : Value), vf = .int .i64 (f : Int) ∧ vq = .bool q ∧ vi = .int .i64 (i : Int) ∧ f ≤ l.length + 2 ∧ i ≤ l.length + 2 ∧ acc.length ≤ i ∧ (∀ v ∈ acc, FitV v) ∧ (∀ t' vs', Is l t' vs' → t' = v0.n ∧ St l f i q acc vs') ∧ Own wr gr 24 2 [.int .i64 v0.n, x] ∧ OV wr (gr + 1) x acc ∧ Own wr w.heap.size 24 2 [.int .i64 0, .slice none 0 0] ∧ Below w.heap.size w wr) (fun _ _ i _ => l.length + 3 - (intOf i).toNat)
        case atStart => exact ⟨k + 2, k + 2, false, [], _, by simp, rfl, by simp, by omega, by omega, by simp, (fun v hv => by cases hv), (fun t' vs' h => by
          obtain ⟨-, q2, q3, q4⟩ := HIS.out t' vs' h
          refine ⟨q2, ?_⟩
          have q5 := St.start (l := l) (a := l.take k) (b := l.drop (k + 1)) q3 q4
          rw [htl] at q5
          exact q5), HGR.out, World.ownsRow_nil _ _ _ _, HG3.out, HW3.out⟩
        case round =>
          obtain ⟨f, i, q, acc, x, rfl, rfl, rfl, hf, hi, hal, hfit, hst, hgr, hov, hg0, hw⟩ := hrel
          have HST := hidMk hst
          have HFT := hidMk hfit
          have HGr := hidMk hgr
          have HOV := hidMk hov
          have HG0 := hidMk hg0
          have HW := hidMk hw
          obtain ⟨ax, cx, hx, -, -⟩ := hov.form
          subst hx
          have hgl2 := hgr.lt
          clear hst hfit hgr hov hg0 hw HGR HG3 HW3
          by_cases hle : i ≤ l.length
          · have hle' : (i : Int) ≤ (l.length : Int) := by omega
            by_cases hlt : i < l.length
            · have hlt' : (i : Int) < (l.length : Int) := by omega
              have ix := ixS l i hlt
              by_cases h39 : l[i] = 39
              · have HN : Hid (∀ t' vs', Is l t' vs' → t' = v0.n ∧ St l f (i + 1) (!q) acc vs') := fun t' vs' h => by
                  obtain ⟨q1, q2⟩ := HST.out t' vs' h
                  have q3 := q2.next h.val hlt (.inl (by rw [h39]; decide))
                  rw [if_pos h39] at q3
                  exact ⟨q1, q3⟩
                rw [h39] at ix
                clear h39
                go_wp2_with fail
                exact ⟨⟨f, i + 1, !q, acc, _, rfl, rfl, by go_num, hf, by omega, by omega, HFT.out, HN.out, HGr.out, HOV.out, HG0.out, HW.out⟩, by simp [intOf]; omega⟩
              · have h39' : ¬ (l[i].toNat : Int) = 39 := fun e => h39 (UInt8.toNat_inj.1 (by rw [show (39 : UInt8).toNat = 39 from rfl]; omega))
                by_cases h44 : l[i] = 44
                · cases q with
                  | true =>
                    have HN : Hid (∀ t' vs', Is l t' vs' → t' = v0.n ∧ St l f (i + 1) true acc vs') := fun t' vs' h => by
                      obtain ⟨q1, q2⟩ := HST.out t' vs' h
                      have q3 := q2.next h.val hlt (.inr (by rw [if_neg h39]))
                      rw [if_neg h39] at q3
                      exact ⟨q1, q3⟩
                    rw [h44] at ix
                    clear h44 h39 h39'
                    go_wp2_with fail
                    exact ⟨⟨f, i + 1, true, acc, _, rfl, rfl, by go_num, hf, by omega, by omega, HFT.out, HN.out, HGr.out, HOV.out, HG0.out, HW.out⟩, by simp [intOf]; omega⟩
                  | false =>
                    have HSP : Hid (∀ t' vs', Is l t' vs' → t' = v0.n ∧ f ≤ i ∧ ∃ w ws, vs' = acc ++ w :: ws ∧ (l.drop f).take (i - f) = sh w ∧ St l (i + 2) (i + 1) false (acc ++ [w]) vs') := fun t' vs' h => by
                      obtain ⟨q1, q2⟩ := HST.out t' vs' h
                      exact ⟨q1, q2.sep h.val hle fun _ => ⟨h44, rfl⟩⟩
                    rw [h44] at ix
                    clear h44 h39 h39' HST
                    by_cases hfi : i < f
                    · have hfi' : ((i : Nat) : Int) < (f : Int) := by omega
                      have HNO : Hid (∀ t' vs', ¬ Is l t' vs') := fun t' vs' h => by
                        have := (HSP.out t' vs' h).2.1
                        omega
                      have c0 := HG0.out.cell 0 (by decide)
                      have c1 := HG0.out.cell 1 (by decide)
                      have f0 := HG0.out.soft 0
                      have f1 := HG0.out.soft 1
                      have hlt := HG0.out.lt
                      clear HSP
                      go_wp2_with fail
                      exact bodyPost_ret (v := .tuple #[.agg #[.int .i64 0, .slice none 0 0], .bool false]) (by simp [results, Tryz.results5, go_sem, c0, c1, hlt, Nat.ne_of_lt hlt]) rfl (FERR.out HNO.out _ ((HW.out.setCell (p := ⟨w.heap.size, 0, none⟩) (Nat.le_refl _) _).setCell (p := ⟨w.heap.size, 1, none⟩) (Nat.le_refl _) _))
                    · have hfi' : ¬ ((i : Nat) : Int) < (f : Int) := by omega
                      have s2 := slM l f i (by omega) (by omega)
                      have hwl : ((l.drop f).take (i - f)).length ≤ l.length := by rw [List.length_take, List.length_drop]; omega
                      have HRD := hidMk (read_D ((l.drop f).take (i - f)) wr (by omega))
                      generalize (l.drop f).take (i - f) = word at *
                      go_wp2_with fail
                      refine HRD.out.mono ?_
                      rintro e w4 ⟨b4, v, ok, rfl, h1, h2⟩
                      have HW4 := hidMk (HW.out.trans (b4.mono HW.out.size))
                      have HGr4 := hidMk (HGr.out.later b4)
                      have HOV4 := hidMk (HOV.out.later b4)
                      have HG4 := hidMk (HG0.out.later b4)
                      have hl4 := HGr4.out.lt
                      have hz4 := HW4.out.size
                      have hlt4 : w.heap.size < w4.heap.size := by omega
                      clear b4 HRD HW HGr HOV HG0 s2
                      cases ok with
                      | false =>
                        have HNO : Hid (∀ t' vs', ¬ Is l t' vs') := fun t' vs' h => by
                          obtain ⟨-, -, u, ws, q1, q2, -⟩ := HSP.out t' vs' h
                          have hin : u ∈ vs' := by rw [q1]; simp
                          exact h2 rfl u (h.2.1 u hin) (h.val u hin) q2.symm
                        have c0 := HG4.out.cell 0 (by decide)
                        have c1 := HG4.out.cell 1 (by decide)
                        have f0 := HG4.out.soft 0
                        have f1 := HG4.out.soft 1
                        have hlt := HG4.out.lt
                        clear h1 h2 HSP
                        go_wp2_with fail
                        exact bodyPost_ret (v := .tuple #[.agg #[.int .i64 0, .slice none 0 0], .bool false]) (by simp [results, Tryz.results5, go_sem, c0, c1, hlt, Nat.ne_of_lt hlt]) rfl (FERR.out HNO.out _ (((HW4.out.setCell (p := ⟨w.heap.size, 0, none⟩) (Nat.le_refl _) _).setCell (p := ⟨w.heap.size, 1, none⟩) (Nat.le_refl _) _).alloc (by simp <;> omega) _))
                      | true =>
                        obtain ⟨hv, hf', hsh⟩ := h1 rfl
                        have HST4 : Hid (∀ t' vs', Is l t' vs' → t' = v0.n ∧ St l (i + 2) (i + 1) false (acc ++ [v]) vs') := fun t' vs' h => by
                          obtain ⟨q1, -, u, ws, q3, q4, q5⟩ := HSP.out t' vs' h
                          have hin : u ∈ vs' := by rw [q3]; simp
                          have e5 : u = v := sh_inj (h.val u hin) hv (h.2.1 u hin) hf' (q4.symm.trans hsh.symm)
                          rw [e5] at q5
                          exact ⟨q1, q5⟩
                        have HFT4 : Hid (∀ u ∈ acc ++ [v], FitV u) := fun u hu => by
                          rcases List.mem_append.1 hu with h | h
                          · exact HFT.out u h
                          · rw [List.mem_singleton.1 h]; exact hf'
                        have r1 := HGr4.out.cell 1 (by decide)
                        have hne4 : ¬ gr = w4.heap.size := by omega
                        have hwi : IntKind.i64.wrap (((i : Nat) : Int) + 2) = ((i : Nat) : Int) + 2 := wi64 (by omega) (by omega)
                        clear h1 h2 hv hf' hsh HSP HFT
                        go_wp2_with (first
                          | (at_builtin; refine wpList_append_own_at _ rfl _ _ 22 rfl (gr + 1) 39 i0 (.agg #[.int .i64 0, .int .i64 0, .string ⟨#[]⟩]) 3 32 Tryz.underlying22 hi0 hz0 hz1 hz2 rfl (by decide) _ acc.length (acc.flatMap cellsV) rfl ((World.ownsRow.alloc HOV4.out _).alloc _) ⟨w4.heap.size + 1, 0, none⟩ 1 1 (cellsV v) rfl rfl ?c1 ?c2 ?c3 ?c4 ?c5 ?_))
                        case c1 =>
                          intro j u hj
                          match j, hj with
                          | 0, hj => simp [cellsV] at hj; subst hj; simp [Addr.add]
                          | 1, hj => simp [cellsV] at hj; subst hj; simp [Addr.add]
                          | 2, hj => simp [cellsV] at hj; subst hj; simp [Addr.add]
                        case c2 => intro u hu; simp [cellsV] at hu; rcases hu with rfl | rfl | rfl <;> rfl
                        case c3 => unfold maxLen; omega
                        case c4 => omega
                        case c5 => simp; omega
                        intro v' w5 hown' hgrow _ hat
                        have hne : ∀ k, (Value.slice ax acc.length cx).ownBlock = some k → gr + 1 ≤ k := fun k hk => (World.ownsRow.lt HOV4.out k hk).1
                        have hb2 : Below w4.heap.size w4 ((w4.alloc (.cells #[.int .i64 v.k, .int .i64 v.n, .string v.s] 39)).alloc (.cells #[.int .i64 v.k, .int .i64 v.n, .string v.s] 39)) := (bel1 _ _).alloc (by simp) _
                        have HGr5 := hidMk ((HGr4.out.later hb2).grown hgrow (fun e => by have := hne gr e.symm; omega))
                        have HG5 := hidMk ((HG4.out.later hb2).grown hgrow (fun e => by have := hne _ e.symm; omega))
                        have HW5 : Hid (Below w.heap.size w w5) := (HW4.out.trans (hb2.mono HW4.out.size)).grown hgrow (by have := hb2.size; omega) (fun k hk => by have := hne k hk; omega)
                        have HOV5 : Hid (OV w5 (gr + 1) v' (acc ++ [v])) := by
                          unfold Hid OV
                          rw [List.length_append, List.flatMap_append]
                          simpa using hown'
                        obtain ⟨a5, c5, hv5, -⟩ := HOV5.out.form
                        subst hv5
                        clear hown' hgrow hat hne hb2 HGr4 HOV4 HG4 HW4
                        have d1 := HGr5.out.cell 1 (by decide)
                        have ds := HGr5.out.soft 1
                        have HF6 : Hid (Own (w5.setCell ⟨gr, 1, none⟩ (.slice a5 (acc ++ [v]).length c5)) gr 24 2 [.int .i64 v0.n, .slice a5 (acc ++ [v]).length c5] ∧ OV (w5.setCell ⟨gr, 1, none⟩ (.slice a5 (acc ++ [v]).length c5)) (gr + 1) (.slice a5 (acc ++ [v]).length c5) (acc ++ [v]) ∧ Own (w5.setCell ⟨gr, 1, none⟩ (.slice a5 (acc ++ [v]).length c5)) w.heap.size 24 2 [.int .i64 0, .slice none 0 0] ∧ Below w.heap.size w (w5.setCell ⟨gr, 1, none⟩ (.slice a5 (acc ++ [v]).length c5))) :=
                          ⟨(HGr5.out.put 1 _).1, HOV5.out.set (by omega), HG5.out.set (by omega), HW5.out.setCell (p := ⟨gr, 1, none⟩) (show w.heap.size ≤ gr by omega) _⟩
                        have hl5 : (acc ++ [v]).length = acc.length + 1 := by simp
                        rw [hl5] at HF6
                        rw [hl5]
                        go_wp2_with fail
                        exact ⟨⟨i + 2, i + 1, false, acc ++ [v], _, by simp, rfl, by go_num, by omega, by omega, by rw [hl5]; omega, HFT4.out, HST4.out, HF6.out.1, HF6.out.2.1, HF6.out.2.2.1, HF6.out.2.2.2⟩, by first | (simp [intOf]; done) | (simp [intOf]; omega)⟩
                · have h44' : ¬ (l[i].toNat : Int) = 44 := fun e => h44 (UInt8.toNat_inj.1 (by rw [show (44 : UInt8).toNat = 44 from rfl]; omega))
                  have HN : Hid (∀ t' vs', Is l t' vs' → t' = v0.n ∧ St l f (i + 1) q acc vs') := fun t' vs' h => by
                    obtain ⟨q1, q2⟩ := HST.out t' vs' h
                    have q3 := q2.next h.val hlt (.inl h44)
                    rw [if_neg h39] at q3
                    exact ⟨q1, q3⟩
                  clear h44 h39
                  go_wp2_with fail
                  exact ⟨⟨f, i + 1, q, acc, _, rfl, rfl, by go_num, hf, by omega, by omega, HFT.out, HN.out, HGr.out, HOV.out, HG0.out, HW.out⟩, by simp [intOf]; omega⟩
            · obtain rfl : i = l.length := by omega
              have hnl : ¬ (l.length : Int) < (l.length : Int) := by omega
              have HSP : Hid (∀ t' vs', Is l t' vs' → t' = v0.n ∧ f ≤ l.length ∧ ∃ w ws, vs' = acc ++ w :: ws ∧ (l.drop f).take (l.length - f) = sh w ∧ St l (l.length + 2) (l.length + 1) q (acc ++ [w]) vs') := fun t' vs' h => by
                obtain ⟨q1, q2⟩ := HST.out t' vs' h
                exact ⟨q1, q2.sep h.val hle fun h => absurd h (by omega)⟩
              clear HST
              by_cases hfi : l.length < f
              · have hfi' : ((l.length : Nat) : Int) < (f : Int) := by omega
                have HNO : Hid (∀ t' vs', ¬ Is l t' vs') := fun t' vs' h => by
                  have := (HSP.out t' vs' h).2.1
                  omega
                have c0 := HG0.out.cell 0 (by decide)
                have c1 := HG0.out.cell 1 (by decide)
                have f0 := HG0.out.soft 0
                have f1 := HG0.out.soft 1
                have hlt := HG0.out.lt
                clear HSP
                go_wp2_with fail
                exact bodyPost_ret (v := .tuple #[.agg #[.int .i64 0, .slice none 0 0], .bool false]) (by simp [results, Tryz.results5, go_sem, c0, c1, hlt, Nat.ne_of_lt hlt]) rfl (FERR.out HNO.out _ ((HW.out.setCell (p := ⟨w.heap.size, 0, none⟩) (Nat.le_refl _) _).setCell (p := ⟨w.heap.size, 1, none⟩) (Nat.le_refl _) _))
              · have hfi' : ¬ ((l.length : Nat) : Int) < (f : Int) := by omega
                have s2 := slM l f l.length (by omega) (by omega)
                have hwl : ((l.drop f).take (l.length - f)).length ≤ l.length := by rw [List.length_take, List.length_drop]; omega
                have HRD := hidMk (read_D ((l.drop f).take (l.length - f)) wr (by omega))
                generalize (l.drop f).take (l.length - f) = word at *
                go_wp2_with fail
                refine HRD.out.mono ?_
                rintro e w4 ⟨b4, v, ok, rfl, h1, h2⟩
                have HW4 := hidMk (HW.out.trans (b4.mono HW.out.size))
                have HGr4 := hidMk (HGr.out.later b4)
                have HOV4 := hidMk (HOV.out.later b4)
                have HG4 := hidMk (HG0.out.later b4)
                have hl4 := HGr4.out.lt
                have hz4 := HW4.out.size
                have hlt4 : w.heap.size < w4.heap.size := by omega
                clear b4 HRD HW HGr HOV HG0 s2
                cases ok with
                | false =>
                  have HNO : Hid (∀ t' vs', ¬ Is l t' vs') := fun t' vs' h => by
                    obtain ⟨-, -, u, ws, q1, q2, -⟩ := HSP.out t' vs' h
                    have hin : u ∈ vs' := by rw [q1]; simp
                    exact h2 rfl u (h.2.1 u hin) (h.val u hin) q2.symm
                  have c0 := HG4.out.cell 0 (by decide)
                  have c1 := HG4.out.cell 1 (by decide)
                  have f0 := HG4.out.soft 0
                  have f1 := HG4.out.soft 1
                  have hlt := HG4.out.lt
                  clear h1 h2 HSP
                  go_wp2_with fail
                  exact bodyPost_ret (v := .tuple #[.agg #[.int .i64 0, .slice none 0 0], .bool false]) (by simp [results, Tryz.results5, go_sem, c0, c1, hlt, Nat.ne_of_lt hlt]) rfl (FERR.out HNO.out _ (((HW4.out.setCell (p := ⟨w.heap.size, 0, none⟩) (Nat.le_refl _) _).setCell (p := ⟨w.heap.size, 1, none⟩) (Nat.le_refl _) _).alloc (by simp <;> omega) _))
                | true =>
                  obtain ⟨hv, hf', hsh⟩ := h1 rfl
                  have HST4 : Hid (∀ t' vs', Is l t' vs' → t' = v0.n ∧ St l (l.length + 2) (l.length + 1) q (acc ++ [v]) vs') := fun t' vs' h => by
                    obtain ⟨q1, -, u, ws, q3, q4, q5⟩ := HSP.out t' vs' h
                    have hin : u ∈ vs' := by rw [q3]; simp
                    have e5 : u = v := sh_inj (h.val u hin) hv (h.2.1 u hin) hf' (q4.symm.trans hsh.symm)
                    rw [e5] at q5
                    exact ⟨q1, q5⟩
                  have HFT4 : Hid (∀ u ∈ acc ++ [v], FitV u) := fun u hu => by
                    rcases List.mem_append.1 hu with h | h
                    · exact HFT.out u h
                    · rw [List.mem_singleton.1 h]; exact hf'
                  have r1 := HGr4.out.cell 1 (by decide)
                  have hne4 : ¬ gr = w4.heap.size := by omega
                  have hwi : IntKind.i64.wrap (((l.length : Nat) : Int) + 2) = ((l.length : Nat) : Int) + 2 := wi64 (by omega) (by omega)
                  clear h1 h2 hv hf' hsh HSP HFT
                  go_wp2_with (first
                    | (at_builtin; refine wpList_append_own_at _ rfl _ _ 22 rfl (gr + 1) 39 i0 (.agg #[.int .i64 0, .int .i64 0, .string ⟨#[]⟩]) 3 32 Tryz.underlying22 hi0 hz0 hz1 hz2 rfl (by decide) _ acc.length (acc.flatMap cellsV) rfl ((World.ownsRow.alloc HOV4.out _).alloc _) ⟨w4.heap.size + 1, 0, none⟩ 1 1 (cellsV v) rfl rfl ?c1 ?c2 ?c3 ?c4 ?c5 ?_))
                  case c1 =>
                    intro j u hj
                    match j, hj with
                    | 0, hj => simp [cellsV] at hj; subst hj; simp [Addr.add]
                    | 1, hj => simp [cellsV] at hj; subst hj; simp [Addr.add]
                    | 2, hj => simp [cellsV] at hj; subst hj; simp [Addr.add]
                  case c2 => intro u hu; simp [cellsV] at hu; rcases hu with rfl | rfl | rfl <;> rfl
                  case c3 => unfold maxLen; omega
                  case c4 => omega
                  case c5 => simp; omega
                  intro v' w5 hown' hgrow _ hat
                  have hne : ∀ k, (Value.slice ax acc.length cx).ownBlock = some k → gr + 1 ≤ k := fun k hk => (World.ownsRow.lt HOV4.out k hk).1
                  have hb2 : Below w4.heap.size w4 ((w4.alloc (.cells #[.int .i64 v.k, .int .i64 v.n, .string v.s] 39)).alloc (.cells #[.int .i64 v.k, .int .i64 v.n, .string v.s] 39)) := (bel1 _ _).alloc (by simp) _
                  have HGr5 := hidMk ((HGr4.out.later hb2).grown hgrow (fun e => by have := hne gr e.symm; omega))
                  have HG5 := hidMk ((HG4.out.later hb2).grown hgrow (fun e => by have := hne _ e.symm; omega))
                  have HW5 : Hid (Below w.heap.size w w5) := (HW4.out.trans (hb2.mono HW4.out.size)).grown hgrow (by have := hb2.size; omega) (fun k hk => by have := hne k hk; omega)
                  have HOV5 : Hid (OV w5 (gr + 1) v' (acc ++ [v])) := by
                    unfold Hid OV
                    rw [List.length_append, List.flatMap_append]
                    simpa using hown'
                  obtain ⟨a5, c5, hv5, -⟩ := HOV5.out.form
                  subst hv5
                  clear hown' hgrow hat hne hb2 HGr4 HOV4 HG4 HW4
                  have d1 := HGr5.out.cell 1 (by decide)
                  have ds := HGr5.out.soft 1
                  have HF6 : Hid (Own (w5.setCell ⟨gr, 1, none⟩ (.slice a5 (acc ++ [v]).length c5)) gr 24 2 [.int .i64 v0.n, .slice a5 (acc ++ [v]).length c5] ∧ OV (w5.setCell ⟨gr, 1, none⟩ (.slice a5 (acc ++ [v]).length c5)) (gr + 1) (.slice a5 (acc ++ [v]).length c5) (acc ++ [v]) ∧ Own (w5.setCell ⟨gr, 1, none⟩ (.slice a5 (acc ++ [v]).length c5)) w.heap.size 24 2 [.int .i64 0, .slice none 0 0] ∧ Below w.heap.size w (w5.setCell ⟨gr, 1, none⟩ (.slice a5 (acc ++ [v]).length c5))) :=
                    ⟨(HGr5.out.put 1 _).1, HOV5.out.set (by omega), HG5.out.set (by omega), HW5.out.setCell (p := ⟨gr, 1, none⟩) (show w.heap.size ≤ gr by omega) _⟩
                  have hl5 : (acc ++ [v]).length = acc.length + 1 := by simp
                  rw [hl5] at HF6
                  rw [hl5]
                  go_wp2_with fail
                  exact ⟨⟨l.length + 2, l.length + 1, q, acc ++ [v], _, by simp, rfl, by go_num, by omega, by omega, by rw [hl5]; omega, HFT4.out, HST4.out, HF6.out.1, HF6.out.2.1, HF6.out.2.2.1, HF6.out.2.2.2⟩, by first | (simp [intOf]; done) | (simp [intOf]; omega)⟩
          · have hle' : ¬ (i : Int) ≤ (l.length : Int) := by omega
            have HFN : Hid (∀ t' vs', Is l t' vs' → t' = v0.n ∧ vs' = acc ∧ (k + 1 = l.length → vs' = [])) := fun t' vs' h => by
              obtain ⟨q1, q2⟩ := HST.out t' vs' h
              refine ⟨q1, q2.fin h.val (by omega), fun hk2 => ?_⟩
              obtain ⟨-, -, -, q4⟩ := HIS.out t' vs' h
              rw [List.drop_eq_nil_of_le (by omega)] at q4
              cases vs' with
              | nil => rfl
              | cons y ys => unfold tl at q4; cases q4
            clear HST HIS
            have hwm : IntKind.i64.wrap ((l.length : Int) - 1) = (l.length : Int) - 1 := wi64 (by omega) (by omega)
            by_cases hk2 : k + 1 = l.length
            · have hk2' : (k : Int) = (l.length : Int) - 1 := by omega
              have HUx : Hid (∀ t' vs', Is l t' vs' → t' = v0.n ∧ vs' = []) := fun t' vs' h => ⟨(HFN.out t' vs' h).1, (HFN.out t' vs' h).2.2 hk2⟩
              have rs := HGr.out.soft 1
              have rr1 := HGr.out.cell 1 (by decide)
              have HGx := hidMk (HGr.out.put 1 (.slice none 0 0)).1
              have HZx := hidMk (HG0.out.set (j := 1) (u := .slice none 0 0) (show w.heap.size ≠ gr by omega))
              have HWx := hidMk (HW.out.setCell (p := ⟨gr, 1, none⟩) (show w.heap.size ≤ gr by omega) (.slice none 0 0))
              have HVx : Hid (VLies (wr.setCell ⟨gr, 1, none⟩ (.slice none 0 0)) none []) := fun i hi => by simp at hi
              have HFx : Hid (∀ v ∈ ([] : List V), FitV v) := fun v hv => by cases hv
              have HAx : Hid (∀ x : Addr, (none : Option Addr) = some x → some x.block ≠ some w.heap.size) := fun x hx => by cases hx
              clear hk2 HFN HGr HG0 HW HOV HFT
              rw [← hk2'] at hwm
              have r0 := HGx.out.cell 0 (by decide)
              have r1 := HGx.out.cell 1 (by decide)
              have HSH := hidMk (showD_run v0.n [] none 0 _ HVx.out HFx.out (by first | omega | (simp; done) | (simp; omega)) HTR.out.1 HTR.out.2)
              go_wp2_with fail
              refine HSH.out.mono ?_
              rintro e w5 ⟨rfl, b5⟩
              have HG5 := hidMk (HGx.out.later b5)
              have HZ5 := hidMk (HZx.out.later b5)
              have HW5 := hidMk (HWx.out.trans (b5.mono HWx.out.size))
              have HV5 := hidMk (HVx.out.later b5)
              clear b5 HSH r0 r1 HGx HZx HWx HVx
              have r0 := HG5.out.cell 0 (by decide)
              have r1 := HG5.out.cell 1 (by decide)
              have HVR := hidMk (refValidRow_any ⟨v0.n, []⟩ none 0 w5 HV5.out ⟨by show ([] : List V).length ≤ maxLen; unfold maxLen; first | omega | (simp; done) | (simp; omega), fun v hv => (HFx.out v hv).1⟩)
              go_wp2_with fail
              refine HVR.out.mono ?_
              rintro e w6 ⟨rfl, b6⟩
              have HG6 := hidMk (HG5.out.later b6)
              have HZ6 := hidMk (HZ5.out.later b6)
              have HW6 := hidMk (HW5.out.trans (b6.mono HW5.out.size))
              have HV6 := hidMk (HV5.out.later b6)
              clear b6 HVR r0 r1 HG5 HZ5 HW5 HV5
              have r0 := HG6.out.cell 0 (by decide)
              have r1 := HG6.out.cell 1 (by decide)
              have c0 := HZ6.out.cell 0 (by decide)
              have c1 := HZ6.out.cell 1 (by decide)
              have f0 := HZ6.out.soft 0
              have f1 := HZ6.out.soft 1
              have hlt := HZ6.out.lt
              have FIN : Hid (∀ ok w6, Below w.heap.size w w6 → VLies w6 none [] → (ok = true → Is l v0.n []) → (ok = false → ∀ t' vs', ¬ Is l t' vs') → RowD w l (.returned (.tuple #[.agg #[.int .i64 v0.n, .slice none ([] : List V).length 0], .bool ok])) w6) := fun ok w6 h6 hv6 h7 h8 => ⟨h6, v0.n, [], none, 0, ok, rfl, hv6, by first | omega | (simp; done) | (simp; omega), HFx.out, h7, h8⟩
              have HVE : Hid (∀ u1 u2, VLies ((w6.setCell ⟨w.heap.size, 0, none⟩ u1).setCell ⟨w.heap.size, 1, none⟩ u2) none []) := fun u1 u2 => (HV6.out.grown (grown_set _ ⟨w.heap.size, 0, none⟩ _) HAx.out).grown (grown_set _ ⟨w.heap.size, 1, none⟩ _) HAx.out
              have HWE : Hid (∀ u1 u2, Below w.heap.size w ((w6.setCell ⟨w.heap.size, 0, none⟩ u1).setCell ⟨w.heap.size, 1, none⟩ u2)) := fun u1 u2 => (HW6.out.setCell (p := ⟨w.heap.size, 0, none⟩) (Nat.le_refl _) _).setCell (p := ⟨w.heap.size, 1, none⟩) (Nat.le_refl _) _
              by_cases he : showR v0.n [] = l
              · rw [he]
                cases hv : validR ⟨v0.n, []⟩ with
                | true =>
                  have HIL : Hid (Is l v0.n []) := ⟨hv, HFx.out, he⟩
                  clear hv he
                  go_wp2_with fail
                  exact bodyPost_ret (v := .tuple #[.agg #[.int .i64 v0.n, .slice none ([] : List V).length 0], .bool true]) (by simp [results, Tryz.results5, go_sem, c0, c1]) rfl (FIN.out true _ (HWE.out _ _) (HVE.out _ _) (fun _ => HIL.out) (fun h => by cases h))
                | false =>
                  have HNO : Hid (∀ t' vs', ¬ Is l t' vs') := fun t' vs' h => by
                    obtain ⟨e1, e2⟩ := HUx.out t' vs' h
                    have := h.1
                    rw [e1, e2, hv] at this
                    cases this
                  clear hv he
                  go_wp2_with fail
                  exact bodyPost_ret (v := .tuple #[.agg #[.int .i64 v0.n, .slice none ([] : List V).length 0], .bool false]) (by simp [results, Tryz.results5, go_sem, c0, c1]) rfl (FIN.out false _ (HWE.out _ _) (HVE.out _ _) (fun h => by cases h) (fun _ => HNO.out))
              · have HNO : Hid (∀ t' vs', ¬ Is l t' vs') := fun t' vs' h => by
                  obtain ⟨e1, e2⟩ := HUx.out t' vs' h
                  exact he (by rw [← e1, ← e2]; exact h.2.2)
                generalize showR v0.n [] = L' at *
                generalize validR ⟨v0.n, []⟩ = vb at *
                have hn1 : (L' == l) = false := by simpa using he
                have hn2 : ((⟨L'.toArray⟩ : ByteArray).toList == (⟨l.toArray⟩ : ByteArray).toList) = false := by simpa using he
                clear he
                go_wp2_with fail
                exact bodyPost_ret (v := .tuple #[.agg #[.int .i64 v0.n, .slice none ([] : List V).length 0], .bool false]) (by simp [results, Tryz.results5, go_sem, c0, c1]) rfl (FIN.out false _ (HWE.out _ _) (HVE.out _ _) (fun h => by cases h) (fun _ => HNO.out))
            · have hk2' : ¬ (k : Int) = (l.length : Int) - 1 := by omega
              have HUx : Hid (∀ t' vs', Is l t' vs' → t' = v0.n ∧ vs' = acc) := fun t' vs' h => ⟨(HFN.out t' vs' h).1, (HFN.out t' vs' h).2.1⟩
              obtain ⟨ay, cy, hy, hvl, hab⟩ := HOV.out.form
              obtain ⟨rfl, rfl⟩ : ax = ay ∧ cx = cy := by injection hy with e1 e2 e3; exact ⟨e1, e3⟩
              have HGx := hidMk HGr.out
              have HZx := hidMk HG0.out
              have HWx := hidMk HW.out
              have HVx := hidMk hvl
              have HFx := hidMk HFT.out
              have HAx : Hid (∀ x, ax = some x → some x.block ≠ some w.heap.size) := fun x hx e => by have := (hab x hx).1; have := Option.some.inj e; omega
              clear hk2 HFN HGr HG0 HW HOV HFT hy hvl hab
              have r0 := HGx.out.cell 0 (by decide)
              have r1 := HGx.out.cell 1 (by decide)
              have HSH := hidMk (showD_run v0.n acc ax cx _ HVx.out HFx.out (by first | omega | (simp; done) | (simp; omega)) HTR.out.1 HTR.out.2)
              go_wp2_with fail
              refine HSH.out.mono ?_
              rintro e w5 ⟨rfl, b5⟩
              have HG5 := hidMk (HGx.out.later b5)
              have HZ5 := hidMk (HZx.out.later b5)
              have HW5 := hidMk (HWx.out.trans (b5.mono HWx.out.size))
              have HV5 := hidMk (HVx.out.later b5)
              clear b5 HSH r0 r1 HGx HZx HWx HVx
              have r0 := HG5.out.cell 0 (by decide)
              have r1 := HG5.out.cell 1 (by decide)
              have HVR := hidMk (refValidRow_any ⟨v0.n, acc⟩ ax cx w5 HV5.out ⟨by show (acc : List V).length ≤ maxLen; unfold maxLen; first | omega | (simp; done) | (simp; omega), fun v hv => (HFx.out v hv).1⟩)
              go_wp2_with fail
              refine HVR.out.mono ?_
              rintro e w6 ⟨rfl, b6⟩
              have HG6 := hidMk (HG5.out.later b6)
              have HZ6 := hidMk (HZ5.out.later b6)
              have HW6 := hidMk (HW5.out.trans (b6.mono HW5.out.size))
              have HV6 := hidMk (HV5.out.later b6)
              clear b6 HVR r0 r1 HG5 HZ5 HW5 HV5
              have r0 := HG6.out.cell 0 (by decide)
              have r1 := HG6.out.cell 1 (by decide)
              have c0 := HZ6.out.cell 0 (by decide)
              have c1 := HZ6.out.cell 1 (by decide)
              have f0 := HZ6.out.soft 0
              have f1 := HZ6.out.soft 1
              have hlt := HZ6.out.lt
              have FIN : Hid (∀ ok w6, Below w.heap.size w w6 → VLies w6 ax acc → (ok = true → Is l v0.n acc) → (ok = false → ∀ t' vs', ¬ Is l t' vs') → RowD w l (.returned (.tuple #[.agg #[.int .i64 v0.n, .slice ax (acc : List V).length cx], .bool ok])) w6) := fun ok w6 h6 hv6 h7 h8 => ⟨h6, v0.n, acc, ax, cx, ok, rfl, hv6, by first | omega | (simp; done) | (simp; omega), HFx.out, h7, h8⟩
              have HVE : Hid (∀ u1 u2, VLies ((w6.setCell ⟨w.heap.size, 0, none⟩ u1).setCell ⟨w.heap.size, 1, none⟩ u2) ax acc) := fun u1 u2 => (HV6.out.grown (grown_set _ ⟨w.heap.size, 0, none⟩ _) HAx.out).grown (grown_set _ ⟨w.heap.size, 1, none⟩ _) HAx.out
              have HWE : Hid (∀ u1 u2, Below w.heap.size w ((w6.setCell ⟨w.heap.size, 0, none⟩ u1).setCell ⟨w.heap.size, 1, none⟩ u2)) := fun u1 u2 => (HW6.out.setCell (p := ⟨w.heap.size, 0, none⟩) (Nat.le_refl _) _).setCell (p := ⟨w.heap.size, 1, none⟩) (Nat.le_refl _) _
              by_cases he : showR v0.n acc = l
              · rw [he]
                cases hv : validR ⟨v0.n, acc⟩ with
                | true =>
                  have HIL : Hid (Is l v0.n acc) := ⟨hv, HFx.out, he⟩
                  clear hv he
                  go_wp2_with fail
                  exact bodyPost_ret (v := .tuple #[.agg #[.int .i64 v0.n, .slice ax (acc : List V).length cx], .bool true]) (by simp [results, Tryz.results5, go_sem, c0, c1]) rfl (FIN.out true _ (HWE.out _ _) (HVE.out _ _) (fun _ => HIL.out) (fun h => by cases h))
                | false =>
                  have HNO : Hid (∀ t' vs', ¬ Is l t' vs') := fun t' vs' h => by
                    obtain ⟨e1, e2⟩ := HUx.out t' vs' h
                    have := h.1
                    rw [e1, e2, hv] at this
                    cases this
                  clear hv he
                  go_wp2_with fail
                  exact bodyPost_ret (v := .tuple #[.agg #[.int .i64 v0.n, .slice ax (acc : List V).length cx], .bool false]) (by simp [results, Tryz.results5, go_sem, c0, c1]) rfl (FIN.out false _ (HWE.out _ _) (HVE.out _ _) (fun h => by cases h) (fun _ => HNO.out))
              · have HNO : Hid (∀ t' vs', ¬ Is l t' vs') := fun t' vs' h => by
                  obtain ⟨e1, e2⟩ := HUx.out t' vs' h
                  exact he (by rw [← e1, ← e2]; exact h.2.2)
                generalize showR v0.n acc = L' at *
                generalize validR ⟨v0.n, acc⟩ = vb at *
                have hn1 : (L' == l) = false := by simpa using he
                have hn2 : ((⟨L'.toArray⟩ : ByteArray).toList == (⟨l.toArray⟩ : ByteArray).toList) = false := by simpa using he
                clear he
                go_wp2_with fail
                exact bodyPost_ret (v := .tuple #[.agg #[.int .i64 v0.n, .slice ax (acc : List V).length cx], .bool false]) (by simp [results, Tryz.results5, go_sem, c0, c1]) rfl (FIN.out false _ (HWE.out _ _) (HVE.out _ _) (fun h => by cases h) (fun _ => HNO.out))
      · have hk1' : ¬ v0.k = 1 := hk1
        have HNO : Hid (∀ t' vs', ¬ Is l t' vs') := fun t' vs' h => hk1 (HIS.out t' vs' h).1
        clear HIS
        go_wp2_with fail
        exact bodyPost_ret (v := .tuple #[.agg #[.int .i64 0, .slice none 0 0], .bool false]) (by simp [results, Tryz.results5, go_sem, c0, c1, hlt, Nat.ne_of_lt hlt]) rfl (FERR.out HNO.out _ (((HW2.out.setCell (p := ⟨w.heap.size, 0, none⟩) (Nat.le_refl _) _).setCell (p := ⟨w.heap.size, 1, none⟩) (Nat.le_refl _) _).alloc (by simp <;> omega) _))
end Go.Proofs.YtodkekmfadfjkaaGreatDoor
