import Derived.Test.YtmeeoamcelkhmaaGreatDoorTbK
namespace Go.Proofs.YtmeeoamcelkhmaaGreatDoor
open Go.RowKit Go.Maps
set_option linter.unusedVariables false
set_option linter.unusedSimpArgs false
set_option maxRecDepth 100000

theorem step_append_at {P : Program} {w : World} {ops : Array Oper} {o : Oper} {a : Act} {K : Act → World → Prop} {Q : Exit → Act → World → Prop} {E : Prop} (hgd : o.guard = none) (s x : Operand) (t : TypeId)
    (ho : o.op = .call { callee := .builtin .append, args := #[s, x], argTypes := #[t, t] })
    (base : Nat) (e : TypeId) (i : TypeInfo) (z : Value) (size bytes : Nat) (ht : P.underlying t = some (.slice e)) (hi : P.info? e = some i) (hz : i.zero = some z)
    (hsize : i.size = size) (hby : i.bytes = bytes) (hzs : z.cells.size = size) (hsz : 0 < size)
    (v : Value) (n : Nat) (xs : List Value) (hs : a.eval s = v) (hown : w.ownsRow base e size v n xs)
    (ad : Addr) (m c : Nat) (news : List Value) (hx : a.eval x = .slice (some ad) m c) (hl : news.length = m * size) (hnews : ∀ j u, news[j]? = some u → w.cell? (ad.add j) = some u) (h1 : ∀ u ∈ news, u.oneCell' = true)
    (h63 : n + m ≤ maxLen) (hbytes : (n + m) * bytes ≤ 140737488355328) (hbase : base ≤ w.heap.size)
    (h : ∀ v' w', w'.ownsRow base e size v' (n + m) (xs ++ news) → w.grownBy w' v.ownBlock → (v'.ownBlock = v.ownBlock ∨ v'.ownBlock = some w.heap.size) → K (a.put o.dst v') w') :
    if Region.wanted o (yielded ops a.tmps) = true then Oper.wp P o a w K Q else E := by
  have hw : Region.wanted o (yielded ops a.tmps) = true := by simp [Region.wanted, hgd]
  rw [if_pos hw]
  obtain ⟨v', w', hrun, r1, r2, _, r3⟩ := run_append_own_at (P := P) w base t o.type e i z size bytes ht hi hz hsize hby hzs hsz v n xs hown ad m c news hl hnews h1 h63 hbytes hbase
  unfold Oper.wp
  simp [execOp, ho, resolve, invoke, builtin, hs, hx, hrun, Result.andThen]
  exact h v' w' r1 r2 r3
theorem oneCells (qs : List Q) : ∀ u ∈ qs.flatMap cellsR, u.oneCell' = true := fun u hu => by
  obtain ⟨q, _, hq⟩ := List.mem_flatMap.1 hu
  simp [cellsR] at hq
  rcases hq with rfl | rfl <;> rfl
set_option maxHeartbeats 4000000 in
theorem commit_at (w : World) (B t mp ms : Nat) (X : Nat → Prop) (hs : List Hp) (ss : List Sn) (f : Hp) (h : PT w B t mp ms X hs ss) (hX : ∀ i, X i → i < w.heap.size) (hBw : B ≤ w.heap.size) (hx : Fits f.x) (hf : f ∈ hs) (O : Nat) (hfv : f.v = .slice (some ⟨O, 0, none⟩) f.qs.length f.qs.length) (hl : (seenQ ss f.x.sn).length + f.qs.length ≤ 4398046511104) (hn : ss.length ≤ 1099511627776) :
    Calls Tryz.prog 9 #[.pointer (some ⟨t, 0, none⟩), vv f.x] w fun e w' => e = .returned (.bool true) ∧ Gs (Tb t mp ms ss) w w' ∧ ∃ v', PT w' B t mp ms X (delH hs f.x) (putS ss f.x.sn v' (seenQ ss f.x.sn ++ f.qs)) := by
  have hB := bel1 w (.cells #[.int .i64 f.x.m, .string f.x.sn, .int .i64 f.x.tk] 27)
  have h0 := h.later hB
  have HT := hidMk (take_any _ B t mp ms X hs ss f.x h0 hx)
  rw [fnd_atH h.nodup hf, hfv] at HT
  simp only [Option.getD_some, Option.isSome_some] at HT
  have d1 : (w.alloc (.cells #[.int .i64 f.x.m, .string f.x.sn, .int .i64 f.x.tk] 27)).cell? ⟨w.heap.size, 1, none⟩ = some (.string f.x.sn) := by simp
  have hmlt : mp < w.heap.size := (h.lt mp (.inr (.inl rfl))).2
  have HN : Hid (f.x.sn.size ≤ maxLen) := hx.2.1
  -- what is true behind take
  have HW : Hid (∀ w1, PT w1 B t mp ms X (delH hs f.x) ss → Gs (fun i => i = mp) (w.alloc (.cells #[.int .i64 f.x.m, .string f.x.sn, .int .i64 f.x.tk] 27)) w1 → RR w1 B (Mu t mp ms ss X) f.v f.qs ∧ w1.cell? ⟨w.heap.size, 1, none⟩ = some (.string f.x.sn) ∧ (∀ i, X i → i < w1.heap.size) ∧ B ≤ w1.heap.size) := fun w1 h1 h2 => by
    have hsz := h2.size
    rw [World.size_alloc] at hsz
    refine ⟨(h0.ph f hf).1.kept h2 (fun k hk e => (h0.ph f hf).2 k hk (.inr (.inl e))) (fun i _ e => .inr (.inl e)) (fun _ _ m => m), h2.cell d1 (by simp; omega), fun i hi => by have := hX i hi; omega, by omega⟩
  have HLT := hidMk h.lt
  have HB := hidMk hB
  clear h h0 hx hB d1 hf
  unfold vv at HT ⊢
  go_enter Tryz.func9, Tryz.ntmps9
  go_wp2_with fail
  refine HT.out.mono ?_
  rintro e w1 ⟨rfl, h1, h2⟩
  obtain ⟨a1, a2, a3, a4⟩ := HW.out w1 h1 h2
  have HP := hidMk h1.drew
  have HG := hidMk h2
  have HR := hidMk (a1.kept (Gs.below (S := fun _ => False) (show Below w1.heap.size w1 w1.drew from ⟨rfl, rfl, rfl, Nat.le_refl _, fun _ _ => rfl⟩)) (fun _ _ s => s) (fun _ _ s => s.elim) (fun _ _ m => m))
  have HX := hidMk a3
  have HBW : Hid (B ≤ w1.drew.heap.size) := a4
  have HS : Hid (∀ w', w1.drew.grownBy w' (seenV ss f.x.sn).ownBlock → MP w' sk ms (ss.map entS) ∧ w'.cell? ⟨t, 1, none⟩ = some (.map (some ms)) ∧ w'.cell? ⟨w.heap.size, 1, none⟩ = some (.string f.x.sn) ∧ (Instr.lookup 57 (.map (some ms)) (.string f.x.sn) false).run Tryz.prog w' = .ok (seenV ss f.x.sn) w') := fun w' hg => by
    have hne : ∀ i, some i = (seenV ss f.x.sn).ownBlock → i ≠ t ∧ i ≠ ms ∧ i ≠ w.heap.size := fun i e => by
      obtain ⟨s, g1, _, g3⟩ := seenV_mem e.symm
      have q := HP.out.sd s g1 i g3
      refine ⟨q.1, q.2.2, fun e => ?_⟩
      have := (HLT.out i (.inr (.inr (.inr ⟨s, g1, g3⟩)))).2
      omega
    have hm := HP.out.see.kept hg (fun e => (hne _ e).2.1 rfl)
    refine ⟨hm, hg.cell HP.out.cells.2 (fun e => (hne _ e).1 rfl), hg.cell (show w1.drew.cell? _ = _ from a2) (fun e => (hne _ e).2.2 rfl), ?_⟩
    have := hm.look1 K9 Tryz.underlying57 (zRows w') f.x.sn HN.out
    rw [fnd_entS] at this
    exact this
  obtain ⟨i0, hi0, hz0, hz1, hz2⟩ := info_parts info30
  clear h1 h2 a1 a2 a3 a4
  have hlen : (ss.map entS).length < maxLen := by rw [List.length_map]; unfold maxLen; omega
  have HOWN := hidMk (HP.out.rr f.x.sn).own
  have HNEWS : Hid (∀ j u, (f.qs.flatMap cellsR)[j]? = some u → w1.drew.cell? ((⟨O, 0, none⟩ : Addr).add j) = some u) := fun j u hu => by
    have ho := HR.out.own
    rw [hfv] at ho
    have hj : j < f.qs.length * 2 := by
      have := (List.getElem?_eq_some_iff.1 hu).1
      rwa [len_cellsR] at this
    have := World.ownsRow.cellAt ho j hj
    have hadd : (⟨O, 0, none⟩ : Addr).add j = ⟨O, j, none⟩ := by unfold Addr.add; split <;> simp_all
    rw [hadd, this]; exact hu
  have h63 : (seenQ ss f.x.sn).length + f.qs.length ≤ maxLen := by unfold maxLen; omega
  have hby : ((seenQ ss f.x.sn).length + f.qs.length) * 32 ≤ 140737488355328 := by omega
  have hL := (HS.out _ (World.grownBy.refl _ _)).2.2.2
  have HS2 : Hid (∀ w', w1.drew.grownBy w' (seenV ss f.x.sn).ownBlock → w'.cell? ⟨t, 1, none⟩ = some (.map (some ms)) ∧ w'.cell? ⟨w.heap.size, 1, none⟩ = some (.string f.x.sn)) := fun w' hg => ⟨(HS.out w' hg).2.1, (HS.out w' hg).2.2.1⟩
  have HSN : Hid (t ≠ ms ∧ w.heap.size ≠ ms) := ⟨HP.out.ne.2.1, fun e => by have := (HLT.out ms (.inr (.inr (.inl rfl)))).2; omega⟩
  have HS3 : Hid (∀ w' w'', w1.drew.grownBy w' (seenV ss f.x.sn).ownBlock → w'.grownBy w'' (some ms) → w''.cell? ⟨t, 1, none⟩ = some (.map (some ms)) ∧ w''.cell? ⟨w.heap.size, 1, none⟩ = some (.string f.x.sn)) := fun w' w'' hg hg2 => ⟨hg2.cell (HS2.out w' hg).1 (fun e => HSN.out.1 (Option.some.inj e)), hg2.cell (HS2.out w' hg).2 (fun e => HSN.out.2 (Option.some.inj e))⟩
  clear HT HW hX hBw hmlt
  go_wp2_with fail
  go_region_held3 (fun w' => w'.cell? ⟨t, 1, none⟩ = some (.map (some ms)) ∧ w'.cell? ⟨w.heap.size, 1, none⟩ = some (.string f.x.sn))
    (first | exact HS2.out _ (World.grownBy.refl _ _) | exact HS2.out _ hgrow | exact HS4 | go_keep)
    ((refine step_append_at (by rfl) (.tmp 26) (.tmp 27) 28 (by rfl) B 34 i0 _ 2 32 Tryz.underlying28 hi0 hz0 hz1 hz2 rfl (by decide) (seenV ss f.x.sn) (seenQ ss f.x.sn).length _ (by rfl) HOWN.out ⟨O, 0, none⟩ f.qs.length f.qs.length (f.qs.flatMap cellsR) (by rfl) (len_cellsR _) HNEWS.out (oneCells _) h63 hby HBW.out ?_; intro v' w3 hown hgrow hat; obtain ⟨w4, hr4, hm4, ht4⟩ := (HS.out _ hgrow).1.store K9 Tryz.underlying57 f.x.sn HN.out v' hlen; have hr4' : (Instr.mapUpdate 57 (.map (some ms)) (.string f.x.sn) v').run Tryz.prog w3 = .ok () w4 := hr4; have HF := hidMk (comd HP.out HX.out HR.out hown hgrow hat hm4 ht4.grown); have HS4 := HS3.out _ _ hgrow ht4.grown; clear hr4 hm4 ht4 hown hat))
  all_goals
    clear HS4 hgrow hr4'
    go_wp2_with fail
    go_ret
    exact ⟨rfl, (Gs.below HB.out).trans ((HG.out.mono (T := Tb t mp ms ss) fun i _ e => .inr (.inl e)).trans HF.out.2.drew), v', HF.out.1⟩
end Go.Proofs.YtmeeoamcelkhmaaGreatDoor
