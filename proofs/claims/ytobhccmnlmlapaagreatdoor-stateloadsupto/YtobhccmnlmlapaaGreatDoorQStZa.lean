import Derived.Test.YtobhccmnlmlapaaGreatDoorGr
import Derived.Test.YtobhccmnlmlapaaGreatDoorQStU
namespace Go.Proofs.YtobhccmnlmlapaaGreatDoor
open Go.RowKit Go.Maps
set_option linter.unusedVariables false
set_option linter.unusedSimpArgs false
set_option maxRecDepth 100000

/-- A piece, and where its bytes lie. -/
structure Pc where
  g : Nat
  v : Value
  b : List UInt8
def cellsP (p : Pc) : List Value := [.int .i64 (p.g : Int), p.v]
theorem infoP : (Tryz.prog.info? 57).map (fun i => (i.zero, i.size, i.bytes)) = some (some (.agg #[.int .i64 0, .slice none 0 0]), 2, 32) := by kernel_rfl
/-- Pieces in a row of one's own. -/
structure OPc (w : World) (B : Nat) (u : Value) (ps : List Pc) : Prop where
  own : w.ownsRow B 57 2 u ps.length (ps.flatMap cellsP)
  byt : ∀ p ∈ ps, Wr.OL w B p.v p.b
  sep : ps.Pairwise fun p q => ∀ i, p.v.ownBlock = some i → q.v.ownBlock ≠ some i
  out : ∀ p ∈ ps, ∀ i, p.v.ownBlock = some i → u.ownBlock ≠ some i
theorem OPc.nil (w : World) (B : Nat) : OPc w B (.slice none 0 0) [] := ⟨World.ownsRow_nil _ _ _ _, (fun p h => by cases h), List.Pairwise.nil, (fun p h => by cases h)⟩
theorem OPc.later {w w' : World} {B : Nat} {u : Value} {ps : List Pc} (h : OPc w B u ps) (hb : Below w.heap.size w w') : OPc w' B u ps := ⟨own_later h.own hb, fun p hp => own_later (h.byt p hp) hb, h.sep, h.out⟩
/-- The bytes of what one group has. -/
theorem cx_map (ss : List Sh) : (cxs ss).map (·.c) = ces ss := by
  unfold cxs ces cesS
  rw [List.map_flatMap]
  congr 1
  funext s
  rw [List.map_map]
  rfl
theorem filt_map (l : List Cx) (g : Nat) : (l.filter (inG g)).map (·.c) = (l.map (·.c)).filter (fun c => grp c.key == g) := by
  rw [List.filter_map]; rfl
theorem group_of {ss : List Sh} {g : Nat} {f : List Cx} (ha : Apart (ces ss)) (hp : f.Perm ((cxs ss).filter (inG g))) (hs : AscC (f.map (·.c))) : f.map (·.c) = ofG (ces ss) g := by
  have h1 := hp.map (·.c)
  rw [filt_map, cx_map] at h1
  exact srt_of h1 (ha.filter _) hs
theorem encCe_len (c : Ce) (hk : vk c.key = true) (hg : GoodK c.key) (hw : kp c.w = true) (hd : c.d.length ≤ 67108864) : (encCe c).length + 24 ≤ 2 * wg c := by
  have h1 := encKey_len c.key hk hg
  obtain ⟨a1, a2, a3⟩ := (kp_iff c.w).1 hw
  have h2 := Wr.encInt_len (c.key.length : Int) (by omega) (by have := vk_len hk; omega)
  have h3 := Wr.encInt_len c.w.f (by omega) (by omega)
  have h4 := Wr.encInt_len c.w.t (by omega) (by omega)
  have h5 := Wr.encInt_len (c.d.length : Int) (by omega) (by omega)
  unfold encCe wg wgh
  simp only [List.length_append]
  omega
theorem body_len (l : List Ce) (h : ∀ c ∈ l, vk c.key = true ∧ GoodK c.key ∧ kp c.w = true) (hw : wt l ≤ 67108864) (hn : l ≠ []) : (encBody l).length ≤ 134217728 := by
  have hl : l.length ≤ 67108864 := by have := wt_len l; omega
  have h1 := Wr.encInt_len (l.length : Int) (by omega) (by omega)
  have h2 : (l.flatMap encCe).length + 24 * l.length ≤ 2 * wt l := by
    clear hl h1 hn
    induction l with
    | nil => simp [wt]
    | cons c l ih =>
      rw [List.flatMap_cons, List.length_append, wt_cons, List.length_cons]
      rw [wt_cons] at hw
      have a := encCe_len c (h c (by simp)).1 (h c (by simp)).2.1 (h c (by simp)).2.2 (by unfold wg wgh at hw; omega)
      have b := ih (fun c hc => h c (by simp [hc])) (by omega)
      omega
  have h3 : 0 < l.length := List.length_pos_iff.2 hn
  unfold encBody
  rw [List.length_append]
  omega
theorem OPc.more {w w' : World} {B : Nat} {u u' : Value} {ps : List Pc} {p : Pc} (h : OPc w B u ps) (hown : w'.ownsRow B 57 2 u' (ps.length + 1) (ps.flatMap cellsP ++ cellsP p)) (hg : w.grownBy w' u.ownBlock) (hat : u'.ownBlock = u.ownBlock ∨ u'.ownBlock = some w.heap.size) (hp : Wr.OL w B p.v p.b) (hnew : ∀ i, p.v.ownBlock = some i → (∀ q ∈ ps, q.v.ownBlock ≠ some i) ∧ u.ownBlock ≠ some i) : OPc w' B u' (ps ++ [p]) := by
  have lt : ∀ q ∈ ps, ∀ i, q.v.ownBlock = some i → i < w.heap.size := fun q hq i hi => (World.ownsRow.lt (h.byt q hq) i hi).2
  have ltp : ∀ i, p.v.ownBlock = some i → i < w.heap.size := fun i hi => (World.ownsRow.lt hp i hi).2
  refine ⟨?_, fun q hq => ?_, ?_, fun q hq i hi => ?_⟩
  · rw [List.length_append, List.flatMap_append]; simpa using hown
  · rcases List.mem_append.1 hq with hq | hq
    · exact own_grown (h.byt q hq) hg fun i hi e => h.out q hq i hi e.symm
    · rw [List.mem_singleton.1 hq]
      exact own_grown hp hg fun i hi e => (hnew i hi).2 e.symm
  · rw [List.pairwise_append]
    refine ⟨h.sep, by simp, fun a ha b hb i hi e => ?_⟩
    rw [List.mem_singleton.1 hb] at e
    exact (hnew i e).1 a ha hi
  · have hlt : i < w.heap.size := by
      rcases List.mem_append.1 hq with hq | hq
      · exact lt q hq i hi
      · rw [List.mem_singleton.1 hq] at hi; exact ltp i hi
    rcases hat with e | e
    · rw [e]
      rcases List.mem_append.1 hq with hq | hq
      · exact h.out q hq i hi
      · rw [List.mem_singleton.1 hq] at hi; exact (hnew i hi).2
    · rw [e]
      intro e2
      have := Option.some.inj e2
      omega
theorem saveP_take (l : List Ce) (k : Nat) : (List.range (k + 1)).filterMap (pcs l) = (List.range k).filterMap (pcs l) ++ (pcs l k).toList := by
  rw [List.range_succ, List.filterMap_append]
  have : List.filterMap (pcs l) [k] = (pcs l k).toList := by
    simp only [List.filterMap_cons, List.filterMap_nil]
    cases pcs l k <;> rfl
  rw [this]
/-- What Save gives. -/
def SavePost (w : World) (ss : List Sh) (e : Ending) (w' : World) : Prop := ∃ u ps, e = .returned u ∧ OPc w' w.heap.size u ps ∧ ps.map (fun p => (p.g, p.b)) = saveP (ces ss) ∧ Below w.heap.size w w'
set_option maxHeartbeats 2000000 in
theorem save_any (w : World) (B t mp : Nat) (lo hi : Int) (ss : List Sh) (h : PS w B t mp lo hi ss) (ht : Vl.Tab w) (hq : Wr.Quart w) :
    Calls Tryz.prog 9 #[.pointer (some ⟨t, 0, none⟩)] w (SavePost w ss) := by
  have HP := hidMk h
  have HQ := hidMk hq
  have HC := hidMk (byGroup_any w B t mp lo hi ss h ht)
  clear h ht hq
  go_enter Tryz.func9, Tryz.ntmps9
  go_wp2_with fail
  refine HC.out.mono ?_
  rintro e w1 ⟨vs, f, rfl, hl32, hrow, hf, hb1⟩
  have HR := hidMk hrow
  have HF := hidMk hf
  have B1 := hidMk hb1
  clear hrow hf hb1 HC
  go_wp2_with fail
  have HAp := hidMk HP.out.apart
  have HFk : Hid (∀ k, k < 32 → (f k).map (·.c) = ofG (ces ss) k) := fun k hk => group_of HAp.out (HF.out k hk).1 (HF.out k hk).2
  have HMem : Hid (∀ k, k < 32 → ∀ q ∈ f k, ∃ s ∈ ss, ∃ y ∈ s.ds, q = cxOf s y) := fun k hk q hq => by
    have h2 := (List.mem_filter.1 ((HF.out k hk).1.mem_iff.1 hq)).1
    obtain ⟨s, hs, h3⟩ := List.mem_flatMap.1 h2
    obtain ⟨y, hy, rfl⟩ := List.mem_map.1 h3
    exact ⟨s, hs, y, hy, rfl⟩
  have HSl : Hid (∀ k (hk : k < vs.length) W, Below w1.heap.size w1 W → f k ≠ [] → Calls Tryz.prog 32 #[vs[k]] W fun e w' => ∃ v', e = .returned v' ∧ Wr.OL w' W.heap.size v' (Wr.sealed (encBody (ofG (ces ss) k))) ∧ Below W.heap.size W w') := fun k hk W hW hne => by
    have hk' : k < 32 := by omega
    have bW : Below w.heap.size w W := B1.out.trans (hW.mono B1.out.size)
    have hfew : (f k).length ≤ 2097152 := by
      have h1 := (HF.out k hk').1.length_eq
      have h2 : ((cxs ss).filter (inG k)).length ≤ (cxs ss).length := List.length_filter_le _ _
      rw [cxs_len, ← ces_len] at h2
      have h4 := HP.out.cells_few
      omega
    have hal : ∀ c ∈ ofG (ces ss) k, vk c.key = true ∧ GoodK c.key ∧ kp c.w = true := fun c hc => by
      have hm := (ofG_mem.1 hc).1
      exact ⟨(HP.out.okC c hm).1, HP.out.good c hm, (HP.out.okC c hm).2.1⟩
    have hlen : (encBody ((f k).map (·.c))).length ≤ 134217728 := by
      rw [HFk.out k hk']
      refine body_len _ hal (Nat.le_trans (ofG_wt _ _) HP.out.wl) ?_
      rw [← HFk.out k hk']
      simpa using hne
    have := sealed_any W w.heap.size vs[k] (f k) (own_later (HR.out k hk) hW) (fun q hq => ?_) hlen (HQ.out.later bW) (by omega)
    · rw [HFk.out k hk'] at this; exact this
    · obtain ⟨s, hs, y, hy, rfl⟩ := HMem.out k hk' q hq
      have hk := HP.out.sho s hs
      obtain ⟨a, c, e, l, b⟩ := hk.key.form
      have ea : (cxOf s y).ka = a := by unfold cxOf; rw [e]
      obtain ⟨da, dc, hdv, hdb, -⟩ := (hk.dat y hy).1.conv
      obtain ⟨k1, k2, k3⟩ := (kp_iff y.w).1 (hk.dat y hy).2
      exact ⟨⟨by rw [ea]; exact l.later bW, hk.good, vk_len hk.val, da, dc, hdv, hdb.later bW⟩, ⟨by show -9223372036854775808 ≤ y.w.f; omega, by show y.w.f ≤ 9223372036854775807; omega⟩, ⟨by show -9223372036854775808 ≤ y.w.t; omega, by show y.w.t ≤ 9223372036854775807; omega⟩⟩
  obtain ⟨i0, hi0, hz0, hz1, hz2⟩ := info_parts infoP
  go_loopw [3, 8] (fun u i w' => ∃ (k : Nat) (ps : List Pc), k ≤ 32 ∧ i = .int .i64 (k : Int) ∧ OPc w' w1.heap.size u ps ∧ ps.map (fun p => (p.g, p.b)) = (List.range k).filterMap (pcs (ces ss)) ∧ ps.length ≤ k ∧ Below w1.heap.size w1 w') (fun _ i _ => 32 - (intOf i).toNat)
  case atStart => exact ⟨0, [], by omega, rfl, OPc.nil _ _, rfl, by simp, Below.refl _ _⟩
  case round =>
    obtain ⟨k, ps, hk, rfl, hop, hmp, hpl, hb⟩ := hrel
    have HOP := hidMk hop
    have HMP := hidMk hmp
    have BK := hidMk hb
    have hsz := hb.size
    clear hop hmp hb
    by_cases hlt : k < 32
    · have hkl : k < vs.length := by omega
      have hix := fun W => idx32 vs hl32 k hkl W
      have hki : (k : Int) < 32 := by omega
      obtain ⟨ca, cc, hvk⟩ := row_form (HR.out k hkl)
      by_cases h0 : f k = []
      · have hn : (f k).length = 0 := by rw [h0]; rfl
        have HN : Hid (ps.map (fun p => (p.g, p.b)) = (List.range (k + 1)).filterMap (pcs (ces ss))) := by
          rw [Hid, saveP_take, ← HMP.out]
          have : pcs (ces ss) k = none := by
            unfold pcs
            rw [if_pos (by rw [← HFk.out k hlt, h0]; rfl)]
          rw [this]; simp
        rw [hn] at hvk
        rw [hvk] at hix
        clear HSl
        go_wp2_with fail
        go_roundw
        case rel => exact ⟨k + 1, ps, by omega, by go_num, HOP.out, HN.out, by omega, BK.out⟩
        case measure => simp [intOf]; omega
      · have hn : 0 < (f k).length := List.length_pos_iff.2 h0
        have HCS := hidMk (HSl.out k hkl wr BK.out h0)
        rw [hvk] at HCS hix
        have hni : (0 : Int) < ((f k).length : Int) := by omega
        have HPK : Hid (pcs (ces ss) k = some (k, Wr.sealed (encBody (ofG (ces ss) k)))) := by
          unfold Hid pcs
          rw [if_neg (by rw [← HFk.out k hlt, List.length_map]; omega)]
        clear HSl
        go_wp2_with fail
        refine HCS.out.mono ?_
        rintro e w5 ⟨v5, rfl, o5, b5⟩
        have BW5 := hidMk (BK.out.trans (b5.mono hsz))
        have hs5 := b5.size
        obtain ⟨va, vc, hv5⟩ := row_form o5
        have hO5 : Wr.OL w5 w1.heap.size v5 (Wr.sealed (encBody (ofG (ces ss) k))) := by
          refine ⟨o5.1, ?_⟩
          rcases o5.2 with q | ⟨g', cap, cur, q1, q2, q3⟩
          · exact .inl q
          · exact .inr ⟨g', cap, cur, q1, Nat.le_trans hsz q2, q3⟩
        have HO5 := hidMk hO5
        have HN5 : Hid (∀ i, v5.ownBlock = some i → wr.heap.size ≤ i ∧ i < w5.heap.size) := fun i hi => World.ownsRow.lt o5 i hi
        have HP5 := hidMk (HOP.out.later b5)
        have HPL : Hid (∀ i, u3.ownBlock = some i → i < wr.heap.size) := fun i hi => (World.ownsRow.lt HOP.out.own i hi).2
        have HPB : Hid (∀ q ∈ ps, ∀ i, q.v.ownBlock = some i → i < wr.heap.size) := fun q hq i hi => (World.ownsRow.lt (HOP.out.byt q hq) i hi).2
        generalize (Wr.sealed (encBody (ofG (ces ss) k))) = SB at *
        clear o5 b5 hO5
        subst hv5
        go_wp2_with (first
          | (at_builtin; refine wpList_append_own_at _ rfl _ _ 42 rfl w1.heap.size 57 i0 _ 2 32 Tryz.underlying42 hi0 hz0 hz1 hz2 rfl (by decide) u3 ps.length (ps.flatMap cellsP) rfl (HP5.out.own.alloc _) ⟨w5.heap.size, 0, none⟩ 1 1 [.int .i64 (k : Int), .slice va SB.length vc] rfl rfl ?c1 ?c2 ?c3 ?c4 ?c5 ?_))
        case c1 =>
          exact World.news_of_block (cs := #[.int .i64 (k : Int), .slice va SB.length vc]) (heap_alloc_new w5 _)
        case c2 => intro u hu; simp at hu; rcases hu with rfl | rfl <;> rfl
        case c3 => unfold maxLen; omega
        case c4 => omega
        case c5 => simp; omega
        · intro u6 w6 o6 g6 _ hat6
          have hba : Below w5.heap.size w5 (w5.alloc (.cells #[.int .i64 (k : Int), .slice va SB.length vc] 57)) := bel1 _ _
          have HM : Hid (OPc w6 w1.heap.size u6 (ps ++ [⟨k, .slice va SB.length vc, SB⟩])) := (HP5.out.later hba).more (p := ⟨k, .slice va SB.length vc, SB⟩) o6 g6 (by simpa using hat6) (own_later HO5.out hba) (fun i hi => by
            have h1 := (HN5.out i hi).1
            refine ⟨fun q hq e => ?_, fun e => ?_⟩
            · have := HPB.out q hq i e; omega
            · have := HPL.out i e; omega)
          have HB6 : Hid (Below w1.heap.size w1 w6) := (BW5.out.alloc BW5.out.size _).grown g6 (by simp; omega) (fun j hj => (World.ownsRow.lt HP5.out.own j hj).1)
          have HMN : Hid ((ps ++ [(⟨k, .slice va SB.length vc, SB⟩ : Pc)]).map (fun p => (p.g, p.b)) = (List.range (k + 1)).filterMap (pcs (ces ss))) := by
            rw [Hid, saveP_take, HPK.out, List.map_append, HMP.out]; rfl
          clear o6 g6 hat6 hba
          go_wp2_with fail
          go_roundw
          case rel => exact ⟨k + 1, _, by omega, by go_num, HM.out, HMN.out, by simp; omega, HB6.out⟩
          case measure => simp [intOf]; omega
    · obtain rfl : k = 32 := by omega
      go_wp2_with fail
      go_ret
      refine ⟨u3, ps, rfl, ⟨?_, fun p hp => ?_, HOP.out.sep, HOP.out.out⟩, HMP.out, B1.out.trans (BK.out.mono B1.out.size)⟩
      · have r := HOP.out.own
        refine ⟨r.1, ?_⟩
        rcases r.2 with q | ⟨g', cap, cur, q1, q2, q3⟩
        · exact .inl q
        · exact .inr ⟨g', cap, cur, q1, Nat.le_trans B1.out.size q2, q3⟩
      · have r := HOP.out.byt p hp
        refine ⟨r.1, ?_⟩
        rcases r.2 with q | ⟨g', cap, cur, q1, q2, q3⟩
        · exact .inl q
        · exact .inr ⟨g', cap, cur, q1, Nat.le_trans B1.out.size q2, q3⟩
end Go.Proofs.YtobhccmnlmlapaaGreatDoor
