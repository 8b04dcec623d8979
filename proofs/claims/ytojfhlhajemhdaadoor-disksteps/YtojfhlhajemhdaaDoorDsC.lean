import Derived.Test.YtojfhlhajemhdaaDoorDsB
namespace Go.Proofs.YtojfhlhajemhdaaDoor
open Go.RowKit
set_option linter.unusedVariables false
set_option linter.unusedSimpArgs false
set_option maxRecDepth 100000

theorem zSl (w : World) : (zeroValue 26).run Tryd.prog w = .ok (.slice none 0 0) w := Tryd.zeroValue26 w
theorem infoS : (Tryd.prog.info? 9).map (fun i => (i.zero, i.size, i.bytes)) = some (some (.string ⟨#[]⟩), 1, 16) := by kernel_rfl
theorem PD.drew {w : World} {B d mb : Nat} {lv : Value} {fs : List Fl} (h : PD w B d mb lv fs) : PD w.drew B d mb lv fs := h.later ⟨rfl, rfl, rfl, Nat.le_refl _, fun _ _ => rfl⟩
theorem fnd_ent {fs : List Fl} {x : ByteArray} (h : x ∉ fs.map (·.nm)) : fnd (fs.map ent) x = none := fnd_none.2 (by rw [List.map_map]; exact h)
theorem fnd_at {fs : List Fl} {f : Fl} (hn : (fs.map (·.nm)).Nodup) (hf : f ∈ fs) : fnd (fs.map ent) f.nm = some (.slice f.pa f.bs.length f.pc) :=
  fnd_of (by rw [List.map_map]; exact hn) (List.mem_map.2 ⟨f, hf, rfl⟩)

set_option maxHeartbeats 1000000 in
theorem write_old (w : World) (B d mb : Nat) (lv : Value) (fs : List Fl) (nm : ByteArray) (v : Value) (h : PD w B d mb lv fs) (hnm : nm.size ≤ maxLen) (hin : nm ∈ fs.map (·.nm)) :
    Calls Tryd.prog 6 #[.pointer (some ⟨d, 0, none⟩), .string nm, v] w fun e w' => e = .returned (.iface 33 (.int .i64 6)) ∧ w' = w := by
  obtain ⟨c0, c1, f0, f1⟩ := h.cells
  obtain ⟨f, hf, rfl⟩ := List.mem_map.1 hin
  have hL := h.mp.look K9 Tryd.underlying47 (zSl w) f.nm hnm
  rw [fnd_at h.nodup hf] at hL
  simp only [sk, Option.getD_some, Option.isSome_some] at hL
  clear h hin hf
  generalize f.nm = nm at *
  go_enter Tryd.func6, Tryd.ntmps6
  go_wp2_with fail
  go_ret
  exact ⟨rfl, rfl⟩

theorem row_form {w : World} {B e size n : Nat} {v : Value} {xs : List Value} (h : w.ownsRow B e size v n xs) : ∃ a c, v = .slice a n c := by
  rcases h.2 with ⟨h1, h2⟩ | ⟨g, c, _, h1, _⟩
  · exact ⟨none, 0, by rw [h1, h2]⟩
  · exact ⟨_, _, h1⟩
theorem Gs.drew {S : Nat → Prop} {a b : World} (h : Gs S a.drew b) : Gs S a b := ⟨h.os, h.tape, h.output, h.size, h.block⟩
theorem put_new {fs : List Fl} {nm : ByteArray} {v : Value} (h : nm ∉ fs.map (·.nm)) : put (fs.map ent) nm v = fs.map ent ++ [(nm, v)] := by
  unfold put
  rw [if_neg (by rw [List.map_map]; exact h)]
theorem wrote {w w1 w2 w3 : World} {o : Obj} {B d mb : Nat} {lv lv' v' : Value} {fs : List Fl} {nm : ByteArray} {l : List UInt8} (la : Option Addr) (lc : Nat) (h0 : PD w B d mb lv fs) (hb : Below w.heap.size w w1) (hO : OL w1 w.heap.size v' l)
    (hM : MP w2 sk mb (put (fs.map ent) nm v')) (hg2 : w1.grownBy w2 (some mb)) (hown : w3.ownsRow B 9 1 lv' ((loose fs).length + 1) ((loose fs).map Value.string ++ [.string nm])) (hgrow : (w2.alloc o).grownBy w3 lv.ownBlock)
    (hat : lv'.ownBlock = lv.ownBlock ∨ lv'.ownBlock = some (w2.heap.size + 1)) (hin : nm ∉ fs.map (·.nm)) (hBw : B ≤ w.heap.size) :
    Gs (dS d mb lv) w (w3.setCell ⟨d, 1, none⟩ lv') ∧ ∃ lv'' pa pc, PD (w3.setCell ⟨d, 1, none⟩ lv') B d mb lv'' (fs ++ [⟨nm, l, true, pa, pc, la, lc⟩]) ∧ (∀ k, lv''.ownBlock = some k → lv.ownBlock = some k ∨ w.heap.size ≤ k) ∧ (∀ y, pa = some y → w.heap.size ≤ y.block) := by
  have hlt := h0.lt
  have hdl := (hlt d (.inl rfl)).2
  have hml := (hlt mb (.inr (.inl rfl))).2
  have s1 := hb.size
  have s2 := hg2.size
  have s3 := hgrow.size
  rw [World.size_alloc] at s3
  have h1 := h0.later hb
  have ga : w1.grownBy (w2.alloc o) (some mb) := grown_trans hg2 (World.grownBy_alloc w2 o _)
  have ow3 : Own w3 d 49 2 [.map (some mb), lv] := (h1.own.grown ga (fun e => h1.hd.2.2.1 (Option.some.inj e))).grown hgrow h1.hd.2.2.2.1
  obtain ⟨ow4, g4⟩ := ow3.put 1 lv'
  obtain ⟨a', c', rfl, hby, hc1, hc2⟩ := hO.conv
  have hfar : ∀ y, a' = some y → w.heap.size ≤ y.block ∧ y.block < w1.heap.size := fun y hy => World.ownsRow.lt hO y.block (by rw [hy]; rfl)
  have hnil : (a' = none → c' = 0) ∧ ∀ y, a' = some y → y.spot = none := by
    rcases hO.form with ⟨h, _⟩ | ⟨g, c, h, _⟩
    · injection h with h1 h2 h3
      exact ⟨fun _ => h3, fun y hy => by rw [h1] at hy; cases hy⟩
    · injection h with h1 h2 h3
      exact ⟨fun hn => (by rw [h1] at hn; cases hn), fun y hy => (by rw [h1] at hy; cases hy; rfl)⟩
  have hlb : ∀ k, lv'.ownBlock = some k → lv.ownBlock = some k ∨ w2.heap.size < k := fun k hk => by
    rcases hat with e | e
    · exact .inl (by rw [← e]; exact hk)
    · rw [e] at hk; have := Option.some.inj hk; exact .inr (by omega)
  have Gtot : Gs (dS d mb lv) w (w3.setCell ⟨d, 1, none⟩ lv') := by
    have q1 : Gs (dS d mb lv) w w1 := Gs.below hb
    have q2 : Gs (dS d mb lv) w1 (w2.alloc o) := Gs.one ga fun k hk => .inr (.inl (Option.some.inj hk).symm)
    have q3 : Gs (dS d mb lv) (w2.alloc o) w3 := Gs.one hgrow fun k hk => .inr (.inr hk.symm)
    have q4 : Gs (dS d mb lv) w3 (w3.setCell ⟨d, 1, none⟩ lv') := Gs.one g4 fun k hk => .inl (Option.some.inj hk).symm
    exact q1.trans (q2.trans (q3.trans q4))
  refine ⟨Gtot, lv', a', c', ⟨ow4, ?_, ?_, ?_, ?_, ?_⟩, fun k hk => (hlb k hk).imp_right (by omega), fun y hy => (hfar y hy).1⟩
  · rw [List.map_append]
    rw [put_new hin] at hM
    have k1 : MP (w2.alloc o) sk mb _ := hM.kept (World.grownBy_alloc w2 o none) (by simp)
    exact (k1.kept hgrow h1.hd.2.2.2.2).kept g4 (fun e => h1.hd.2.2.1 (Option.some.inj e).symm)
  · have e : loose (fs ++ [⟨nm, l, true, a', c', la, lc⟩]) = loose fs ++ [nm] := by unfold loose; rw [List.filter_append, List.map_append]; rfl
    rw [e, List.length_append, List.map_append]
    refine own_grown hown g4 fun k hk e => ?_
    have hkd : k = d := Option.some.inj e
    rcases hlb k hk with h | h
    · exact h1.hd.2.2.2.1 (by rw [h, hkd])
    · omega
  · intro f hf
    rcases List.mem_append.1 hf with hf | hf
    · refine ⟨Gtot.bytes (h0.by' f hf).1 fun x hx s => ?_, (h0.by' f hf).2⟩
      obtain ⟨_, _, a3, a4, a5⟩ := h0.ap f hf x hx
      rcases s with s | s | s
      · exact a3 s
      · exact a4 s
      · exact a5 s
    · obtain rfl := List.mem_singleton.1 hf
      refine ⟨?_, hc1, hnil⟩
      have q2 : Gs (fun k => dS d mb lv k) w1 (w2.alloc o) := Gs.one ga fun k hk => .inr (.inl (Option.some.inj hk).symm)
      have q3 : Gs (fun k => dS d mb lv k) (w2.alloc o) w3 := Gs.one hgrow fun k hk => .inr (.inr hk.symm)
      have q4 : Gs (fun k => dS d mb lv k) w3 (w3.setCell ⟨d, 1, none⟩ lv') := Gs.one g4 fun k hk => .inl (Option.some.inj hk).symm
      refine (q2.trans (q3.trans q4)).bytes hby fun x hx s => ?_
      have := hlt _ s
      have := hfar x hx
      omega
  · intro f hf y hy
    have hsz : (w3.setCell ⟨d, 1, none⟩ lv').heap.size = w3.heap.size := size_set _ _ _
    rw [hsz]
    rcases List.mem_append.1 hf with hf | hf
    · obtain ⟨a1, a2, a3, a4, a5⟩ := h0.ap f hf y hy
      refine ⟨a1, by omega, a3, a4, fun e => ?_⟩
      rcases hlb _ e.symm with h | h
      · exact a5 h.symm
      · omega
    · obtain rfl := List.mem_singleton.1 hf
      obtain ⟨b1, b2⟩ := hfar y hy
      refine ⟨by omega, by omega, by omega, by omega, fun e => ?_⟩
      rcases hlb _ e.symm with h | h
      · have := (hlt y.block (.inr (.inr h.symm))).2; omega
      · omega
  · refine ⟨h1.hd.1, h1.hd.2.1, h1.hd.2.2.1, fun e => ?_, fun e => ?_⟩
    · rcases hlb d e.symm with h | h
      · exact h1.hd.2.2.2.1 h.symm
      · omega
    · rcases hlb mb e.symm with h | h
      · exact h1.hd.2.2.2.2 h.symm
      · omega

set_option maxHeartbeats 4000000 in
theorem write_new (w : World) (B d mb : Nat) (lv : Value) (fs : List Fl) (nm : ByteArray) (a : Option Addr) (l : List UInt8) (c : Nat) (la : Option Addr) (lc : Nat) (h : PD w B d mb lv fs) (hnm : nm.size ≤ maxLen) (hin : nm ∉ fs.map (·.nm)) (hB : Bytes w a l.length (lat l)) (hl : l.length ≤ 140737488355328) (hn : fs.length ≤ 2513169434880) (hBw : B ≤ w.heap.size) :
    Calls Tryd.prog 6 #[.pointer (some ⟨d, 0, none⟩), .string nm, .slice a l.length c] w fun e w' => e = .returned .nilIface ∧ Gs (dS d mb lv) w w' ∧ ∃ lv' pa pc, PD w' B d mb lv' (fs ++ [⟨nm, l, true, pa, pc, la, lc⟩]) ∧ (∀ k, lv'.ownBlock = some k → lv.ownBlock = some k ∨ w.heap.size ≤ k) ∧ (∀ y, pa = some y → w.heap.size ≤ y.block) := by
  obtain ⟨c0, c1, f0, f1⟩ := h.cells
  have hL := h.mp.look K9 Tryd.underlying47 (zSl w) nm hnm
  rw [fnd_ent hin] at hL
  simp only [sk, Option.getD_none, Option.isSome_none] at hL
  have HP := hidMk h.drew
  have HC := hidMk (clone_any a l c w.drew hB hl)
  have HIN := hidMk hin
  have hMw : 2513169434880 < maxLen := by decide
  have hlo : (loose fs).length ≤ 2513169434880 := by
    unfold loose; rw [List.length_map]; exact Nat.le_trans (List.length_filter_le _ _) hn
  obtain ⟨i0, hi0, hz0, hz1, hz2⟩ := info_parts infoS
  clear h hB hin
  go_enter Tryd.func6, Tryd.ntmps6
  go_wp2_with fail
  have hlen : (fs.map ent).length < maxLen := by rw [List.length_map]; omega
  go_region_with (
    go_at_call 17
    refine HC.out.mono ?_
    rintro e w1 ⟨v', rfl, hO, hb⟩
    have HP1 := hidMk (HP.out.later hb)
    obtain ⟨w2, hr2, hm2, ht2⟩ := HP1.out.mp.store K9 Tryd.underlying47 nm hnm v' hlen
    have hr2' : (Instr.mapUpdate 47 (.map (some mb)) (.string nm) v').run Tryd.prog w1 = .ok () w2 := hr2
    have HM2 := hidMk hm2
    have HT2 := hidMk ht2
    have HB1 := hidMk hb
    have HO1 := hidMk hO
    have j0 : w1.cell? ⟨d, 0, none⟩ = some (.map (some mb)) := cell_later hb c0
    clear hb hO hm2 ht2 hr2)
  all_goals
    have hg2 := HT2.out.grown
    have HR2 : Hid (w2.ownsRow B 9 1 lv (loose fs).length ((loose fs).map Value.string)) := own_grown HP1.out.row hg2 fun g hg e => HP1.out.hd.2.2.2.2 (by rw [hg]; exact e.symm)
    have HO2 : Hid (Own w2 d 49 2 [.map (some mb), lv]) := HP1.out.own.grown hg2 (fun e => HP1.out.hd.2.2.1 (Option.some.inj e))
    have k1 : w2.cell? ⟨d, 1, none⟩ = some lv := (HO2.out.cell 1 (by decide)).trans rfl
    have hBB : B ≤ w2.heap.size := Nat.le_trans hBw (Nat.le_trans HB1.out.size hg2.size)
    have HG2 := hidMk hg2
    clear hg2
    go_wp2_with (first
      | (at_builtin; refine wpList_append_own_at _ rfl _ _ 43 rfl B 9 i0 (.string ⟨#[]⟩) 1 16 Tryd.underlying43 hi0 hz0 hz1 hz2 rfl (by decide) _ (loose fs).length ((loose fs).map Value.string) rfl (World.ownsRow.alloc HR2.out _) ⟨w2.heap.size, 0, none⟩ 1 1 [.string nm] rfl rfl ?c1 ?c2 ?c3 ?c4 ?c5 ?_))
    case c1 =>
      intro j u hj
      match j, hj with
      | 0, hj => simp at hj; subst hj; simp [Addr.add]
    case c2 => intro u hu; simp at hu; subst hu; rfl
    case c3 => unfold maxLen; omega
    case c4 => omega
    case c5 => rw [World.size_alloc]; omega
    · intro lv' w3 hown' hgrow _ hat
      have ow3 : Own w3 d 49 2 [.map (some mb), lv] := (HO2.out.grown (World.grownBy_alloc w2 _ none) (by simp)).grown hgrow HP1.out.hd.2.2.2.1
      have k2 : w3.cell? ⟨d, 1, none⟩ = some lv := (ow3.cell 1 (by decide)).trans rfl
      have k3 : w3.frozen? ⟨d, 1, none⟩ = false := ow3.soft 1
      have HF := hidMk (wrote la lc HP.out HB1.out HO1.out HM2.out HG2.out hown' hgrow hat HIN.out hBw)
      obtain ⟨a3, c3, rfl⟩ : ∃ a3 c3, lv' = .slice a3 ((loose fs).length + 1) c3 := row_form hown'
      clear ow3 hown' hgrow hat
      go_wp2_with fail
      go_ret
      exact ⟨rfl, HF.out.1.drew, HF.out.2⟩
end Go.Proofs.YtojfhlhajemhdaaDoor
