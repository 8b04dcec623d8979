import Derived.Test.YtplaplhmjpfbjaaGreatDoorXpD
namespace Go.Proofs.YtplaplhmjpfbjaaGreatDoor
open Go.RowKit
set_option linter.unusedVariables false
set_option linter.unusedSimpArgs false
set_option maxRecDepth 100000

attribute [local go_sem] bodyPost_pan
theorem xent {f : FuncId} {fn : Func} {c : Code} (hf : Tryz.prog.funcs[f]? = some fn) (hname : (fn.name == "runtime.NumGoroutine") = false) (hb : fn.body = some c) (args : Array Value) (w : World) :
    (callFunc f args).run Tryz.prog w = .ok (.enter f args) w := by
  have h1 : fn.name ≠ "runtime.NumGoroutine" := by simpa using hname
  simp [callFunc, hf, h1, hb]

theorem ent_and (a : Array Value) (W : World) : (callFunc 90 a).run Tryz.prog W = .ok (.enter 90 a) W := xent Tryz.func90 (by kernel_rfl) (by rfl) a W
set_option maxHeartbeats 2000000 in
theorem or_any {L : ByteArray → Int → Int → ByteArray → Prop} {G : World → Prop} {g E n : Nat} (hL : OneL L) (hG : ∀ W W', G W → W.grownBy W' (some g) → G W') (hP : Rdr L G g E 90 1 n) : Rdr L G g E 83 0 n := by
  intro ts lev w hn hf h hw
  have HJ : Hid (Calls Tryz.prog 89 #[.pointer (some ⟨g, 0, none⟩), .int .i64 0, .func (.func 90) #[.pointer (some ⟨g, 0, none⟩)] #[]] w (PPost L w g E (.D 0) lev ts)) :=
    joined_any hL hG E _ 0 (by unfold jr; omega) ts lev w ent_and (fun ts' lev' W h1 => hP ts' lev' W (by omega)) hf h hw
  have hmf := xmf
  clear hL hG hP hf h hw
  go_enter Tryz.func83, Tryz.ntmps83
  go_wp2_with fail
  refine HJ.out.mono ?_
  intro e w1 hpp
  have HPP : Hid (PPost L w g E (.D 0) lev ts e w1) := hpp
  rcases hpp.iface with ⟨_, x, ts1, t, p, _, rfl, _, _⟩ | ⟨_, f, _, rfl⟩
  · clear hpp
    go_wp2_with fail
    go_ret
    exact HPP.out
  · exact ⟨rfl, HPP.out⟩

theorem ent_not (a : Array Value) (W : World) : (callFunc 101 a).run Tryz.prog W = .ok (.enter 101 a) W := xent Tryz.func101 (by kernel_rfl) (by rfl) a W
set_option maxHeartbeats 2000000 in
theorem and_any {L : ByteArray → Int → Int → ByteArray → Prop} {G : World → Prop} {g E n : Nat} (hL : OneL L) (hG : ∀ W W', G W → W.grownBy W' (some g) → G W') (hP : Rdr L G g E 101 2 n) : Rdr L G g E 90 1 n := by
  intro ts lev w hn hf h hw
  have HJ : Hid (Calls Tryz.prog 89 #[.pointer (some ⟨g, 0, none⟩), .int .i64 1, .func (.func 101) #[.pointer (some ⟨g, 0, none⟩)] #[]] w (PPost L w g E (.D 1) lev ts)) :=
    joined_any hL hG E _ 1 (by unfold jr; omega) ts lev w ent_not (fun ts' lev' W h1 => hP ts' lev' W (by omega)) hf h hw
  have hmf := xmf
  clear hL hG hP hf h hw
  go_enter Tryz.func90, Tryz.ntmps90
  go_wp2_with fail
  refine HJ.out.mono ?_
  intro e w1 hpp
  have HPP : Hid (PPost L w g E (.D 1) lev ts e w1) := hpp
  rcases hpp.iface with ⟨_, x, ts1, t, p, _, rfl, _, _⟩ | ⟨_, f, _, rfl⟩
  · clear hpp
    go_wp2_with fail
    go_ret
    exact HPP.out
  · exact ⟨rfl, HPP.out⟩

theorem ent_product (a : Array Value) (W : World) : (callFunc 143 a).run Tryz.prog W = .ok (.enter 143 a) W := xent Tryz.func143 (by kernel_rfl) (by rfl) a W
set_option maxHeartbeats 2000000 in
theorem sum_any {L : ByteArray → Int → Int → ByteArray → Prop} {G : World → Prop} {g E n : Nat} (hL : OneL L) (hG : ∀ W W', G W → W.grownBy W' (some g) → G W') (hP : Rdr L G g E 143 5 n) : Rdr L G g E 131 4 n := by
  intro ts lev w hn hf h hw
  have HJ : Hid (Calls Tryz.prog 89 #[.pointer (some ⟨g, 0, none⟩), .int .i64 4, .func (.func 143) #[.pointer (some ⟨g, 0, none⟩)] #[]] w (PPost L w g E (.D 4) lev ts)) :=
    joined_any hL hG E _ 4 (by unfold jr; omega) ts lev w ent_product (fun ts' lev' W h1 => hP ts' lev' W (by omega)) hf h hw
  have hmf := xmf
  clear hL hG hP hf h hw
  go_enter Tryz.func131, Tryz.ntmps131
  go_wp2_with fail
  refine HJ.out.mono ?_
  intro e w1 hpp
  have HPP : Hid (PPost L w g E (.D 4) lev ts e w1) := hpp
  rcases hpp.iface with ⟨_, x, ts1, t, p, _, rfl, _, _⟩ | ⟨_, f, _, rfl⟩
  · clear hpp
    go_wp2_with fail
    go_ret
    exact HPP.out
  · exact ⟨rfl, HPP.out⟩

theorem ent_minus (a : Array Value) (W : World) : (callFunc 154 a).run Tryz.prog W = .ok (.enter 154 a) W := xent Tryz.func154 (by kernel_rfl) (by rfl) a W
set_option maxHeartbeats 2000000 in
theorem product_any {L : ByteArray → Int → Int → ByteArray → Prop} {G : World → Prop} {g E n : Nat} (hL : OneL L) (hG : ∀ W W', G W → W.grownBy W' (some g) → G W') (hP : Rdr L G g E 154 6 n) : Rdr L G g E 143 5 n := by
  intro ts lev w hn hf h hw
  have HJ : Hid (Calls Tryz.prog 89 #[.pointer (some ⟨g, 0, none⟩), .int .i64 5, .func (.func 154) #[.pointer (some ⟨g, 0, none⟩)] #[]] w (PPost L w g E (.D 5) lev ts)) :=
    joined_any hL hG E _ 5 (by unfold jr; omega) ts lev w ent_minus (fun ts' lev' W h1 => hP ts' lev' W (by omega)) hf h hw
  have hmf := xmf
  clear hL hG hP hf h hw
  go_enter Tryz.func143, Tryz.ntmps143
  go_wp2_with fail
  refine HJ.out.mono ?_
  intro e w1 hpp
  have HPP : Hid (PPost L w g E (.D 5) lev ts e w1) := hpp
  rcases hpp.iface with ⟨_, x, ts1, t, p, _, rfl, _, _⟩ | ⟨_, f, _, rfl⟩
  · clear hpp
    go_wp2_with fail
    go_ret
    exact HPP.out
  · exact ⟨rfl, HPP.out⟩

theorem xgFroz {w w' : World} {a : Addr} {r : Option Nat} (hg : w.grownBy w' r) (ha : a.block < w.heap.size) (h : w.frozen? a = false) (hne : some a.block ≠ r) : w'.frozen? a = false := by
  have := hg.block a.block ha hne
  unfold World.frozen? at h ⊢
  rw [this]
  exact h
set_option maxHeartbeats 4000000 in
theorem behind_any {L : ByteArray → Int → Int → ByteArray → Prop} {G : World → Prop} {g : Nat} (hL : OneL L) (hG : ∀ W W', G W → W.grownBy W' (some g) → G W') (E fn r : Nat) (s : ByteArray) (hr : pr r s) (t : Tk) (ts : List Tk) (lev : Nat) (w : World) (hts : t.tx = s) (hent : ∀ (a : Array Value) (W : World), (callFunc fn a).run Tryz.prog W = .ok (.enter fn a) W) (hP : Rdr L G g E fn r ts.length) (hf : Few (t :: ts)) (h : PS w g E (t :: ts) lev) (hw : G w) :
    Calls Tryz.prog 105 #[.pointer (some ⟨g, 0, none⟩), .int .i64 r, .func (.func fn) #[.pointer (some ⟨g, 0, none⟩)] #[]] w (PPost L w g E (.D r) lev (t :: ts)) := by
  have HP : Hid (Rdr L G g E fn r ts.length) := hP
  have HG : Hid (∀ W W', G W → W.grownBy W' (some g) → G W') := hG
  have HF : Hid (Few ts) := fun x hx => hf x (by simp [hx])
  have HJ : Hid (pr r s) := hr
  have HLL : Hid (OneL L) := hL
  have HTS : Hid (t.tx = s) := hts
  have H : Hid (PS w g E (t :: ts) lev) := h
  have HW : Hid (G w) := hw
  have HR : Hid ((t.tx = bNot ∧ (r : Int) = 2) ∨ (t.tx = bMinus ∧ (r : Int) = 6)) := by
    unfold Hid
    rcases hr with ⟨rfl, rfl⟩ | ⟨rfl, rfl⟩
    · exact .inl ⟨hts, rfl⟩
    · exact .inr ⟨hts, rfl⟩
  have hgl := h.lt
  have hgw : g ≤ w.heap.size - 1 := by omega
  have hgw0 : 0 < w.heap.size := by omega
  clear hP hG hf hr h hw hL hts
  go_enter Tryz.func105, Tryz.ntmps105
  go_wp2_with fail
  refine (take_any g E lev (t :: ts) _ H.out).mono ?_
  rintro e w1 ⟨rfl, hg1, hp1⟩
  have B4 : Hid (PS w1 g E ts lev) := hp1
  have B5 : Hid (w.grownBy w1 (some g)) := hg1
  have hgl1 := hp1.lt
  clear hg1 hp1 H
  rw [show hd E (t :: ts) = t from rfl]
  unfold tkV
  go_wp2_with fail
  have s0 : (w1.alloc (.cells #[.int .i64 t.pl, .int .i64 t.kd, .string t.tx] 168)).cell? ⟨w1.heap.size, 0, none⟩ = some (.int .i64 t.pl) := by go_simp
  have s1 : (w1.alloc (.cells #[.int .i64 t.pl, .int .i64 t.kd, .string t.tx] 168)).cell? ⟨w1.heap.size, 1, none⟩ = some (.int .i64 t.kd) := by go_simp
  have s2 : (w1.alloc (.cells #[.int .i64 t.pl, .int .i64 t.kd, .string t.tx] 168)).cell? ⟨w1.heap.size, 2, none⟩ = some (.string t.tx) := by go_simp
  have C4 : Hid (PS (w1.alloc (.cells #[.int .i64 t.pl, .int .i64 t.kd, .string t.tx] 168)) g E ts lev) := B4.out.later (xbel1 _ _)
  have C5 : Hid (w.grownBy (w1.alloc (.cells #[.int .i64 t.pl, .int .i64 t.kd, .string t.tx] 168)) (some g)) := xgTrans B5.out (xgBelow (xbel1 _ _))
  clear B4 B5
  refine (enter_any g E lev ts t _ C4.out).mono ?_
  rintro e w2 ⟨hg2, hp2⟩
  have hne : some w1.heap.size ≠ some g := fun e => by have := Option.some.inj e; omega
  replace s0 := hg2.cell s0 hne
  replace s1 := hg2.cell s1 hne
  replace s2 := hg2.cell s2 hne
  generalize w1.heap.size = b8 at *
  by_cases hl : lev = 12
  · rw [if_pos hl] at hp2
    subst hp2
    subst hl
    exact ⟨rfl, xgTrans C5.out hg2, .error ⟨t.pl, 4⟩, .pdeep HJ.out HTS.out, rfl⟩
  · rw [if_neg hl] at hp2
    obtain ⟨rfl, hp2⟩ := hp2
    have D4 : Hid (PS w2 g E ts (lev + 1)) := hp2
    have D5 : Hid (w.grownBy w2 (some g)) := xgTrans C5.out hg2
    have D6 : Hid (G w2) := HG.out _ _ HW.out D5.out
    have HLV : Hid (lev ≠ 12) := hl
    have hgl2 := hp2.lt
    have hbl2 := World.block_lt_of_cell? _ _ s0
    clear hg2 hp2 hl C4 C5 hgl1 HW
    obtain ⟨o, ho⟩ := HP.out.exi (Nat.le_refl _) HF.out D4.out D6.out
    have hb82 : ¬ b8 = w2.heap.size := by simp only at hbl2; omega
    have hb28 : ¬ w2.heap.size = b8 := by simp only at hbl2; omega
    have hn2 : some w2.heap.size ≠ some g := fun e => by have := Option.some.inj e; omega
    cases o with
    | error f =>
      have HO : Hid (Ps L E (.D r) (lev + 1) ts (.error f)) := ho
      clear ho
      have HB : Hid (∀ W, Below w2.heap.size w2 W → Calls Tryz.prog fn #[.pointer (some ⟨g, 0, none⟩)] W fun e w' => W.grownBy w' (some g) ∧ e = .panicked [{ v := fltV f.pl f.why, recovered := false }]) := fun W hW => Rdr.bad HLL.out HP.out HO.out W (Nat.le_refl _) HF.out (D4.out.later hW) (HG.out _ _ D6.out (xgBelow hW))
      have FIN : Hid (∀ W w5, Below w2.heap.size w2 W → W.grownBy w5 (some g) → PPost L w g E (.D r) lev (t :: ts) (.panicked [{ v := fltV f.pl f.why, recovered := false }]) w5) := fun W w5 hW hg5 => ⟨xgTrans D5.out (xgTrans (xgBelow hW) hg5), .error f, .pbad HJ.out HTS.out HLV.out HO.out, rfl⟩
      go_wp2_with fail
      refine wp_region_any (by kernel_rfl) ?_
      change wpAny _ _ _ _ _ _ _ (World.drew _)
      refine wpAny_take (i := 1) (v := .int .i64 r) rfl (by kernel_rfl) (by kernel_rfl) (by kernel_rfl) (fun _ _ _ h => h) (Or.inl ⟨by rfl, ?_⟩) ?_
      · intro w; go_simp
      refine wpAny_take (i := 2) (v := .func (.func fn) #[.pointer (some ⟨g, 0, none⟩)] #[]) rfl (by kernel_rfl) (by kernel_rfl) (by kernel_rfl) (fun _ _ _ h => h) (Or.inl ⟨by rfl, ?_⟩) ?_
      · intro w; go_simp
      refine wpAny_ready (rs := [0, 3, 5]) (by kernel_rfl) (by simp) ?_
      refine AllReady.cons rfl (fun K hK => ?_) ?_
      · go_simp
        refine hK _ _ ?_
        clear hK K
        refine wpAny_ready (rs := [3, 5]) (by kernel_rfl) (by simp) ?_
        refine AllReady.cons rfl (fun K hK => ?_) ?_
        · go_simp
          refine (HB.out _ (Below.refl _ _).drew).mono ?_
          rintro e w5 ⟨hg5, rfl⟩
          exact FIN.out _ w5 (Below.refl _ _).drew hg5
        refine AllReady.cons rfl (fun K hK => ?_) AllReady.nil
        go_simp
        refine hK _ _ ?_
        clear hK K
        refine wpAny_ready (rs := [3]) (by kernel_rfl) (by simp) ?_
        refine AllReady.cons rfl (fun K hK => ?_) AllReady.nil
        go_simp
        refine (HB.out _ (xbel1 w2 _).drew).mono ?_
        rintro e w5 ⟨hg5, rfl⟩
        exact FIN.out _ w5 (xbel1 w2 _).drew hg5
      refine AllReady.cons rfl (fun K hK => ?_) ?_
      · go_simp
        refine (HB.out _ (Below.refl _ _).drew).mono ?_
        rintro e w5 ⟨hg5, rfl⟩
        exact FIN.out _ w5 (Below.refl _ _).drew hg5
      refine AllReady.cons rfl (fun K hK => ?_) AllReady.nil
      go_simp
      refine hK _ _ ?_
      clear hK K
      refine wpAny_ready (rs := [0, 3]) (by kernel_rfl) (by simp) ?_
      refine AllReady.cons rfl (fun K hK => ?_) ?_
      · go_simp
        refine hK _ _ ?_
        clear hK K
        refine wpAny_ready (rs := [3]) (by kernel_rfl) (by simp) ?_
        refine AllReady.cons rfl (fun K hK => ?_) AllReady.nil
        go_simp
        refine (HB.out _ (xbel1 w2 _).drew).mono ?_
        rintro e w5 ⟨hg5, rfl⟩
        exact FIN.out _ w5 (xbel1 w2 _).drew hg5
      refine AllReady.cons rfl (fun K hK => ?_) AllReady.nil
      go_simp
      refine (HB.out _ (xbel1 w2 _).drew).mono ?_
      rintro e w5 ⟨hg5, rfl⟩
      exact FIN.out _ w5 (xbel1 w2 _).drew hg5
    | ok q =>
      obtain ⟨y, ts5⟩ := q
      have HO : Hid (Ps L E (.D r) (lev + 1) ts (.ok (y, ts5))) := ho
      clear ho
      go_wp2_with fail
      go_region_held3 (fun w' => w'.cell? ⟨b8, 0, none⟩ = some (.int .i64 t.pl) ∧ w'.cell? ⟨b8, 1, none⟩ = some (.int .i64 t.kd) ∧ w'.cell? ⟨b8, 2, none⟩ = some (.string t.tx))
        (first | go_keep)
        (first | (go_at_call 129; refine (newPrefix_any t r _ _ w5 HR.out).mono ?_; rintro e w6 ⟨hb6, v6, rfl, n6⟩; have q0 := xcell hb6 r0; have qf0 := xfroz hb6 rl rf0; have q1 := xcell hb6 r1; have qf1 := xfroz hb6 rl rf1; have q2 := xcell hb6 r2; have qf2 := xfroz hb6 rl rf2; have q3 := xcell hb6 r3; have qf3 := xfroz hb6 rl rf3; have q4 := xcell hb6 r4; have qf4 := xfroz hb6 rl rf4; have q5 := xcell hb6 r5; have qf5 := xfroz hb6 rl rf5; have q6 := xcell hb6 r6; have qf6 := xfroz hb6 rl rf6; have s0 : w6.cell? ⟨b8, 0, none⟩ = some (.int .i64 t.pl) := xcell hb6 s0; have s1 : w6.cell? ⟨b8, 1, none⟩ = some (.int .i64 t.kd) := xcell hb6 s1; have s2 : w6.cell? ⟨b8, 2, none⟩ = some (.string t.tx) := xcell hb6 s2; obtain ⟨ta, tn, tc, fn6, fc, pa, pn, pc, rfl⟩ := n6.form; have hs6 := World.block_lt_of_cell? _ _ s0; have hb86 : ¬ b8 = w6.heap.size := Nat.ne_of_lt hs6; have hb68 : ¬ w6.heap.size = b8 := Nat.ne_of_gt hs6; have hl6 := World.block_lt_of_cell? _ _ q0) | (go_at_call 129; refine (newPrefix_any t r _ _ (w5.alloc (.cells #[.int .i64 0, .slice none 0 0, .int .i64 0, .nilFunc, .slice none 0 0, .string ⟨#[]⟩, .int .i64 0] 199)) HR.out).mono ?_; rintro e w6 ⟨hb6, v6, rfl, n6⟩; have q0 : w6.cell? ⟨w5.heap.size, 0, none⟩ = some (.int .i64 0) := xcell hb6 (by go_simp); have qf0 : w6.frozen? ⟨w5.heap.size, 0, none⟩ = false := xfroz hb6 (by simp) (by go_simp); have q1 : w6.cell? ⟨w5.heap.size, 1, none⟩ = some (.slice none 0 0) := xcell hb6 (by go_simp); have qf1 : w6.frozen? ⟨w5.heap.size, 1, none⟩ = false := xfroz hb6 (by simp) (by go_simp); have q2 : w6.cell? ⟨w5.heap.size, 2, none⟩ = some (.int .i64 0) := xcell hb6 (by go_simp); have qf2 : w6.frozen? ⟨w5.heap.size, 2, none⟩ = false := xfroz hb6 (by simp) (by go_simp); have q3 : w6.cell? ⟨w5.heap.size, 3, none⟩ = some (.nilFunc) := xcell hb6 (by go_simp); have qf3 : w6.frozen? ⟨w5.heap.size, 3, none⟩ = false := xfroz hb6 (by simp) (by go_simp); have q4 : w6.cell? ⟨w5.heap.size, 4, none⟩ = some (.slice none 0 0) := xcell hb6 (by go_simp); have qf4 : w6.frozen? ⟨w5.heap.size, 4, none⟩ = false := xfroz hb6 (by simp) (by go_simp); have q5 : w6.cell? ⟨w5.heap.size, 5, none⟩ = some (.string ⟨#[]⟩) := xcell hb6 (by go_simp); have qf5 : w6.frozen? ⟨w5.heap.size, 5, none⟩ = false := xfroz hb6 (by simp) (by go_simp); have q6 : w6.cell? ⟨w5.heap.size, 6, none⟩ = some (.int .i64 0) := xcell hb6 (by go_simp); have qf6 : w6.frozen? ⟨w5.heap.size, 6, none⟩ = false := xfroz hb6 (by simp) (by go_simp); have s0 : w6.cell? ⟨b8, 0, none⟩ = some (.int .i64 t.pl) := xcell hb6 (xcell (xbel1 w5 _) s0); have s1 : w6.cell? ⟨b8, 1, none⟩ = some (.int .i64 t.kd) := xcell hb6 (xcell (xbel1 w5 _) s1); have s2 : w6.cell? ⟨b8, 2, none⟩ = some (.string t.tx) := xcell hb6 (xcell (xbel1 w5 _) s2); obtain ⟨ta, tn, tc, fn6, fc, pa, pn, pc, rfl⟩ := n6.form; have hs6 := World.block_lt_of_cell? _ _ s0; have hb86 : ¬ b8 = w6.heap.size := Nat.ne_of_lt hs6; have hb68 : ¬ w6.heap.size = b8 := Nat.ne_of_gt hs6; have hl6 := World.block_lt_of_cell? _ _ q0) | (go_at_call 129; refine (newPrefix_any t r _ _ w5 HR.out).mono ?_; rintro e w6 ⟨hb6, v6, rfl, n6⟩; have s0 : w6.cell? ⟨b8, 0, none⟩ = some (.int .i64 t.pl) := xcell hb6 s0; have s1 : w6.cell? ⟨b8, 1, none⟩ = some (.int .i64 t.kd) := xcell hb6 s1; have s2 : w6.cell? ⟨b8, 2, none⟩ = some (.string t.tx) := xcell hb6 s2; obtain ⟨ta, tn, tc, fn6, fc, pa, pn, pc, rfl⟩ := n6.form; have hs6 := World.block_lt_of_cell? _ _ s0; have hb86 : ¬ b8 = w6.heap.size := Nat.ne_of_lt hs6; have hb68 : ¬ w6.heap.size = b8 := Nat.ne_of_gt hs6; skip) | (refine (Rdr.ok HLL.out HP.out HO.out (w2.alloc (.cells #[.int .i64 0, .slice none 0 0, .int .i64 0, .nilFunc, .slice none 0 0, .string ⟨#[]⟩, .int .i64 0] 199)).drew (Nat.le_refl _) HF.out (D4.out.later (xbel1 w2 _).drew) (HG.out _ _ D6.out (xgBelow (xbel1 w2 _).drew))).mono ?_; rintro e w5 ⟨hg5, t5, p5, rfl, n5y, ps5⟩; have r0 : w5.cell? ⟨w2.heap.size, 0, none⟩ = some (.int .i64 0) := hg5.cell (by go_simp) hn2; have rf0 : w5.frozen? ⟨w2.heap.size, 0, none⟩ = false := xgFroz hg5 (by simp) (by go_simp) hn2; have r1 : w5.cell? ⟨w2.heap.size, 1, none⟩ = some (.slice none 0 0) := hg5.cell (by go_simp) hn2; have rf1 : w5.frozen? ⟨w2.heap.size, 1, none⟩ = false := xgFroz hg5 (by simp) (by go_simp) hn2; have r2 : w5.cell? ⟨w2.heap.size, 2, none⟩ = some (.int .i64 0) := hg5.cell (by go_simp) hn2; have rf2 : w5.frozen? ⟨w2.heap.size, 2, none⟩ = false := xgFroz hg5 (by simp) (by go_simp) hn2; have r3 : w5.cell? ⟨w2.heap.size, 3, none⟩ = some (.nilFunc) := hg5.cell (by go_simp) hn2; have rf3 : w5.frozen? ⟨w2.heap.size, 3, none⟩ = false := xgFroz hg5 (by simp) (by go_simp) hn2; have r4 : w5.cell? ⟨w2.heap.size, 4, none⟩ = some (.slice none 0 0) := hg5.cell (by go_simp) hn2; have rf4 : w5.frozen? ⟨w2.heap.size, 4, none⟩ = false := xgFroz hg5 (by simp) (by go_simp) hn2; have r5 : w5.cell? ⟨w2.heap.size, 5, none⟩ = some (.string ⟨#[]⟩) := hg5.cell (by go_simp) hn2; have rf5 : w5.frozen? ⟨w2.heap.size, 5, none⟩ = false := xgFroz hg5 (by simp) (by go_simp) hn2; have r6 : w5.cell? ⟨w2.heap.size, 6, none⟩ = some (.int .i64 0) := hg5.cell (by go_simp) hn2; have rf6 : w5.frozen? ⟨w2.heap.size, 6, none⟩ = false := xgFroz hg5 (by simp) (by go_simp) hn2; have rl : w2.heap.size < w5.heap.size := World.block_lt_of_cell? _ _ r0; have s0 : w5.cell? ⟨b8, 0, none⟩ = some (.int .i64 t.pl) := hg5.cell (xcell (xbel1 w2 _).drew s0) hne; have s1 : w5.cell? ⟨b8, 1, none⟩ = some (.int .i64 t.kd) := hg5.cell (xcell (xbel1 w2 _).drew s1) hne; have s2 : w5.cell? ⟨b8, 2, none⟩ = some (.string t.tx) := hg5.cell (xcell (xbel1 w2 _).drew s2) hne; have hg5l := ps5.lt; have hs5 := World.block_lt_of_cell? _ _ s0; have hb85 : ¬ b8 = w5.heap.size := Nat.ne_of_lt hs5; have hb58 : ¬ w5.heap.size = b8 := Nat.ne_of_gt hs5) | (refine (Rdr.ok HLL.out HP.out HO.out w2.drew (Nat.le_refl _) HF.out (D4.out.later (Below.refl _ _).drew) (HG.out _ _ D6.out (xgBelow (Below.refl _ _).drew))).mono ?_; rintro e w5 ⟨hg5, t5, p5, rfl, n5y, ps5⟩; have s0 : w5.cell? ⟨b8, 0, none⟩ = some (.int .i64 t.pl) := hg5.cell (xcell (Below.refl _ _).drew s0) hne; have s1 : w5.cell? ⟨b8, 1, none⟩ = some (.int .i64 t.kd) := hg5.cell (xcell (Below.refl _ _).drew s1) hne; have s2 : w5.cell? ⟨b8, 2, none⟩ = some (.string t.tx) := hg5.cell (xcell (Below.refl _ _).drew s2) hne; have hg5l := ps5.lt; have hs5 := World.block_lt_of_cell? _ _ s0; have hb85 : ¬ b8 = w5.heap.size := Nat.ne_of_lt hs5; have hb58 : ¬ w5.heap.size = b8 := Nat.ne_of_gt hs5))
      · have hb7 := xbel1 w6 (.cells #[.int .i64 t.pl, .slice ta tn tc, .int .i64 (opPre t.tx).2, .func (.func fn6) #[] fc, .slice pa pn pc, .string t.tx, .int .i64 (preRank t.tx)] 199)
        have c0 : (w6.alloc (.cells #[.int .i64 t.pl, .slice ta tn tc, .int .i64 (opPre t.tx).2, .func (.func fn6) #[] fc, .slice pa pn pc, .string t.tx, .int .i64 (preRank t.tx)] 199)).cell? ⟨w6.heap.size, 0, none⟩ = some (.int .i64 t.pl) := by go_simp
        have c1 : (w6.alloc (.cells #[.int .i64 t.pl, .slice ta tn tc, .int .i64 (opPre t.tx).2, .func (.func fn6) #[] fc, .slice pa pn pc, .string t.tx, .int .i64 (preRank t.tx)] 199)).cell? ⟨w6.heap.size, 1, none⟩ = some (.slice ta tn tc) := by go_simp
        have c2 : (w6.alloc (.cells #[.int .i64 t.pl, .slice ta tn tc, .int .i64 (opPre t.tx).2, .func (.func fn6) #[] fc, .slice pa pn pc, .string t.tx, .int .i64 (preRank t.tx)] 199)).cell? ⟨w6.heap.size, 2, none⟩ = some (.int .i64 (opPre t.tx).2) := by go_simp
        have c3 : (w6.alloc (.cells #[.int .i64 t.pl, .slice ta tn tc, .int .i64 (opPre t.tx).2, .func (.func fn6) #[] fc, .slice pa pn pc, .string t.tx, .int .i64 (preRank t.tx)] 199)).cell? ⟨w6.heap.size, 3, none⟩ = some (.func (.func fn6) #[] fc) := by go_simp
        have c4 : (w6.alloc (.cells #[.int .i64 t.pl, .slice ta tn tc, .int .i64 (opPre t.tx).2, .func (.func fn6) #[] fc, .slice pa pn pc, .string t.tx, .int .i64 (preRank t.tx)] 199)).cell? ⟨w6.heap.size, 4, none⟩ = some (.slice pa pn pc) := by go_simp
        have c5 : (w6.alloc (.cells #[.int .i64 t.pl, .slice ta tn tc, .int .i64 (opPre t.tx).2, .func (.func fn6) #[] fc, .slice pa pn pc, .string t.tx, .int .i64 (preRank t.tx)] 199)).cell? ⟨w6.heap.size, 5, none⟩ = some (.string t.tx) := by go_simp
        have c6 : (w6.alloc (.cells #[.int .i64 t.pl, .slice ta tn tc, .int .i64 (opPre t.tx).2, .func (.func fn6) #[] fc, .slice pa pn pc, .string t.tx, .int .i64 (preRank t.tx)] 199)).cell? ⟨w6.heap.size, 6, none⟩ = some (.int .i64 (preRank t.tx)) := by go_simp
        have hg67 : w5.grownBy (w6.alloc (.cells #[.int .i64 t.pl, .slice ta tn tc, .int .i64 (opPre t.tx).2, .func (.func fn6) #[] fc, .slice pa pn pc, .string t.tx, .int .i64 (preRank t.tx)] 199)) (some g) := xgTrans (xgBelow hb6) (xgBelow hb7)
        have hB57 : Below w5.heap.size w5 (w6.alloc (.cells #[.int .i64 t.pl, .slice ta tn tc, .int .i64 (opPre t.tx).2, .func (.func fn6) #[] fc, .slice pa pn pc, .string t.tx, .int .i64 (preRank t.tx)] 199)) := hb6.trans (hb7.mono hb6.size)
        have hN : Nd (w6.alloc (.cells #[.int .i64 t.pl, .slice ta tn tc, .int .i64 (opPre t.tx).2, .func (.func fn6) #[] fc, .slice pa pn pc, .string t.tx, .int .i64 (preRank t.tx)] 199)) (w.heap.size - 1) (.pre t.pl t.tx y) (.iface 199 (.agg #[.int .i64 t.pl, .slice ta tn tc, .int .i64 (opPre t.tx).2, .func (.func fn6) #[] fc, .slice pa pn pc, .string t.tx, .int .i64 (preRank t.tx)])) := ((n6.grown (xgBelow hb7)).up (by have h1 := D5.out.size; have h2 := hg5.size; simp at h2; omega)).nd (Nd.up (by have h1 := D5.out.size; simp; omega) _ _ (n5y.later hB57))
        have hS : PS (w6.alloc (.cells #[.int .i64 t.pl, .slice ta tn tc, .int .i64 (opPre t.tx).2, .func (.func fn6) #[] fc, .slice pa pn pc, .string t.tx, .int .i64 (preRank t.tx)] 199)) g E ts5 (lev + 1) := ps5.later hB57
        have hgw5 : w2.grownBy w5 (some g) := xgTrans (xgBelow (Below.refl _ _).drew) hg5
        have hnb : some w6.heap.size ≠ some g := fun e => by have h1 := Option.some.inj e; have h2 := hb6.size; omega
        generalize w6.alloc (.cells #[.int .i64 t.pl, .slice ta tn tc, .int .i64 (opPre t.tx).2, .func (.func fn6) #[] fc, .slice pa pn pc, .string t.tx, .int .i64 (preRank t.tx)] 199) = W7 at *
        generalize w6.heap.size = nb at *
        have F4 : Hid (PS W7 g E ts5 (lev + 1)) := hS
        have F3 : Hid (Nd W7 (w.heap.size - 1) (.pre t.pl t.tx y) (.iface 199 (.agg #[.int .i64 t.pl, .slice ta tn tc, .int .i64 (opPre t.tx).2, .func (.func fn6) #[] fc, .slice pa pn pc, .string t.tx, .int .i64 (preRank t.tx)]))) := hN
        have F5 : Hid (w.grownBy W7 (some g)) := xgTrans D5.out (xgTrans hgw5 hg67)
        have HNB : Hid (some nb ≠ some g) := hnb
        clear hS hN hnb n6 hb6 hg5 n5y ps5 hgw5 s0 s1 s2
        go_wp2_with fail
        refine (leave_any g E lev ts5 _ F4.out).mono ?_
        rintro e w8 ⟨rfl, hg8, hp8⟩
        have HP8 : Hid (PS w8 g E ts5 lev) := hp8
        have HG8 : Hid (W7.grownBy w8 (some g)) := hg8
        replace c0 := hg8.cell c0 HNB.out
        replace c1 := hg8.cell c1 HNB.out
        replace c2 := hg8.cell c2 HNB.out
        replace c3 := hg8.cell c3 HNB.out
        replace c4 := hg8.cell c4 HNB.out
        replace c5 := hg8.cell c5 HNB.out
        replace c6 := hg8.cell c6 HNB.out
        clear hg8 hp8
        go_wp2_with fail
        go_ret
        exact ⟨xgTrans F5.out HG8.out, .ok (_, ts5), .pok HJ.out HTS.out HLV.out HO.out, _, rfl, Nd.grownB HG8.out (fun k hk => by cases hk; exact hgw) _ _ F3.out, HP8.out⟩
      · have hO6 : Own w6 w5.heap.size 199 7 [.int .i64 0, .slice none 0 0, .int .i64 0, .nilFunc, .slice none 0 0, .string ⟨#[]⟩, .int .i64 0] := (Own.new w5 199 7 #[.int .i64 0, .slice none 0 0, .int .i64 0, .nilFunc, .slice none 0 0, .string ⟨#[]⟩, .int .i64 0] rfl).later hb6
        obtain ⟨hG, hZ⟩ := set7 w6 w5.heap.size (.int .i64 t.pl) (.slice ta tn tc) (.int .i64 (opPre t.tx).2) (.func (.func fn6) #[] fc) (.slice pa pn pc) (.string t.tx) (.int .i64 (preRank t.tx))
        have hO7 := ((((((((hO6.put 0 (.int .i64 t.pl)).1.put 1 (.slice ta tn tc)).1.put 2 (.int .i64 (opPre t.tx).2)).1.put 3 (.func (.func fn6) #[] fc)).1.put 4 (.slice pa pn pc)).1.put 5 (.string t.tx)).1.put 6 (.int .i64 (preRank t.tx))).1)
        generalize World.setCell _ ⟨w5.heap.size, 6, none⟩ _ = W7 at hG hZ hO7 ⊢
        have c0 : W7.cell? ⟨w5.heap.size, 0, none⟩ = some (.int .i64 t.pl) := by rw [hO7.cell 0 (by decide)]; rfl
        have c1 : W7.cell? ⟨w5.heap.size, 1, none⟩ = some (.slice ta tn tc) := by rw [hO7.cell 1 (by decide)]; rfl
        have c2 : W7.cell? ⟨w5.heap.size, 2, none⟩ = some (.int .i64 (opPre t.tx).2) := by rw [hO7.cell 2 (by decide)]; rfl
        have c3 : W7.cell? ⟨w5.heap.size, 3, none⟩ = some (.func (.func fn6) #[] fc) := by rw [hO7.cell 3 (by decide)]; rfl
        have c4 : W7.cell? ⟨w5.heap.size, 4, none⟩ = some (.slice pa pn pc) := by rw [hO7.cell 4 (by decide)]; rfl
        have c5 : W7.cell? ⟨w5.heap.size, 5, none⟩ = some (.string t.tx) := by rw [hO7.cell 5 (by decide)]; rfl
        have c6 : W7.cell? ⟨w5.heap.size, 6, none⟩ = some (.int .i64 (preRank t.tx)) := by rw [hO7.cell 6 (by decide)]; rfl
        have hb56 : Below w5.heap.size w5 w6 := (xbel1 w5 _).trans (hb6.mono (by simp))
        have hB57 : Below w5.heap.size w5 W7 := xbNew hb56 hG (fun k hk => by cases hk; exact Nat.le_refl _)
        have hN : Nd W7 (w.heap.size - 1) (.pre t.pl t.tx y) (.iface 199 (.agg #[.int .i64 t.pl, .slice ta tn tc, .int .i64 (opPre t.tx).2, .func (.func fn6) #[] fc, .slice pa pn pc, .string t.tx, .int .i64 (preRank t.tx)])) := (((n6.up (by simp)).grown hG).up (by have h1 := D5.out.size; have h2 := hg5.size; simp at h2; omega)).nd (Nd.up (by have h1 := D5.out.size; simp; omega) _ _ (n5y.later hB57))
        have hS : PS W7 g E ts5 (lev + 1) := ps5.later hB57
        have hg67 : w5.grownBy W7 (some g) := xgBelow hB57
        have hgw5 : w2.grownBy w5 (some g) := xgTrans (xgBelow (Below.refl _ _).drew) hg5
        have hnb : some w5.heap.size ≠ some g := fun e => by have h1 := Option.some.inj e; omega
        generalize w5.heap.size = nb at *
        have F4 : Hid (PS W7 g E ts5 (lev + 1)) := hS
        have F3 : Hid (Nd W7 (w.heap.size - 1) (.pre t.pl t.tx y) (.iface 199 (.agg #[.int .i64 t.pl, .slice ta tn tc, .int .i64 (opPre t.tx).2, .func (.func fn6) #[] fc, .slice pa pn pc, .string t.tx, .int .i64 (preRank t.tx)]))) := hN
        have F5 : Hid (w.grownBy W7 (some g)) := xgTrans D5.out (xgTrans hgw5 hg67)
        have HNB : Hid (some nb ≠ some g) := hnb
        clear hS hN hnb n6 hb6 hg5 n5y ps5 hgw5 s0 s1 s2
        go_wp2_with fail
        refine (leave_any g E lev ts5 _ F4.out).mono ?_
        rintro e w8 ⟨rfl, hg8, hp8⟩
        have HP8 : Hid (PS w8 g E ts5 lev) := hp8
        have HG8 : Hid (W7.grownBy w8 (some g)) := hg8
        replace c0 := hg8.cell c0 HNB.out
        replace c1 := hg8.cell c1 HNB.out
        replace c2 := hg8.cell c2 HNB.out
        replace c3 := hg8.cell c3 HNB.out
        replace c4 := hg8.cell c4 HNB.out
        replace c5 := hg8.cell c5 HNB.out
        replace c6 := hg8.cell c6 HNB.out
        clear hg8 hp8
        go_wp2_with fail
        go_ret
        exact ⟨xgTrans F5.out HG8.out, .ok (_, ts5), .pok HJ.out HTS.out HLV.out HO.out, _, rfl, Nd.grownB HG8.out (fun k hk => by cases hk; exact hgw) _ _ F3.out, HP8.out⟩
      · have hO6 : Own w6 w2.heap.size 199 7 [.int .i64 0, .slice none 0 0, .int .i64 0, .nilFunc, .slice none 0 0, .string ⟨#[]⟩, .int .i64 0] := (((Own.new w2 199 7 #[.int .i64 0, .slice none 0 0, .int .i64 0, .nilFunc, .slice none 0 0, .string ⟨#[]⟩, .int .i64 0] rfl).later (Below.refl _ _).drew).grown hg5 hn2).later hb6
        obtain ⟨hG, hZ⟩ := set7 w6 w2.heap.size (.int .i64 t.pl) (.slice ta tn tc) (.int .i64 (opPre t.tx).2) (.func (.func fn6) #[] fc) (.slice pa pn pc) (.string t.tx) (.int .i64 (preRank t.tx))
        have hO7 := ((((((((hO6.put 0 (.int .i64 t.pl)).1.put 1 (.slice ta tn tc)).1.put 2 (.int .i64 (opPre t.tx).2)).1.put 3 (.func (.func fn6) #[] fc)).1.put 4 (.slice pa pn pc)).1.put 5 (.string t.tx)).1.put 6 (.int .i64 (preRank t.tx))).1)
        generalize World.setCell _ ⟨w2.heap.size, 6, none⟩ _ = W7 at hG hZ hO7 ⊢
        have c0 : W7.cell? ⟨w2.heap.size, 0, none⟩ = some (.int .i64 t.pl) := by rw [hO7.cell 0 (by decide)]; rfl
        have c1 : W7.cell? ⟨w2.heap.size, 1, none⟩ = some (.slice ta tn tc) := by rw [hO7.cell 1 (by decide)]; rfl
        have c2 : W7.cell? ⟨w2.heap.size, 2, none⟩ = some (.int .i64 (opPre t.tx).2) := by rw [hO7.cell 2 (by decide)]; rfl
        have c3 : W7.cell? ⟨w2.heap.size, 3, none⟩ = some (.func (.func fn6) #[] fc) := by rw [hO7.cell 3 (by decide)]; rfl
        have c4 : W7.cell? ⟨w2.heap.size, 4, none⟩ = some (.slice pa pn pc) := by rw [hO7.cell 4 (by decide)]; rfl
        have c5 : W7.cell? ⟨w2.heap.size, 5, none⟩ = some (.string t.tx) := by rw [hO7.cell 5 (by decide)]; rfl
        have c6 : W7.cell? ⟨w2.heap.size, 6, none⟩ = some (.int .i64 (preRank t.tx)) := by rw [hO7.cell 6 (by decide)]; rfl
        have hN : Nd W7 (w.heap.size - 1) (.pre t.pl t.tx y) (.iface 199 (.agg #[.int .i64 t.pl, .slice ta tn tc, .int .i64 (opPre t.tx).2, .func (.func fn6) #[] fc, .slice pa pn pc, .string t.tx, .int .i64 (preRank t.tx)])) := (((n6.up (Nat.le_of_lt rl)).grown hG).up (by have h1 := D5.out.size; omega)).nd (Nd.up (by have h1 := D5.out.size; simp; omega) _ _ (Nd.grownB hG (fun k hk => by cases hk; simp) _ _ (n5y.later hb6)))
        have hS : PS W7 g E ts5 (lev + 1) := (ps5.later hb6).grown hG (fun k hk => by cases hk; exact hgl2)
        have hgw5 : w2.grownBy w5 (some g) := xgTrans (xgBelow (xbel1 w2 _).drew) hg5
        have hg27 : w2.grownBy W7 (some g) := xgNew (xgTrans hgw5 (xgBelow hb6)) hG (fun k hk => by cases hk; exact Nat.le_refl _)
        have hnb := hn2
        generalize w2.heap.size = nb at *
        have F4 : Hid (PS W7 g E ts5 (lev + 1)) := hS
        have F3 : Hid (Nd W7 (w.heap.size - 1) (.pre t.pl t.tx y) (.iface 199 (.agg #[.int .i64 t.pl, .slice ta tn tc, .int .i64 (opPre t.tx).2, .func (.func fn6) #[] fc, .slice pa pn pc, .string t.tx, .int .i64 (preRank t.tx)]))) := hN
        have F5 : Hid (w.grownBy W7 (some g)) := xgTrans D5.out hg27
        have HNB : Hid (some nb ≠ some g) := hnb
        clear hS hN hnb n6 hb6 hg5 n5y ps5 hgw5 s0 s1 s2
        go_wp2_with fail
        refine (leave_any g E lev ts5 _ F4.out).mono ?_
        rintro e w8 ⟨rfl, hg8, hp8⟩
        have HP8 : Hid (PS w8 g E ts5 lev) := hp8
        have HG8 : Hid (W7.grownBy w8 (some g)) := hg8
        replace c0 := hg8.cell c0 HNB.out
        replace c1 := hg8.cell c1 HNB.out
        replace c2 := hg8.cell c2 HNB.out
        replace c3 := hg8.cell c3 HNB.out
        replace c4 := hg8.cell c4 HNB.out
        replace c5 := hg8.cell c5 HNB.out
        replace c6 := hg8.cell c6 HNB.out
        clear hg8 hp8
        go_wp2_with fail
        go_ret
        exact ⟨xgTrans F5.out HG8.out, .ok (_, ts5), .pok HJ.out HTS.out HLV.out HO.out, _, rfl, Nd.grownB HG8.out (fun k hk => by cases hk; exact hgw) _ _ F3.out, HP8.out⟩
end Go.Proofs.YtplaplhmjpfbjaaGreatDoor
