import Derived.Test.YtplaplhmjpfbjaaGreatDoorXpS
import Derived.Deep.LoopGhost
namespace Go.Proofs.YtplaplhmjpfbjaaGreatDoor
open Go.RowKit
set_option linter.unusedVariables false
set_option linter.unusedSimpArgs false
set_option maxRecDepth 100000

/-- What is left is an end of what there was. -/
theorem Ps.suffix {L : ByteArray → Int → Int → ByteArray → Prop} {E : Nat} {m : Mode} {lev : Nat} {ts : List Tk} {o : PR} (h : Ps L E m lev ts o) :
    ∀ x ts', o = .ok (x, ts') → ∀ t ∈ ts', t ∈ ts := by
  induction h with
  | jend h => intro x ts' e; cases e; exact fun t h => h
  | jok _ _ _ ih1 ih2 => intro x ts' e t ht; exact ih1 _ _ rfl t (ih2 _ _ e t ht)
  | jstep _ _ _ ih1 ih2 => intro x ts' e t ht; exact List.mem_cons_of_mem _ (ih1 _ _ rfl t (ih2 _ _ e t ht))
  | pok _ _ _ _ ih1 => intro x ts' e; cases e; exact fun t ht => List.mem_cons_of_mem _ (ih1 _ _ rfl t ht)
  | pnone _ _ _ ih1 => intro x ts' e; exact ih1 _ _ e
  | cnone _ _ ih1 => intro x ts' e; cases e; exact ih1 _ _ rfl
  | cok _ _ _ ih1 ih2 => intro x ts' e; cases e; exact fun t ht => ih1 _ _ rfl t (List.mem_cons_of_mem _ (ih2 _ _ rfl t ht))
  | lit => intro x ts' e; cases e; exact fun t ht => List.mem_cons_of_mem _ ht
  | ncol => intro x ts' e; cases e; exact fun t ht => List.mem_cons_of_mem _ ht
  | zend => intro x ts' e; cases e; exact fun t ht => List.mem_cons_of_mem _ ht
  | aend => intro x ts' e; cases e; exact fun t ht => List.mem_cons_of_mem _ ht
  | ook _ _ _ _ _ ih1 => intro x ts' e; cases e; exact fun t ht => List.mem_cons_of_mem _ (ih1 _ _ rfl t (List.mem_cons_of_mem _ ht))
  | nargs _ _ _ _ _ _ _ _ ih1 => intro x ts' e t ht; exact List.mem_cons_of_mem _ (List.mem_cons_of_mem _ (ih1 _ _ e t ht))
  | zok _ _ _ ih1 ih2 => intro x ts' e t ht; exact ih1 _ _ rfl t (ih2 _ _ e t ht)
  | aok _ _ _ ih1 ih2 => intro x ts' e t ht; exact List.mem_cons_of_mem _ (ih1 _ _ rfl t (ih2 _ _ e t ht))
  | _ => intro x ts' e; cases e

/-- Tokens of few bytes. -/
def Few (ts : List Tk) : Prop := ∀ t ∈ ts, t.tx.size ≤ 200
theorem Few.on {L : ByteArray → Int → Int → ByteArray → Prop} {E : Nat} {m : Mode} {lev : Nat} {ts ts' : List Tk} {x : X} (h : Ps L E m lev ts (.ok (x, ts'))) (hf : Few ts) : Few ts' := fun t ht => hf t (h.suffix x ts' rfl t ht)

theorem Lst.grownB {w w' : World} {B : Nat} {x : Value} {vs : List Value} {r : Option Nat} (h : Lst w B x vs) (hg : w.grownBy w' r) (hr : ∀ k, r = some k → k ≤ B) : Lst w' B x vs := by
  rcases h with h | ⟨b, c, h1, h2, h3, h4, h5⟩
  · exact .inl h
  · exact .inr ⟨b, c, h1, h2, h3, h4, fun i hi => hg.cell (h5 i hi) (fun e => by have h := hr _ e.symm; simp only at h; omega)⟩
theorem CloIs.grownB {w w' : World} {B : Nat} {r : Option Nat} (hg : w.grownBy w' r) (hr : ∀ k, r = some k → k ≤ B) : ∀ {c : Clo} {v : Value}, CloIs w B c v → CloIs w' B c v
  | .raw n, v, h => h
  | .bool n b, v, ⟨a, h1, h2, h3⟩ => ⟨a, h1, h2, hg.cell h3 (fun e => by have h := hr _ e.symm; simp only at h; omega)⟩
  | .one n c, v, ⟨a, u, h1, h2, h3, h4⟩ => ⟨a, u, h1, h2, hg.cell h3 (fun e => by have h := hr _ e.symm; simp only at h; omega), CloIs.grownB hg hr h4⟩
mutual
theorem Nd.grownB {w w' : World} {B : Nat} {r : Option Nat} (hg : w.grownBy w' r) (hr : ∀ k, r = some k → k ≤ B) : ∀ (x : X) (v : Value), Nd w B x v → Nd w' B x v
  | .lit k n t, v, h => h
  | .col pl nm, v, h => h
  | .pre pl s x, v, h => by
    rw [Nd] at h ⊢
    obtain ⟨tk, f, ps, u, h1, h2, h3, h4, h5⟩ := h
    exact ⟨tk, f, ps, u, h1, h2.grownB hg hr, h3.grownB hg hr, h4.grownB hg hr, Nd.grownB hg hr x u h5⟩
  | .inf pl s l r', v, h => by
    rw [Nd] at h ⊢
    obtain ⟨tk, f, ps, u, u', h1, h0, h2, h3, h4, h5, h6⟩ := h
    exact ⟨tk, f, ps, u, u', h1, h0, h2.grownB hg hr, h3.grownB hg hr, h4.grownB hg hr, Nd.grownB hg hr l u h5, Nd.grownB hg hr r' u' h6⟩
  | .app pl nm l, v, h => by
    rw [Nd] at h ⊢
    obtain ⟨tk, gv, f, ps, us, h1, h2, h3, h4, h9⟩ := h
    exact ⟨tk, gv, f, ps, us, h1, fun o ho => ⟨(h2 o ho).1, (h2 o ho).2.1.grownB hg hr, (h2 o ho).2.2.grownB hg hr⟩, h3.grownB hg hr, Nds.grownB hg hr l us h4, h9⟩
theorem Nds.grownB {w w' : World} {B : Nat} {r : Option Nat} (hg : w.grownBy w' r) (hr : ∀ k, r = some k → k ≤ B) : ∀ (l : List X) (us : List Value), Nds w B l us → Nds w' B l us
  | [], us, h => h
  | x :: l, us, h => by
    rw [Nds] at h ⊢
    obtain ⟨u, us', h1, h2, h3⟩ := h
    exact ⟨u, us', h1, Nd.grownB hg hr x u h2, Nds.grownB hg hr l us' h3⟩
end
mutual
theorem Nd.up {w : World} {B B' : Nat} (hb : B' ≤ B) : ∀ (x : X) (v : Value), Nd w B x v → Nd w B' x v
  | .lit k n t, v, h => h
  | .col pl nm, v, h => h
  | .pre pl s x, v, h => by
    rw [Nd] at h ⊢
    obtain ⟨tk, f, ps, u, h1, h2, h3, h4, h5⟩ := h
    exact ⟨tk, f, ps, u, h1, h2.up hb, CloIs.up hb h3, h4.up hb, Nd.up hb x u h5⟩
  | .inf pl s l r', v, h => by
    rw [Nd] at h ⊢
    obtain ⟨tk, f, ps, u, u', h1, h0, h2, h3, h4, h5, h6⟩ := h
    exact ⟨tk, f, ps, u, u', h1, h0, h2.up hb, CloIs.up hb h3, h4.up hb, Nd.up hb l u h5, Nd.up hb r' u' h6⟩
  | .app pl nm l, v, h => by
    rw [Nd] at h ⊢
    obtain ⟨tk, gv, f, ps, us, h1, h2, h3, h4, h9⟩ := h
    exact ⟨tk, gv, f, ps, us, h1, fun o ho => ⟨(h2 o ho).1, (h2 o ho).2.1.up hb, CloIs.up hb (h2 o ho).2.2⟩, h3.up hb, Nds.up hb l us h4, h9⟩
theorem Nds.up {w : World} {B B' : Nat} (hb : B' ≤ B) : ∀ (l : List X) (us : List Value), Nds w B l us → Nds w B' l us
  | [], us, h => h
  | x :: l, us, h => by
    rw [Nds] at h ⊢
    obtain ⟨u, us', h1, h2, h3⟩ := h
    exact ⟨u, us', h1, Nd.up hb x u h2, Nds.up hb l us' h3⟩
end
/-- What reading tokens leaves: what is made is new. -/
def PPost (L : ByteArray → Int → Int → ByteArray → Prop) (w : World) (g E : Nat) (m : Mode) (lev : Nat) (ts : List Tk) (e : Ending) (w' : World) : Prop := w.grownBy w' (some g) ∧ ∃ o, Ps L E m lev ts o ∧
  match o with
  | .ok (x, ts') => ∃ v, e = .returned v ∧ Nd w' (w.heap.size - 1) x v ∧ PS w' g E ts' lev
  | .error f => e = fltE f.pl f.why

/-- What holds of a function that reads tokens. -/
def Rdr (L : ByteArray → Int → Int → ByteArray → Prop) (G : World → Prop) (g E fn r n : Nat) : Prop :=
  ∀ (ts : List Tk) (lev : Nat) (W : World), ts.length ≤ n → Few ts → PS W g E ts lev → G W → Calls Tryz.prog fn #[.pointer (some ⟨g, 0, none⟩)] W (PPost L W g E (.D r) lev ts)

theorem PPost.iface {L : ByteArray → Int → Int → ByteArray → Prop} {w w' : World} {g E : Nat} {m : Mode} {lev : Nat} {ts : List Tk} {e : Ending} (h : PPost L w g E m lev ts e w') :
    (w.grownBy w' (some g) ∧ ∃ x ts' t p, Ps L E m lev ts (.ok (x, ts')) ∧ e = .returned (.iface t p) ∧ Nd w' (w.heap.size - 1) x (.iface t p) ∧ PS w' g E ts' lev) ∨ (w.grownBy w' (some g) ∧ ∃ f, Ps L E m lev ts (.error f) ∧ e = fltE f.pl f.why) := by
  obtain ⟨hg, o, hp, ho⟩ := h
  cases o with
  | error f => exact .inr ⟨hg, f, hp, ho⟩
  | ok q =>
    obtain ⟨x, ts'⟩ := q
    obtain ⟨v, h1, h2, h3⟩ := ho
    obtain ⟨t, p, rfl⟩ := h2.iface
    exact .inl ⟨hg, x, ts', t, p, hp, h1, h2, h3⟩

/-- Readings are at most one. -/
def OneL (L : ByteArray → Int → Int → ByteArray → Prop) : Prop := ∀ s k n t k' n' t', L s k n t → L s k' n' t' → k = k' ∧ n = n' ∧ t = t'
theorem Rdr.exi {L : ByteArray → Int → Int → ByteArray → Prop} {G : World → Prop} {g E fn r n : Nat} (h : Rdr L G g E fn r n) {ts : List Tk} {lev : Nat} {W : World} (hn : ts.length ≤ n) (hf : Few ts) (hp : PS W g E ts lev) (hw : G W) : ∃ o, Ps L E (.D r) lev ts o := by
  obtain ⟨e, w', fr, ⟨_, o, ho, _⟩, _⟩ := h ts lev W hn hf hp hw []
  exact ⟨o, ho⟩
theorem Rdr.ok {L : ByteArray → Int → Int → ByteArray → Prop} {G : World → Prop} {g E fn r n : Nat} (hL : OneL L) (h : Rdr L G g E fn r n) {ts ts' : List Tk} {lev : Nat} {x : X} (hx : Ps L E (.D r) lev ts (.ok (x, ts'))) (W : World) (hn : ts.length ≤ n) (hf : Few ts) (hp : PS W g E ts lev) (hw : G W) :
    Calls Tryz.prog fn #[.pointer (some ⟨g, 0, none⟩)] W fun e w' => W.grownBy w' (some g) ∧ ∃ t p, e = .returned (.iface t p) ∧ Nd w' (W.heap.size - 1) x (.iface t p) ∧ PS w' g E ts' lev := by
  refine (h ts lev W hn hf hp hw).mono ?_
  intro e w' hpp
  rcases hpp.iface with ⟨hg1, y, ts1, t, p, hp1, rfl, hn1, hs1⟩ | ⟨hg1, f, hp1, rfl⟩
  · cases hp1.one hL _ hx
    exact ⟨hg1, t, p, rfl, hn1, hs1⟩
  · cases hp1.one hL _ hx
theorem Rdr.bad {L : ByteArray → Int → Int → ByteArray → Prop} {G : World → Prop} {g E fn r n : Nat} (hL : OneL L) (h : Rdr L G g E fn r n) {ts : List Tk} {lev : Nat} {f : Flt} (hx : Ps L E (.D r) lev ts (.error f)) (W : World) (hn : ts.length ≤ n) (hf : Few ts) (hp : PS W g E ts lev) (hw : G W) :
    Calls Tryz.prog fn #[.pointer (some ⟨g, 0, none⟩)] W fun e w' => W.grownBy w' (some g) ∧ e = fltE f.pl f.why := by
  refine (h ts lev W hn hf hp hw).mono ?_
  intro e w' hpp
  rcases hpp.iface with ⟨hg1, y, ts1, t, p, hp1, rfl, hn1, hs1⟩ | ⟨hg1, f', hp1, rfl⟩
  · cases hp1.one hL _ hx
  · cases hp1.one hL _ hx
    exact ⟨hg1, rfl⟩
theorem bodyPost_pan {fn : Func} {R : Ending → World → Prop} {c : List PanicEntry} {t : Array Value} {w : World} : bodyPost Tryz.prog fn R (.panic c) { tmps := t, defers := [] } w = R (.panicked c) w := by simp [bodyPost]
attribute [local go_sem] bodyPost_pan
theorem fld2 (a b : Int) (c : ByteArray) (w : World) : (Instr.field 168 (.agg #[.int .i64 a, .int .i64 b, .string c]) 2).run Tryz.prog w = .ok (.string c) w := by
  simp [Instr.field, go_sem, part]
  try rfl
set_option maxHeartbeats 4000000 in
theorem joined_any {L : ByteArray → Int → Int → ByteArray → Prop} {G : World → Prop} {g : Nat} (hL : OneL L) (hG : ∀ W W', G W → W.grownBy W' (some g) → G W') (E fn r : Nat) (hr : jr r) (ts : List Tk) (lev : Nat) (w : World) (hent : ∀ (a : Array Value) (W : World), (callFunc fn a).run Tryz.prog W = .ok (.enter fn a) W) (hP : Rdr L G g E fn (r + 1) ts.length) (hf : Few ts) (h : PS w g E ts lev) (hw : G w) :
    Calls Tryz.prog 89 #[.pointer (some ⟨g, 0, none⟩), .int .i64 r, .func (.func fn) #[.pointer (some ⟨g, 0, none⟩)] #[]] w (PPost L w g E (.D r) lev ts) := by
  have HP : Hid (Rdr L G g E fn (r + 1) ts.length) := hP
  have HG : Hid (∀ W W', G W → W.grownBy W' (some g) → G W') := hG
  have HF : Hid (Few ts) := hf
  have HJ : Hid (jr r) := hr
  have HLL : Hid (OneL L) := hL
  have H : Hid (PS w g E ts lev) := h
  have HW : Hid (G w) := hw
  have hgw : g ≤ w.heap.size - 1 := by have := h.lt; omega
  have hgw0 : 0 < w.heap.size := by have := h.lt; omega
  clear hP hG hf hr h hw hL
  have hf2 := fld2
  go_enter Tryz.func89, Tryz.ntmps89
  go_wp2_with fail
  refine (HP.out ts lev _ (Nat.le_refl _) HF.out H.out HW.out).mono ?_
  intro e w1 hpp
  rcases hpp.iface with ⟨hg1, x, ts1, t, p, hp1, rfl, hn1, hs1⟩ | ⟨hg1, f, hp1, rfl⟩
  · have HG1 : Hid (w.grownBy w1 (some g)) := hg1
    have HN1 : Hid (Nd w1 (w.heap.size - 1) x (.iface t p)) := hn1
    have HS1 : Hid (PS w1 g E ts1 lev) := hs1
    have HP1 : Hid (Ps L E (.D (r + 1)) lev ts (.ok (x, ts1))) := hp1
    clear hg1 hn1 hs1 hp1 hpp H
    go_wp2_with fail
    go_loopg [7] ts1.length (fun k left wr => ∃ (l : X) (ts2 : List Tk) (t : TypeId) (p : Value), left = .iface t p ∧ ts2.length = k ∧ ts2.length ≤ ts.length ∧ Few ts2 ∧ Nd wr (w.heap.size - 1) l left ∧ PS wr g E ts2 lev ∧ w.grownBy wr (some g) ∧ G wr ∧ ∀ o, Ps L E (.J r l) lev ts2 o → Ps L E (.D r) lev ts o)
    case atStart =>
      exact ⟨x, ts1, t, p, rfl, rfl, Nat.le_of_lt HP1.out.less, Few.on HP1.out HF.out, HN1.out, HS1.out, HG1.out, HG.out _ _ HW.out HG1.out, fun o ho => .jok HJ.out HP1.out ho⟩
    case round =>
      obtain ⟨l, ts2, t2, p2, rfl, hk, hle, hfew, hnd, hps, hgr, hgw, himp⟩ := hrel
      have A1 : Hid (ts2.length = gk) := hk
      have A2 : Hid (Few ts2) := hfew
      have A3 : Hid (Nd wr (w.heap.size - 1) l (.iface t2 p2)) := hnd
      have A4 : Hid (PS wr g E ts2 lev) := hps
      have A5 : Hid (w.grownBy wr (some g)) := hgr
      have A6 : Hid (G wr) := hgw
      have A7 : Hid (∀ o, Ps L E (.J r l) lev ts2 o → Ps L E (.D r) lev ts o) := himp
      clear hk hfew hnd hps hgr hgw himp HN1 HS1 HP1 HG1
      go_wp2_with fail
      refine (next_any g E lev ts2 _ A4.out).mono ?_
      rintro e w2 ⟨rfl, hb2⟩
      have B4 : Hid (PS w2 g E ts2 lev) := A4.out.later hb2
      have B3 : Hid (Nd w2 (w.heap.size - 1) l (.iface t2 p2)) := A3.out.later hb2
      have B5 : Hid (w.grownBy w2 (some g)) := xgTrans A5.out (xgBelow hb2)
      have B6 : Hid (G w2) := HG.out _ _ A6.out (xgBelow hb2)
      clear hb2 A3 A4 A5 A6
      unfold tkV
      go_wp2_with fail
      refine (signRank_any _ _).mono ?_
      rintro e w3 ⟨rfl, h3⟩
      have h3 := h3.symm
      subst h3
      by_cases hsg : sgn (hd E ts2).tx = r
      · cases ts2 with
        | nil =>
          exfalso
          have : sgn (hd E []).tx = 7 := by show sgn ⟨#[]⟩ = 7; decide +kernel
          rw [this] at hsg
          have hj := HJ.out
          unfold jr at hj
          omega
        | cons t3 ts3 =>
          have HSG : Hid (sgn t3.tx = r) := hsg
          have heq : (((sgn (hd E (t3 :: ts3)).tx : Nat) : Int) == (r : Int)) = true := by rw [hsg]; simp
          clear hsg
          generalize hN : ((sgn (hd E (t3 :: ts3)).tx : Nat) : Int) = N at *
          clear hN
          go_wp2_with fail
          refine (take_any g E lev (t3 :: ts3) _ B4.out).mono ?_
          rintro e w4 ⟨rfl, hg4, hp4⟩
          have C3 : Hid (Nd w4 (w.heap.size - 1) l (.iface t2 p2)) := Nd.grownB hg4 (fun k hk => by cases hk; exact hgw) _ _ B3.out
          have C4 : Hid (PS w4 g E ts3 lev) := hp4
          have C5 : Hid (w.grownBy w4 (some g)) := xgTrans B5.out hg4
          have C6 : Hid (G w4) := HG.out _ _ B6.out hg4
          have hgl := hp4.lt
          clear hg4 hp4 B3 B4 B5 B6
          rw [show hd E (t3 :: ts3) = t3 from rfl]
          have hle3 : ts3.length ≤ ts.length := by have : (t3 :: ts3).length ≤ ts.length := hle; simp at this; omega
          have D2 : Hid (Few ts3) := fun t ht => A2.out t (by simp [ht])
          have D1 : Hid (ts3.length < gk) := by have := A1.out; unfold Hid; simp at this; omega
          obtain ⟨o, ho⟩ := HP.out.exi hle3 D2.out C4.out C6.out
          have hs7 : sgn t3.tx ≠ 7 := by
            have hj := HJ.out
            have := HSG.out
            unfold jr at hj
            omega
          have HS7 : Hid (sgn t3.tx ≠ 7) := hs7
          clear hs7 A1 A2 hle
          unfold tkV
          cases o with
          | error f =>
            have HO : Hid (Ps L E (.D (r + 1)) lev ts3 (.error f)) := ho
            clear ho
            go_wp2_with fail
            have hC4 : PS (w4.alloc (.cells #[.int .i64 t3.pl, .int .i64 t3.kd, .string t3.tx] 168)).drew g E ts3 lev := C4.out.later (xbel1 w4 _).drew
            have hC6 : G (w4.alloc (.cells #[.int .i64 t3.pl, .int .i64 t3.kd, .string t3.tx] 168)).drew := HG.out _ _ C6.out (xgBelow (xbel1 w4 _).drew)
            have HB := Rdr.bad HLL.out HP.out HO.out _ hle3 D2.out hC4 hC6
            have HBB : Hid (Calls Tryz.prog fn #[.pointer (some ⟨g, 0, none⟩)] (w4.alloc (.cells #[.int .i64 t3.pl, .int .i64 t3.kd, .string t3.tx] 168)).drew fun e w' => (w4.alloc (.cells #[.int .i64 t3.pl, .int .i64 t3.kd, .string t3.tx] 168)).drew.grownBy w' (some g) ∧ e = .panicked [{ v := fltV f.pl f.why, recovered := false }]) := HB
            clear HB hC4 hC6
            have FIN : Hid (∀ w5, (w4.alloc (.cells #[.int .i64 t3.pl, .int .i64 t3.kd, .string t3.tx] 168)).drew.grownBy w5 (some g) → PPost L w g E (.D r) lev ts (.panicked [{ v := fltV f.pl f.why, recovered := false }]) w5) := fun w5 hg5 => ⟨xgTrans C5.out (xgTrans (xgBelow (xbel1 w4 _).drew) hg5), .error f, A7.out _ (.jsbad HSG.out HO.out), rfl⟩
            refine wp_region_any (by kernel_rfl) ?_
            change wpAny _ _ _ _ _ _ _ (World.drew _)
            refine wpAny_take (i := 1) (v := .iface t2 p2) rfl (by kernel_rfl) (by kernel_rfl) (by kernel_rfl) (fun _ _ _ h => h) (Or.inl ⟨by rfl, ?_⟩) ?_
            · intro w; go_simp
            refine wpAny_take (i := 2) (v := .func (.func fn) #[.pointer (some ⟨g, 0, none⟩)] #[]) rfl (by kernel_rfl) (by kernel_rfl) (by kernel_rfl) (fun _ _ _ h => h) (Or.inl ⟨by rfl, ?_⟩) ?_
            · intro w; go_simp
            refine wpAny_ready (rs := [0, 3]) (by kernel_rfl) (by simp) ?_
            refine AllReady.cons rfl (fun K hK => ?_) ?_
            · go_simp
              refine hK _ _ ?_
              clear hK K
              refine wpAny_ready (rs := [3]) (by kernel_rfl) (by simp) ?_
              refine AllReady.cons rfl (fun K hK => ?_) AllReady.nil
              go_simp
              refine HBB.out.mono ?_
              rintro e w5 ⟨hg5, rfl⟩
              exact FIN.out w5 hg5
            · refine AllReady.cons rfl (fun K hK => ?_) AllReady.nil
              go_simp
              refine HBB.out.mono ?_
              rintro e w5 ⟨hg5, rfl⟩
              exact FIN.out w5 hg5
          | ok q =>
            obtain ⟨y, ts5⟩ := q
            have HO : Hid (Ps L E (.D (r + 1)) lev ts3 (.ok (y, ts5))) := ho
            clear ho
            go_wp2_with fail
            have hC4 : PS (w4.alloc (.cells #[.int .i64 t3.pl, .int .i64 t3.kd, .string t3.tx] 168)).drew g E ts3 lev := C4.out.later (xbel1 w4 _).drew
            have hC6 : G (w4.alloc (.cells #[.int .i64 t3.pl, .int .i64 t3.kd, .string t3.tx] 168)).drew := HG.out _ _ C6.out (xgBelow (xbel1 w4 _).drew)
            have HB := Rdr.ok HLL.out HP.out HO.out _ hle3 D2.out hC4 hC6
            have HBB : Hid (Calls Tryz.prog fn #[.pointer (some ⟨g, 0, none⟩)] (w4.alloc (.cells #[.int .i64 t3.pl, .int .i64 t3.kd, .string t3.tx] 168)).drew fun e w' => (w4.alloc (.cells #[.int .i64 t3.pl, .int .i64 t3.kd, .string t3.tx] 168)).drew.grownBy w' (some g) ∧ ∃ t p, e = .returned (.iface t p) ∧ Nd w' ((w4.alloc (.cells #[.int .i64 t3.pl, .int .i64 t3.kd, .string t3.tx] 168)).drew.heap.size - 1) y (.iface t p) ∧ PS w' g E ts5 lev) := HB
            clear HB hC4 hC6
            have hwy : w.heap.size - 1 ≤ (w4.alloc (.cells #[.int .i64 t3.pl, .int .i64 t3.kd, .string t3.tx] 168)).drew.heap.size - 1 := by have := C5.out.size; simp; omega
            have hw4l : w.heap.size - 1 < (w4.alloc (.cells #[.int .i64 t3.pl, .int .i64 t3.kd, .string t3.tx] 168)).drew.heap.size := by have := C5.out.size; simp; omega
            go_region_held3 (fun w' => w'.cell? ⟨w4.heap.size, 0, none⟩ = some (.int .i64 t3.pl) ∧ w'.cell? ⟨w4.heap.size, 1, none⟩ = some (.int .i64 t3.kd) ∧ w'.cell? ⟨w4.heap.size, 2, none⟩ = some (.string t3.tx))
              (first | go_keep)
              (first | (go_at_call 100; refine (newInfix_any t3 l y _ _ (w.heap.size - 1) _ hw5l HS7.out n5l n5y).mono ?_; rintro e w6 ⟨hb6, v6, rfl, n6⟩; have s0 := xcell hb6 s0; have s1 := xcell hb6 s1; have s2 := xcell hb6 s2) | (refine HBB.out.mono ?_; rintro e w5 ⟨hg5, t5, p5, rfl, n5y, ps5⟩; have s0 : w5.cell? ⟨w4.heap.size, 0, none⟩ = some (.int .i64 t3.pl) := hg5.cell (by go_simp) (fun e => by have h := Option.some.inj e; simp only at h; omega); have s1 : w5.cell? ⟨w4.heap.size, 1, none⟩ = some (.int .i64 t3.kd) := hg5.cell (by go_simp) (fun e => by have h := Option.some.inj e; simp only at h; omega); have s2 : w5.cell? ⟨w4.heap.size, 2, none⟩ = some (.string t3.tx) := hg5.cell (by go_simp) (fun e => by have h := Option.some.inj e; simp only at h; omega); have hg5l := ps5.lt; have n5l : Nd w5 (w.heap.size - 1) l (.iface t2 p2) := Nd.grownB hg5 (fun k hk => (by cases hk; exact hgw)) _ _ (C3.out.later (xbel1 w4 _).drew); have n5y := Nd.up hwy _ _ n5y; have hw5l : w.heap.size - 1 < w5.heap.size := Nat.lt_of_lt_of_le hw4l hg5.size))
            have E3 : Hid (Nd w6 (w.heap.size - 1) (.inf t3.pl t3.tx l y) (.iface 184 v6)) := n6
            have E4 : Hid (PS w6 g E ts5 lev) := ps5.later hb6
            have E5 : Hid (w.grownBy w6 (some g)) := xgTrans C5.out (xgTrans (xgBelow (xbel1 w4 _).drew) (xgTrans hg5 (xgBelow hb6)))
            have E6 : Hid (G w6) := HG.out _ _ C6.out (xgTrans (xgBelow (xbel1 w4 _).drew) (xgTrans hg5 (xgBelow hb6)))
            clear n6 ps5 hb6 hg5 n5l n5y s0 s1 s2 hg5l C3 C4 C5 C6 HBB
            go_wp2_with fail
            go_roundg ts5.length
            case measure => have h1 := HO.out.less; have h2 := D1.out; omega
            case rel => exact ⟨_, ts5, _, _, rfl, rfl, by have h1 := HO.out.less; omega, Few.on HO.out D2.out, E3.out, E4.out, E5.out, E6.out, fun o ho => A7.out _ (.jstep HSG.out HO.out ho)⟩
      · have hne : (((sgn (hd E ts2).tx : Nat) : Int) == (r : Int)) = false := by rw [beq_eq_false_iff_ne]; omega
        have HSG : Hid (sgn (hd E ts2).tx ≠ r) := hsg
        clear hsg
        generalize hN : ((sgn (hd E ts2).tx : Nat) : Int) = N at *
        clear hN
        go_wp2_with fail
        go_ret
        exact ⟨B5.out, .ok (l, ts2), A7.out _ (.jend HSG.out), _, rfl, B3.out, B4.out⟩
  · refine ⟨rfl, ?_⟩
    exact ⟨hg1, .error f, .jbad HJ.out hp1, rfl⟩
end Go.Proofs.YtplaplhmjpfbjaaGreatDoor
