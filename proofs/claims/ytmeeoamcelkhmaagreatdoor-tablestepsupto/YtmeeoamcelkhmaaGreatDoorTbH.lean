import Derived.Test.YtmeeoamcelkhmaaGreatDoorTbG
namespace Go.Proofs.YtmeeoamcelkhmaaGreatDoor
open Go.RowKit Go.Maps
set_option linter.unusedVariables false
set_option linter.unusedSimpArgs false
set_option maxRecDepth 100000

def sk : KeyKind Tryz.prog 9 ByteArray where
  kv s := .string s
  kl s := .string s.data.toList
  ok s := s.size ≤ maxLen
  key := (strKey Tryz.underlying9).key
  inj := (strKey Tryz.underlying9).inj
theorem K9 : Maps.Keyed Tryz.prog 9 := Maps.string_keyed Tryz.underlying9
theorem zRows (w : World) : (zeroValue 28).run Tryz.prog w = .ok (.slice none 0 0) w := Tryz.zeroValue28 w
/-- Rows in a row of one's own; their values lie outside of what may turn. -/
structure RR (w : World) (B : Nat) (A : Nat → Prop) (v : Value) (qs : List Q) : Prop where
  own : w.ownsRow B 34 2 v qs.length (qs.flatMap cellsR)
  lies : ∀ q ∈ qs, VLies w q.a q.r.vs
  vb : ∀ q ∈ qs, ∀ y, q.a = some y → ¬ A y.block ∧ y.block < w.heap.size ∧ B ≤ y.block
theorem Gs.vals {S : Nat → Prop} {w w' : World} {a : Option Addr} {vs : List V} (hg : Gs S w w') (h : VLies w a vs) (hne : ∀ x, a = some x → ¬ S x.block) : VLies w' a vs := fun i hi => by
  obtain ⟨b, off, e, h1, h2, h3⟩ := h i hi
  have hn := hne ⟨b, off, none⟩ e
  exact ⟨b, off, e, hg.cell h1 hn, hg.cell h2 hn, hg.cell h3 hn⟩
theorem RR.kept {S A A' : Nat → Prop} {w w' : World} {B : Nat} {v : Value} {qs : List Q} (h : RR w B A v qs) (hg : Gs S w w') (h1 : ∀ k, v.ownBlock = some k → ¬ S k) (h2 : ∀ i, i < w.heap.size → S i → A i) (h3 : ∀ i, i < w.heap.size → A' i → A i) : RR w' B A' v qs where
  own := hg.own h.own h1
  lies := fun q hq => hg.vals (h.lies q hq) fun x hx s => (h.vb q hq x hx).1 (h2 _ (h.vb q hq x hx).2.1 s)
  vb := fun q hq y hy => ⟨fun a => (h.vb q hq y hy).1 (h3 _ (h.vb q hq y hy).2.1 a), Nat.lt_of_lt_of_le (h.vb q hq y hy).2.1 hg.size, (h.vb q hq y hy).2.2⟩
theorem RR.rlies {w : World} {B : Nat} {A : Nat → Prop} {v : Value} {qs : List Q} (h : RR w B A v qs) : ∃ a c, v = .slice a qs.length c ∧ RLies w a (qs.map (·.r)) := by
  rcases h.own.2 with ⟨h1, h2⟩ | ⟨g, c, cur, h1, h2, h3, -⟩
  · refine ⟨none, 0, by rw [h1, h2], fun i hi => absurd hi (by simp; omega)⟩
  · refine ⟨some ⟨g, 0, none⟩, c, h1, fun i hi => ?_⟩
    have hi' : i < qs.length := by simpa using hi
    have ho := h.own
    rw [h1] at ho
    have key : ∀ j, j < 2 → w.cell? ⟨g, i * 2 + j, none⟩ = (cellsR qs[i])[j]? := fun j hj => by
      rw [World.ownsRow.cellAt ho (i * 2 + j) (by omega), flat_at cellsR 2 (fun _ => rfl) qs i j hi' hj]
    refine ⟨g, 0, qs[i].a, qs[i].c, rfl, ?_, ?_, ?_⟩
    · rw [Nat.zero_add]; (simp only [List.getElem_map]; exact key 0 (by decide))
    · rw [Nat.zero_add]; (simp only [List.getElem_map]; exact key 1 (by decide))
    · simpa using h.lies qs[i] (List.getElem_mem hi')
theorem RR.of_done {w : World} {B B' O : Nat} {A : Nat → Prop} {ps : List Q} (h : Done w B O ps) (hB : B' ≤ B) (hA : ∀ i, B ≤ i → ¬ A i) : RR w B' A (.slice (some ⟨O, 0, none⟩) ps.length ps.length) ps where
  own := by
    refine ⟨h.own.1, ?_⟩
    rcases h.own.2 with q | ⟨g, cap, cur, q1, q2, q3⟩
    · exact .inl q
    · exact .inr ⟨g, cap, cur, q1, Nat.le_trans hB q2, q3⟩
  lies := fun q hq => by
    obtain ⟨a, c, e, hl, -⟩ := (h.mine q hq).form
    injection e with e1
    rw [e1]; exact hl
  vb := fun q hq y hy => by
    have := World.ownsRow.lt (h.mine q hq) y.block (by rw [hy]; rfl)
    exact ⟨hA _ this.1, this.2, Nat.le_trans hB this.1⟩

/-- What is prepared: the program's rows, the law's. -/
structure Hp where
  x : Tx
  v : Value
  qs : List Q
  rs : List Rw
  ra : Option Addr
  rc : Nat
/-- What is seen of a sink. -/
structure Sn where
  nm : ByteArray
  v : Value
  qs : List Q
def entH (h : Hp) : Tx × Value := (h.x, h.v)
def entS (s : Sn) : ByteArray × Value := (s.nm, s.v)
/-- The table's own blocks, and what else may turn. -/
def Mu (t mp ms : Nat) (ss : List Sn) (X : Nat → Prop) (i : Nat) : Prop := i = t ∨ i = mp ∨ i = ms ∨ (∃ s ∈ ss, s.v.ownBlock = some i) ∨ X i
def Tb (t mp ms : Nat) (ss : List Sn) (i : Nat) : Prop := i = t ∨ i = mp ∨ i = ms ∨ ∃ s ∈ ss, s.v.ownBlock = some i
theorem Mu.iff {t mp ms : Nat} {ss : List Sn} {X : Nat → Prop} {i : Nat} : Mu t mp ms ss X i ↔ Tb t mp ms ss i ∨ X i := by
  unfold Mu Tb
  constructor
  · rintro (h | h | h | h | h)
    · exact .inl (.inl h)
    · exact .inl (.inr (.inl h))
    · exact .inl (.inr (.inr (.inl h)))
    · exact .inl (.inr (.inr (.inr h)))
    · exact .inr h
  · rintro ((h | h | h | h) | h)
    · exact .inl h
    · exact .inr (.inl h)
    · exact .inr (.inr (.inl h))
    · exact .inr (.inr (.inr (.inl h)))
    · exact .inr (.inr (.inr (.inr h)))
/-- The table. -/
structure PT (w : World) (B t mp ms : Nat) (X : Nat → Prop) (hs : List Hp) (ss : List Sn) : Prop where
  own : Own w t 59 2 [.map (some mp), .map (some ms)]
  pre : MP w txk mp (hs.map entH)
  see : MP w sk ms (ss.map entS)
  ph : ∀ h ∈ hs, RR w B (Mu t mp ms ss X) h.v h.qs ∧ ∀ k, h.v.ownBlock = some k → ¬ Mu t mp ms ss X k
  sh : ∀ s ∈ ss, RR w B (Mu t mp ms ss X) s.v s.qs
  ge : B ≤ t ∧ B ≤ mp ∧ B ≤ ms
  ne : t ≠ mp ∧ t ≠ ms ∧ mp ≠ ms
  sd : ∀ s ∈ ss, ∀ k, s.v.ownBlock = some k → k ≠ t ∧ k ≠ mp ∧ k ≠ ms
  sp : ∀ s ∈ ss, ∀ s' ∈ ss, s.nm ≠ s'.nm → ∀ k, s.v.ownBlock = some k → s'.v.ownBlock ≠ some k
  xd : ∀ i, X i → ¬ Tb t mp ms ss i
theorem PT.lt {w : World} {B t mp ms : Nat} {X : Nat → Prop} {hs : List Hp} {ss : List Sn} (h : PT w B t mp ms X hs ss) : ∀ i, Tb t mp ms ss i → B ≤ i ∧ i < w.heap.size := fun i hi => by
  rcases hi with rfl | rfl | rfl | ⟨s, hs', e⟩
  · exact ⟨h.ge.1, h.own.lt⟩
  · exact ⟨h.ge.2.1, h.pre.lt⟩
  · exact ⟨h.ge.2.2, h.see.lt⟩
  · exact World.ownsRow.lt (h.sh s hs').own i e
/-- Others write: into what is the law's, or is new. -/
theorem PT.kept {S X' : Nat → Prop} {w w' : World} {B t mp ms : Nat} {X : Nat → Prop} {hs : List Hp} {ss : List Sn} (h : PT w B t mp ms X hs ss) (hg : Gs S w w') (h1 : ∀ i, i < w.heap.size → S i → X i) (h2 : ∀ i, i < w.heap.size → X' i → X i) (h3 : ∀ i, X' i → ¬ Tb t mp ms ss i) : PT w' B t mp ms X' hs ss := by
  have hlt := h.lt
  have nS : ∀ i, Tb t mp ms ss i → ¬ S i := fun i hi s => h.xd i (h1 i (hlt i hi).2 s) hi
  have hA : ∀ i, i < w.heap.size → S i → Mu t mp ms ss X i := fun i hi s => Mu.iff.2 (.inr (h1 i hi s))
  have hA' : ∀ i, i < w.heap.size → Mu t mp ms ss X' i → Mu t mp ms ss X i := fun i hi m => by
    rcases Mu.iff.1 m with m | m
    · exact Mu.iff.2 (.inl m)
    · exact Mu.iff.2 (.inr (h2 i hi m))
  refine ⟨hg.own h.own fun g hg' s => nS g (.inl (by cases hg'; rfl)) s, hg.map h.pre (fun s => nS _ (.inr (.inl rfl)) s), hg.map h.see (fun s => nS _ (.inr (.inr (.inl rfl))) s), fun p hp => ⟨(h.ph p hp).1.kept hg (fun k hk s => (h.ph p hp).2 k hk (hA k (World.ownsRow.lt (h.ph p hp).1.own k hk).2 s)) hA hA', fun k hk m => (h.ph p hp).2 k hk (hA' k (World.ownsRow.lt (h.ph p hp).1.own k hk).2 m)⟩, fun s hs' => (h.sh s hs').kept hg (fun k hk q => nS k (.inr (.inr (.inr ⟨s, hs', hk⟩))) q) hA hA', h.ge, h.ne, h.sd, h.sp, h3⟩
theorem PT.later {w w' : World} {B t mp ms : Nat} {X : Nat → Prop} {hs : List Hp} {ss : List Sn} (h : PT w B t mp ms X hs ss) (hb : Below w.heap.size w w') : PT w' B t mp ms X hs ss :=
  h.kept (S := fun _ => False) (Gs.below hb) (fun _ _ s => s.elim) (fun _ _ x => x) h.xd
theorem PT.drew {w : World} {B t mp ms : Nat} {X : Nat → Prop} {hs : List Hp} {ss : List Sn} (h : PT w B t mp ms X hs ss) : PT w.drew B t mp ms X hs ss := h.later ⟨rfl, rfl, rfl, Nat.le_refl _, fun _ _ => rfl⟩
theorem PT.cells {w : World} {B t mp ms : Nat} {X : Nat → Prop} {hs : List Hp} {ss : List Sn} (h : PT w B t mp ms X hs ss) : w.cell? ⟨t, 0, none⟩ = some (.map (some mp)) ∧ w.cell? ⟨t, 1, none⟩ = some (.map (some ms)) := ⟨h.own.cell 0 (by decide), h.own.cell 1 (by decide)⟩
theorem PT.nodup {w : World} {B t mp ms : Nat} {X : Nat → Prop} {hs : List Hp} {ss : List Sn} (h : PT w B t mp ms X hs ss) : (hs.map (·.x)).Nodup := by
  have := h.pre.nodup
  rw [List.map_map] at this
  exact this
/-- The map of what is prepared has turned: hs' in the place of hs. -/
theorem PT.pre' {w w1 w2 : World} {B t mp ms : Nat} {X : Nat → Prop} {hs hs' : List Hp} {ss : List Sn} (h : PT w B t mp ms X hs ss) (hb : Below w.heap.size w w1) (hg : w1.grownBy w2 (some mp)) (hM : MP w2 sk ms (ss.map entS) → MP w2 txk mp (hs'.map entH)) (hh : ∀ p ∈ hs', p ∈ hs ∨ (RR w1 B (Mu t mp ms ss X) p.v p.qs ∧ ∀ k, p.v.ownBlock = some k → ¬ Mu t mp ms ss X k)) : PT w2 B t mp ms X hs' ss ∧ Gs (fun i => i = mp) w w2 := by
  have h1 := h.later hb
  have g2 : Gs (fun i => i = mp) w1 w2 := Gs.one hg fun k hk => (Option.some.inj hk).symm
  have hA : ∀ i, i < w1.heap.size → i = mp → Mu t mp ms ss X i := fun i _ e => .inr (.inl e)
  have hsee : MP w2 sk ms (ss.map entS) := g2.map h1.see (fun e => h.ne.2.2 e.symm)
  have keep : ∀ v qs, RR w1 B (Mu t mp ms ss X) v qs → (∀ k, v.ownBlock = some k → k ≠ mp) → RR w2 B (Mu t mp ms ss X) v qs := fun v qs r hne => r.kept g2 hne hA (fun _ _ m => m)
  refine ⟨⟨g2.own h1.own (fun g hg' e => h.ne.1 (by cases hg'; exact e)), hM hsee, hsee, fun p hp => ?_, fun s hs' => keep _ _ (h1.sh s hs') (fun k hk => (h.sd s hs' k hk).2.1), h.ge, h.ne, h.sd, h.sp, h.xd⟩, (Gs.below hb).trans g2⟩
  rcases hh p hp with hp | ⟨r1, r2⟩
  · exact ⟨keep _ _ (h1.ph p hp).1 (fun k hk e => (h1.ph p hp).2 k hk (.inr (.inl e))), (h1.ph p hp).2⟩
  · exact ⟨keep _ _ r1 (fun k hk e => r2 k hk (.inr (.inl e))), r2⟩
end Go.Proofs.YtmeeoamcelkhmaaGreatDoor
