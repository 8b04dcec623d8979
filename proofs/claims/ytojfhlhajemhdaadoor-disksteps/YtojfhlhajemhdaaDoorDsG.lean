import Derived.Test.YtojfhlhajemhdaaDoorDsF
import Derived.Deep.LoopGhost
namespace Go.Proofs.YtojfhlhajemhdaaDoor
open Go.RowKit
set_option linter.unusedVariables false
set_option linter.unusedSimpArgs false
set_option maxRecDepth 100000

/-- What a crash leaves: the files that can be lost are numbered from n on; t are whole, half of the next is left. -/
def crashed (t : Nat) (pa : Option Addr) (pc : Nat) : Nat → List Fl → List Fl
  | _, [] => []
  | n, f :: fs => if f.ls then (if n = t then { f with ls := false, bs := half f.bs, pa := pa, pc := pc } :: crashed t pa pc (n + 1) fs else if n < t then { f with ls := false } :: crashed t pa pc (n + 1) fs else crashed t pa pc (n + 1) fs) else f :: crashed t pa pc n fs
theorem loose_cons (f : Fl) (fs : List Fl) : loose (f :: fs) = if f.ls then f.nm :: loose fs else loose fs := by
  unfold loose; rw [List.filter_cons]; split <;> rfl
theorem loose_app (a b : List Fl) : loose (a ++ b) = loose a ++ loose b := by
  unfold loose; rw [List.filter_append, List.map_append]
theorem crashed_app (t : Nat) (pa : Option Addr) (pc : Nat) : ∀ (n : Nat) (a b : List Fl), crashed t pa pc n (a ++ b) = crashed t pa pc n a ++ crashed t pa pc (n + (loose a).length) b
  | n, [], b => by simp [crashed, loose]
  | n, f :: a, b => by
    rw [List.cons_append, crashed, crashed, loose_cons]
    by_cases hf : f.ls = true
    · rw [if_pos hf, if_pos hf, if_pos hf, crashed_app t pa pc (n + 1) a b, List.length_cons, show n + 1 + (loose a).length = n + ((loose a).length + 1) by omega]
      by_cases h1 : n = t
      · rw [if_pos h1, if_pos h1]; rfl
      · rw [if_neg h1, if_neg h1]
        by_cases h2 : n < t
        · rw [if_pos h2, if_pos h2]; rfl
        · rw [if_neg h2, if_neg h2]
    · rw [if_neg hf, if_neg hf, if_neg hf, crashed_app t pa pc n a b]; rfl
theorem crashed_still (t : Nat) (pa : Option Addr) (pc : Nat) : ∀ (n : Nat) (a : List Fl), loose a = [] → crashed t pa pc n a = a
  | n, [], _ => rfl
  | n, f :: a, h => by
    rw [loose_cons] at h
    by_cases hf : f.ls = true
    · rw [if_pos hf] at h; cases h
    · rw [if_neg hf] at h
      rw [crashed, if_neg hf, crashed_still t pa pc n a h]
theorem loose_next : ∀ (b : List Fl), 0 < (loose b).length → ∃ mid f post, b = mid ++ f :: post ∧ loose mid = [] ∧ f.ls = true
  | [], h => by simp [loose] at h
  | g :: b, h => by
    by_cases hg : g.ls = true
    · exact ⟨[], g, b, rfl, rfl, hg⟩
    · rw [loose_cons, if_neg hg] at h
      obtain ⟨mid, f, post, e, h1, h2⟩ := loose_next b h
      exact ⟨g :: mid, f, post, by rw [e]; rfl, by rw [loose_cons, if_neg hg]; exact h1, h2⟩
theorem crashed_names (t : Nat) (pa : Option Addr) (pc : Nat) : ∀ (n : Nat) (a : List Fl), ∀ x ∈ (crashed t pa pc n a).map (·.nm), x ∈ a.map (·.nm)
  | n, [], x, h => by cases h
  | n, f :: a, x, h => by
    rw [crashed] at h
    rw [List.map_cons, List.mem_cons]
    by_cases hf : f.ls = true
    · rw [if_pos hf] at h
      split at h
      · rcases List.mem_cons.1 h with h | h
        · exact .inl h
        · exact .inr (crashed_names t pa pc _ a x h)
      · split at h
        · rcases List.mem_cons.1 h with h | h
          · exact .inl h
          · exact .inr (crashed_names t pa pc _ a x h)
        · exact .inr (crashed_names t pa pc _ a x h)
    · rw [if_neg hf] at h
      rcases List.mem_cons.1 h with h | h
      · exact .inl h
      · exact .inr (crashed_names t pa pc _ a x h)
/-- Each file of what is left was a file. -/
theorem crashed_mem (t : Nat) (pa : Option Addr) (pc : Nat) : ∀ (n : Nat) (a : List Fl), ∀ f ∈ crashed t pa pc n a, f.ls = false ∧ ((∃ g ∈ a, f = { g with ls := false }) ∨ (n ≤ t ∧ t < n + (loose a).length ∧ ∃ g ∈ a, f = { g with ls := false, bs := half g.bs, pa := pa, pc := pc }))
  | n, [], x, h => by cases h
  | n, f :: a, x, h => by
    rw [crashed] at h
    have ih : ∀ m, n ≤ m → m ≤ n + 1 → (m = n + 1 → f.ls = true) → (m = n → f.ls = false) → x ∈ crashed t pa pc m a → x.ls = false ∧ ((∃ g ∈ f :: a, x = { g with ls := false }) ∨ (n ≤ t ∧ t < n + (loose (f :: a)).length ∧ ∃ g ∈ f :: a, x = { g with ls := false, bs := half g.bs, pa := pa, pc := pc })) := fun m h1 h2 h3 h4 hm => by
      obtain ⟨q0, q⟩ := crashed_mem t pa pc m a x hm
      refine ⟨q0, ?_⟩
      rcases q with ⟨g, hg, e⟩ | ⟨l1, l2, g, hg, e⟩
      · exact .inl ⟨g, List.mem_cons_of_mem _ hg, e⟩
      · refine .inr ⟨by omega, ?_, g, List.mem_cons_of_mem _ hg, e⟩
        rw [loose_cons]
        by_cases hm : m = n
        · have := h4 hm; rw [if_neg (by rw [this]; decide)]; omega
        · rw [if_pos (h3 (by omega)), List.length_cons]; omega
    by_cases hf : f.ls = true
    · rw [if_pos hf] at h
      split at h
      · rename_i hn
        rcases List.mem_cons.1 h with h | h
        · subst h
          exact ⟨rfl, .inr ⟨by omega, by rw [loose_cons, if_pos hf, List.length_cons]; omega, f, List.mem_cons_self .., rfl⟩⟩
        · exact ih (n + 1) (by omega) (by omega) (fun _ => hf) (by omega) h
      · split at h
        · rcases List.mem_cons.1 h with h | h
          · subst h
            exact ⟨rfl, .inl ⟨f, List.mem_cons_self .., rfl⟩⟩
          · exact ih (n + 1) (by omega) (by omega) (fun _ => hf) (by omega) h
        · exact ih (n + 1) (by omega) (by omega) (fun _ => hf) (by omega) h
    · rw [if_neg hf] at h
      rcases List.mem_cons.1 h with h | h
      · subst h
        have : x.ls = false := by cases hx : x.ls <;> simp_all
        exact ⟨this, .inl ⟨x, List.mem_cons_self .., by cases x; simp_all⟩⟩
      · exact ih n (by omega) (by omega) (by omega) (fun _ => by cases hx : f.ls <;> simp_all) h
theorem crashed_loose (t : Nat) (pa : Option Addr) (pc n : Nat) (a : List Fl) : loose (crashed t pa pc n a) = [] := by
  unfold loose
  rw [List.map_eq_nil_iff, List.filter_eq_nil_iff]
  intro f hf
  rw [(crashed_mem t pa pc n a f hf).1]; decide

/-- The disk, while a crash is under way: the files gs, though the names xs still stand there as those that can be lost. -/
structure PM (w : World) (B d mb : Nat) (lv : Value) (xs : List ByteArray) (gs : List Fl) : Prop where
  own : Own w d 49 2 [.map (some mb), lv]
  mp : MP w sk mb (gs.map ent)
  row : w.ownsRow B 9 1 lv xs.length (xs.map Value.string)
  by' : ∀ f ∈ gs, Bytes w f.pa f.bs.length (lat f.bs) ∧ f.bs.length ≤ f.pc ∧ (f.pa = none → f.pc = 0) ∧ ∀ y, f.pa = some y → y.spot = none
  ap : ∀ f ∈ gs, ∀ y, f.pa = some y → B ≤ y.block ∧ y.block < w.heap.size ∧ y.block ≠ d ∧ y.block ≠ mb ∧ some y.block ≠ lv.ownBlock
  hd : B ≤ d ∧ B ≤ mb ∧ d ≠ mb ∧ some d ≠ lv.ownBlock ∧ some mb ≠ lv.ownBlock
theorem PD.toPM {w : World} {B d mb : Nat} {lv : Value} {fs : List Fl} (h : PD w B d mb lv fs) : PM w B d mb lv (loose fs) fs := ⟨h.own, h.mp, h.row, h.by', h.ap, h.hd⟩
theorem PM.drew {w : World} {B d mb : Nat} {lv : Value} {xs : List ByteArray} {fs : List Fl} (h : PM w B d mb lv xs fs) : PM w.drew B d mb lv xs fs := by
  have hb : Below w.heap.size w w.drew := ⟨rfl, rfl, rfl, Nat.le_refl _, fun _ _ => rfl⟩
  exact ⟨h.own.later hb, (Gs.below (S := fun _ => False) hb).map h.mp (fun s => s), own_later h.row hb, fun f hf => ⟨(h.by' f hf).1.later hb, (h.by' f hf).2⟩, h.ap, h.hd⟩
/-- A file is put in the place of another of its name. -/
theorem PM.torn {w w1 w2 : World} {B d mb : Nat} {lv : Value} {xs : List ByteArray} {A C : List Fl} {f : Fl} {v' : Value} {l : List UInt8} {ls : Bool} (h : PM w B d mb lv xs (A ++ f :: C)) (hb : Below w.heap.size w w1) (hO : OL w1 w.heap.size v' l) (hB : B ≤ w.heap.size)
    (hM : MP w2 sk mb (put ((A ++ f :: C).map ent) f.nm v')) (hg2 : w1.grownBy w2 (some mb)) :
    ∃ pa pc, PM w2 B d mb lv xs (A ++ { f with ls := ls, bs := l, pa := pa, pc := pc } :: C) := by
  obtain ⟨a', c', rfl, hby, hc1, hc2⟩ := hO.conv
  have hfar : ∀ y, a' = some y → w.heap.size ≤ y.block ∧ y.block < w1.heap.size := fun y hy => World.ownsRow.lt hO y.block (by rw [hy]; rfl)
  have hnil : (a' = none → c' = 0) ∧ ∀ y, a' = some y → y.spot = none := by
    rcases hO.form with ⟨h, _⟩ | ⟨g, c, h, _⟩
    · injection h with h1 h2 h3
      exact ⟨fun _ => h3, fun y hy => by rw [h1] at hy; cases hy⟩
    · injection h with h1 h2 h3
      exact ⟨fun hn => (by rw [h1] at hn; cases hn), fun y hy => (by rw [h1] at hy; cases hy; rfl)⟩
  have s1 := hb.size
  have s2 := hg2.size
  have hnd := h.mp.nodup
  rw [List.map_map] at hnd
  have hnd' : ((A ++ f :: C).map (·.nm)).Nodup := hnd
  have hlv : ∀ k, lv.ownBlock = some k → k < w.heap.size := fun k hk => (World.ownsRow.lt h.row k hk).2
  have hmb := h.mp.lt
  have hd := h.own.lt
  have ga : Gs (fun i => i = mb) w w2 := (Gs.below hb).trans (Gs.one hg2 fun k hk => (Option.some.inj hk).symm)
  refine ⟨a', c', ⟨ga.own h.own (fun g hg s => h.hd.2.2.1 (by cases hg; exact s)), ?_, ga.own h.row (fun g hg s => h.hd.2.2.2.2 (by rw [hg, ← s])), ?_, ?_, h.hd⟩⟩
  · have e : put ((A ++ f :: C).map ent) f.nm (.slice a' l.length c') = (A ++ { f with ls := ls, bs := l, pa := a', pc := c' } :: C).map ent := by
      unfold put
      rw [if_pos (by rw [List.map_map]; exact List.mem_map.2 ⟨f, by simp, rfl⟩)]
      rw [List.map_append, List.map_cons, List.map_append, List.map_cons, List.map_append, List.map_cons]
      have hA : ∀ g ∈ A, g.nm ≠ f.nm := fun g hg e => by
        rw [List.map_append, List.nodup_append] at hnd'
        exact hnd'.2.2 g.nm (List.mem_map.2 ⟨g, hg, rfl⟩) f.nm (by simp) e
      have hC : ∀ g ∈ C, g.nm ≠ f.nm := fun g hg e => by
        rw [List.map_append, List.nodup_append, List.map_cons, List.nodup_cons] at hnd'
        exact hnd'.2.1.1 (e ▸ List.mem_map.2 ⟨g, hg, rfl⟩)
      congr 1
      · rw [List.map_map]
        exact List.map_congr_left fun g hg => if_neg (hA g hg)
      · congr 1
        · exact if_pos rfl
        · rw [List.map_map]
          exact List.map_congr_left fun g hg => if_neg (hC g hg)
    rw [← e]; exact hM
  · intro g hg
    have hcase : g ∈ A ++ f :: C ∨ g = { f with ls := ls, bs := l, pa := a', pc := c' } := by
      rcases List.mem_append.1 hg with hg | hg
      · exact .inl (List.mem_append_left _ hg)
      · rcases List.mem_cons.1 hg with hg | hg
        · exact .inr hg
        · exact .inl (List.mem_append_right _ (List.mem_cons_of_mem _ hg))
    rcases hcase with hg | rfl
    · exact ⟨ga.bytes (h.by' g hg).1 fun x hx s => (h.ap g hg x hx).2.2.2.1 s, (h.by' g hg).2⟩
    · refine ⟨hby.grown hg2 fun x hx e => ?_, hc1, hnil⟩
      have := (hfar x hx).1
      have := Option.some.inj e
      omega
  · intro g hg y hy
    have hcase : g ∈ A ++ f :: C ∨ g = { f with ls := ls, bs := l, pa := a', pc := c' } := by
      rcases List.mem_append.1 hg with hg | hg
      · exact .inl (List.mem_append_left _ hg)
      · rcases List.mem_cons.1 hg with hg | hg
        · exact .inr hg
        · exact .inl (List.mem_append_right _ (List.mem_cons_of_mem _ hg))
    rcases hcase with hg | rfl
    · obtain ⟨a1, a2, a3⟩ := h.ap g hg y hy
      exact ⟨a1, by omega, a3⟩
    · obtain ⟨b1, b2⟩ := hfar y hy
      exact ⟨by omega, by omega, by omega, by omega, fun e => by have := hlv _ e.symm; omega⟩
/-- A file is dropped. -/
theorem PM.lost {w w2 : World} {B d mb : Nat} {lv : Value} {xs : List ByteArray} {A C : List Fl} {f : Fl} (h : PM w B d mb lv xs (A ++ f :: C)) (hM : MP w2 sk mb (del ((A ++ f :: C).map ent) f.nm)) (hg2 : w.grownBy w2 (some mb)) : PM w2 B d mb lv xs (A ++ C) := by
  have hnd := h.mp.nodup
  rw [List.map_map] at hnd
  have hnd' : ((A ++ f :: C).map (·.nm)).Nodup := hnd
  have ga : Gs (fun i => i = mb) w w2 := Gs.one hg2 fun k hk => (Option.some.inj hk).symm
  have hmem : ∀ g, g ∈ A ++ C → g ∈ A ++ f :: C := fun g hg => by
    rcases List.mem_append.1 hg with hg | hg
    · exact List.mem_append_left _ hg
    · exact List.mem_append_right _ (List.mem_cons_of_mem _ hg)
  refine ⟨ga.own h.own (fun g hg s => h.hd.2.2.1 (by cases hg; exact s)), ?_, ga.own h.row (fun g hg s => h.hd.2.2.2.2 (by rw [hg, ← s])), fun g hg => ⟨ga.bytes (h.by' g (hmem g hg)).1 fun x hx s => (h.ap g (hmem g hg) x hx).2.2.2.1 s, (h.by' g (hmem g hg)).2⟩, fun g hg y hy => ?_, h.hd⟩
  · have e : del ((A ++ f :: C).map ent) f.nm = (A ++ C).map ent := by
      rw [del_ent]
      congr 1
      unfold away
      have hA : ∀ g ∈ A, g.nm ≠ f.nm := fun g hg e => by
        rw [List.map_append, List.nodup_append] at hnd'
        exact hnd'.2.2 g.nm (List.mem_map.2 ⟨g, hg, rfl⟩) f.nm (by simp) e
      have hC : ∀ g ∈ C, g.nm ≠ f.nm := fun g hg e => by
        rw [List.map_append, List.nodup_append, List.map_cons, List.nodup_cons] at hnd'
        exact hnd'.2.1.1 (e ▸ List.mem_map.2 ⟨g, hg, rfl⟩)
      rw [List.filter_append, List.filter_cons, if_neg (by simp), List.filter_eq_self.2 fun g hg => by simpa using hA g hg, List.filter_eq_self.2 fun g hg => by simpa using hC g hg]
    rw [← e]; exact hM
  · obtain ⟨a1, a2, a3⟩ := h.ap g (hmem g hg) y hy
    exact ⟨a1, Nat.lt_of_lt_of_le a2 hg2.size, a3⟩
end Go.Proofs.YtojfhlhajemhdaaDoor
