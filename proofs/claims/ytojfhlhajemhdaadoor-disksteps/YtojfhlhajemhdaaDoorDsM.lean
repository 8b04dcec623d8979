import Derived.Test.YtojfhlhajemhdaaDoorDsL
namespace Go.Proofs.YtojfhlhajemhdaaDoor
open Go.RowKit Go.Sort Go.Proofs
set_option linter.unusedVariables false
set_option linter.unusedSimpArgs false
set_option maxRecDepth 100000

theorem Rise.at {ss : List (List UInt8)} {fs : List Fl} (h : Rise ss fs) (hn : (fs.map (·.nm)).Nodup) (i : Nat) (hi : i < ss.length) : ∃ k, ∃ hk : k < fs.length, fs[k].nm = ⟨ss[i].toArray⟩ ∧ ∀ j (hj : j < fs.length), j < k → ¬ fs[j].nm = ⟨ss[i].toArray⟩ := by
  have hm : ss[i] ∈ fs.map fun f => f.nm.data.toList := h.1.mem_iff.1 (List.getElem_mem hi)
  obtain ⟨f, hf, e⟩ := List.mem_map.1 hm
  obtain ⟨k, hk, rfl⟩ := List.getElem_of_mem hf
  have e2 : fs[k].nm = ⟨ss[i].toArray⟩ := by rw [← e]
  refine ⟨k, hk, e2, fun j hj hjk e3 => ?_⟩
  have := (List.pairwise_iff_getElem.1 hn) j k (by rw [List.length_map]; exact hj) (by rw [List.length_map]; exact hk) hjk
  apply this
  rw [List.getElem_map, List.getElem_map, e2, e3]
theorem Rise.up {ss : List (List UInt8)} {fs : List Fl} (h : Rise ss fs) (hn : (fs.map (·.nm)).Nodup) (i : Nat) (hi : i + 1 < ss.length) : ¬ ss[i + 1] ≤ ss[i] := by
  intro hle
  have h1 : ss[i] ≤ ss[i + 1] := (List.pairwise_iff_getElem.1 h.2) i (i + 1) (by omega) hi (by omega)
  have e : ss[i] = ss[i + 1] := List.le_antisymm h1 hle
  have hnd : ss.Nodup := by
    rw [h.1.nodup_iff]
    have : (fs.map fun f => f.nm.data.toList) = (fs.map (·.nm)).map (fun s => s.data.toList) := by rw [List.map_map]; rfl
    rw [this]
    unfold List.Nodup
    rw [List.pairwise_map]
    refine hn.imp ?_
    intro a b hab e; exact hab (by cases a; cases b; simp only at e; congr 1; exact Array.toList_inj.1 e)
  exact (List.pairwise_iff_getElem.1 hnd) i (i + 1) (by omega) hi (by omega) e

set_option maxHeartbeats 4000000 in
theorem lnames_any (w : World) (B B' : Nat) (x v : Value) (fs : List Fl) (ss : List (List UInt8)) (h : LF w B x fs) (hv : w.ownsRow B' 9 1 v ss.length (ss.map encStr)) (hr : Rise ss fs) (hnd : (fs.map (·.nm)).Nodup) (hn : fs.length ≤ 2513169434880) :
    Calls Tryd.prog 16 #[v, x] w fun e w' => e = .returned (.bool true) ∧ Below w.heap.size w w' := by
  obtain ⟨ax, cx, rfl⟩ := row_form h
  obtain ⟨av, cv, rfl⟩ := row_form hv
  have hlen : ss.length = fs.length := by have := hr.1.length_eq; rw [List.length_map] at this; exact this
  have HL := hidMk h
  have HV := hidMk hv
  have HR := hidMk hr
  have HN := hidMk hnd
  have HLEN := hidMk hlen
  rw [hlen] at hv ⊢
  have HV := hidMk hv
  clear h hv hr hnd hlen
  go_enter Tryd.func16, Tryd.ntmps16
  go_wp2_with fail
  go_loopg [5] fs.length (fun gk i wr => ∃ j : Nat, gk + j = fs.length ∧ i = .int .i64 j ∧ Below w.heap.size w wr)
  case atStart => exact ⟨0, by omega, rfl, Below.refl _ _⟩
  case round =>
    obtain ⟨j, hgk, rfl, hb⟩ := hrel
    have HB := hidMk hb
    have hsz := hb.size
    by_cases hj : j < fs.length
    · have hj' : (j : Int) < (fs.length : Int) := by omega
      have hjs : j < ss.length := by rw [HLEN.out]; exact hj
      obtain ⟨k, hk, e1, e2⟩ := HR.out.at HN.out j hjs
      obtain ⟨g, cap, eg, -, -⟩ := World.ownsRow.form HV.out (by omega)
      injection eg with eg1 eg2 eg3
      subst eg1
      have hcell : ∀ i (hi : i < ss.length), wr.cell? ⟨g, i, none⟩ = some (.string ⟨ss[i].toArray⟩) := fun i hi => by
        have := World.ownsRow.cellAt (own_later HV.out hb) i (by rw [← HLEN.out]; omega)
        rw [this, List.getElem?_map, List.getElem?_eq_getElem hi]; rfl
      have c0 := hcell j hjs
      have HC := hidMk (find_any wr B (.slice ax fs.length cx) fs ⟨ss[j].toArray⟩ k (own_later HL.out hb) hn (by omega) e2 (fun _ => e1) (k : Int) (by rw [if_pos hk]))
      have hkn : ¬ (k : Int) < 0 := by omega
      have hkz : (k : Int) ≥ 0 := by omega
      have hkd : decide ((k : Int) < 0) = false := by simp
      rcases Nat.eq_zero_or_pos j with hj0 | hj0
      · subst hj0
        clear hb hcell e1 e2 eg2 eg3
        generalize ss[0] = s0 at *
        go_wp2_with fail
        refine HC.out.mono ?_
        rintro e w1 ⟨rfl, rfl⟩
        go_wp2_with fail
        go_quiet (fail)
        have HBq := hidMk (below_drewN HB.out nq)
        go_wp2_with fail
        go_roundg (gk - 1)
        case measure => omega
        case rel => exact ⟨0 + 1, by omega, by go_num, HBq.out⟩
      · obtain ⟨i, rfl⟩ : ∃ i, j = i + 1 := ⟨j - 1, by omega⟩
        have c1 := hcell i (by omega)
        have hup := HR.out.up HN.out i hjs
        have hw1 : IntKind.i64.wrap (((i + 1 : Nat) : Int) - 1) = (i : Int) := by rw [show ((i + 1 : Nat) : Int) - 1 = (i : Int) by omega]; exact wi64 (by omega) (by omega)
        have hw2 : IntKind.i64.wrap ((i : Int) + 1 - 1) = (i : Int) := by rw [show (i : Int) + 1 - 1 = (i : Int) by omega]; exact wi64 (by omega) (by omega)
        have hw3 : IntKind.i64.wrap (i : Int) = (i : Int) := wi64 (by omega) (by omega)
        have hj2 : (i : Int) + 1 < (fs.length : Int) := by omega
        have hi2 : (i : Int) < (fs.length : Int) := by omega
        have hg1 : (0 : Int) < (i : Int) + 1 := by omega
        have hg2 : decide ((0 : Int) < (i : Int) + 1) = true := decide_eq_true (by omega)
        have hg3 : decide ((i : Int) + 1 > 0) = true := decide_eq_true (by omega)
        have hi0' : (0 : Int) ≤ (i : Int) := by omega
        clear hb hcell e1 e2 eg2 eg3 hj'
        generalize ss[i + 1] = s1 at *
        generalize ss[i] = s0 at *
        go_wp2_with fail
        refine HC.out.mono ?_
        rintro e w1 ⟨rfl, rfl⟩
        go_wp2_with fail
        have hbl : Op.bytesLess s1 s0 = false := by
          rw [bytesLess_eq]; exact decide_eq_false fun h => hup (List.le_of_lt h)
        have hbe : (s1 == s0) = false := by
          cases hq : (s1 == s0)
          · rfl
          · exact absurd (by rw [eq_of_beq hq]; exact List.le_refl _) hup
        clear hup
        go_quiet (fail)
        have HBq := hidMk (below_drewN HB.out nq)
        go_wp2_with fail
        go_roundg (gk - 1)
        case measure => omega
        case rel => exact ⟨i + 1 + 1, by omega, by go_num, HBq.out⟩
    · have hj' : ¬ (j : Int) < (fs.length : Int) := by omega
      clear hb
      go_wp2_with fail
      go_ret
      exact ⟨rfl, HB.out⟩
end Go.Proofs.YtojfhlhajemhdaaDoor
