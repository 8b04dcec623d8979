import Derived.Test.YtoioaalkeanhgaaDoorBkS
import Derived.Test.YtoioaalkeanhgaaDoorBkO
import Derived.Test.YtoioaalkeanhgaaDoorRdD
import Derived.Deep.LoopGhost
namespace Go.Proofs.YtoioaalkeanhgaaDoor
open Go.RowKit
set_option linter.unusedVariables false
set_option linter.unusedSimpArgs false
set_option maxRecDepth 100000

/-- An offset; a piece that is held; their bytes. -/
structure Of where
  n : Int
  p : Int
  a : Int
structure Hd where
  n : Int
  g : Int
  b : List UInt8
def ofNs (o : Of) : List Int := [o.n, o.p, o.a]
def encOf (o : Of) : List UInt8 := (ofNs o).flatMap encInt
def encHd (h : Hd) : List UInt8 := [h.n, h.g, (h.b.length : Int)].flatMap encInt ++ h.b
def encCk (m : Int) (os : List Of) (hs : List Hd) : List UInt8 := ([m, (os.length : Int)].flatMap encInt ++ os.flatMap encOf) ++ ([(hs.length : Int)].flatMap encInt ++ hs.flatMap encHd)
def InO (o : Of) : Prop := InI o.n ∧ InI o.p ∧ InI o.a
def InH (h : Hd) : Prop := InI h.n ∧ InI h.g ∧ h.b.length ≤ 549755813888
theorem InO.all {o : Of} (h : InO o) : ∀ x ∈ ofNs o, InI x := fun x hx => by
  simp [ofNs] at hx
  rcases hx with rfl | rfl | rfl
  · exact h.1
  · exact h.2.1
  · exact h.2.2

theorem nums_any (v : Value) (l : List UInt8) (B nb c : Nat) (xs : List Int) (w : World) (hown : OL w B v l) (hB : B ≤ w.heap.size) (hcs : ∀ i (hi : i < xs.length), w.cell? ⟨nb, i, none⟩ = some (.int .i64 xs[i])) (hne : v.ownBlock ≠ some nb) (hnb : nb < w.heap.size) (hx : ∀ x ∈ xs, InI x) (h3 : xs.length ≤ 3) (hl : l.length ≤ 549755813888) :
    Calls Tryd.prog 10 #[v, .slice (some ⟨nb, 0, none⟩) xs.length c] w fun e w' => ∃ v', e = .returned v' ∧ OL w' B v' (l ++ xs.flatMap encInt) ∧ Only w w' v.ownBlock v'.ownBlock := by
  have HO := hidMk hown
  have HC := hidMk hcs
  have HX := hidMk hx
  have HN := hidMk hne
  clear hown hcs hx hne
  go_enter Tryd.func10, Tryd.ntmps10
  go_wp2
  go_loopg [0, 9] xs.length (fun gk v1 i wr => ∃ k : Nat, gk + k = xs.length ∧ i = .int .i64 k ∧ OL wr B v1 (l ++ (xs.take k).flatMap encInt) ∧ Only w wr v.ownBlock v1.ownBlock)
  case atStart => exact ⟨0, by omega, rfl, by simpa using HO.out, Only.refl _ _⟩
  case round =>
    obtain ⟨k, hgk, rfl, hO, hY⟩ := hrel
    have HOk := hidMk hO
    have HY := hidMk hY
    clear hO hY
    have hsz := HY.out.grown.size
    by_cases hk : k < xs.length
    · have hk' : (k : Int) < (xs.length : Int) := by omega
      have c1 : wr.cell? ⟨nb, k, none⟩ = some (.int .i64 xs[k]) := HY.out.cell (HC.out k hk) (fun e => HN.out e.symm)
      have HI : Hid (InI xs[k]) := HX.out _ (List.getElem_mem hk)
      have HT : Hid ((xs.take (k + 1)).flatMap encInt = (xs.take k).flatMap encInt ++ encInt xs[k]) := by rw [Hid, List.take_succ_eq_append_getElem hk, List.flatMap_append]; simp
      have hlen : ((xs.take k).flatMap encInt).length ≤ 30 := by
        have h10 : ∀ (ys : List Int), (∀ y ∈ ys, InI y) → (ys.flatMap encInt).length ≤ 10 * ys.length := by
          intro ys
          induction ys with
          | nil => simp
          | cons y ys ih =>
            intro hy
            rw [List.flatMap_cons, List.length_append, List.length_cons]
            have h1 := hy y (by simp)
            have := encInt_len y h1.1 h1.2
            have := ih (fun z hz => hy z (by simp [hz]))
            omega
        have := h10 (xs.take k) (fun y hy => HX.out y (List.mem_of_mem_take hy))
        rw [List.length_take] at this
        omega
      generalize xs[k] = x at *
      have hw : IntKind.i64.wrap x = x := by have := HI.out; unfold InI at this; simp [IntKind.wrap, IntKind.bits, IntKind.signed]; omega
      go_wp2_with fail
      refine (putInt_ol u0 (l ++ (xs.take k).flatMap encInt) x B _ HOk.out (by omega) HI.out.1 HI.out.2 (by rw [List.length_append]; omega)).mono ?_
      rintro e w1 ⟨v', rfl, h1, h2⟩
      have H1 : Hid (OL w1 B v' (l ++ (xs.take (k + 1)).flatMap encInt)) := by rw [Hid, HT.out, ← List.append_assoc]; exact h1
      have H2 := hidMk (HY.out.trans h2)
      clear h1 h2
      go_wp2
      go_roundg (gk - 1)
      case measure => omega
      case rel => exact ⟨k + 1, by omega, by go_num, H1.out, H2.out⟩
    · have hk' : ¬ (k : Int) < (xs.length : Int) := by omega
      obtain rfl : k = xs.length := by omega
      go_wp2
      go_ret
      refine ⟨_, rfl, ?_, HY.out⟩
      have := HOk.out
      rw [List.take_length] at this
      exact this
end Go.Proofs.YtoioaalkeanhgaaDoor
