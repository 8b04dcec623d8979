import Derived.Test.YtdbboaebigpkoaaGreatDoorWzB
namespace Go.Proofs.YtdbboaebigpkoaaGreatDoor.Wr
open Go.RowKit
set_option linter.unusedVariables false
set_option maxRecDepth 100000

theorem Bytes.grown {w w' : World} {a : Option Addr} {len : Nat} {f : Nat → UInt8} {r : Option Nat} (h : Bytes w a len f) (hg : w.grownBy w' r) (hne : ∀ x, a = some x → some x.block ≠ r) : Bytes w' a len f := fun i hi => by
  obtain ⟨b, off, e, h1⟩ := h i hi
  exact ⟨b, off, e, hg.cell h1 (hne ⟨b, off, none⟩ e)⟩
theorem own_grown {w w' : World} {B e size n : Nat} {v : Value} {xs : List Value} {r : Option Nat} (h : w.ownsRow B e size v n xs) (hg : w.grownBy w' r) (hne : ∀ g, v.ownBlock = some g → some g ≠ r) : w'.ownsRow B e size v n xs := by
  refine ⟨h.1, ?_⟩
  rcases h.2 with h2 | ⟨g, cap, cur, h1, h2, h3, h4⟩
  · exact .inl h2
  · refine .inr ⟨g, cap, cur, h1, h2, ?_, h4⟩
    have hlt : g < w.heap.size := by
      rcases Nat.lt_or_ge g w.heap.size with h | h
      · exact h
      · rw [Array.getElem?_eq_none h] at h3; cases h3
    rw [hg.block g hlt (hne g (by rw [h1]; rfl))]; exact h3
theorem grown_refl (w : World) (r : Option Nat) : w.grownBy w r := World.grownBy.refl _ _
theorem grown_trans {a b c : World} {r : Option Nat} (h : a.grownBy b r) (k : b.grownBy c r) : a.grownBy c r :=
  ⟨k.os.trans h.os, k.tape.trans h.tape, k.output.trans h.output, Nat.le_trans h.size k.size, fun i hi hr => (k.block i (Nat.lt_of_lt_of_le hi h.size) hr).trans (h.block i hi hr)⟩
theorem grown_below {a b : World} {r : Option Nat} (h : Below a.heap.size a b) : a.grownBy b r :=
  ⟨h.os, h.tape, h.output, h.size, fun i hi _ => h.block i hi⟩

/-- A struct of 'n' cells in a block of one's own. -/
def Own (w : World) (g t n : Nat) (xs : List Value) : Prop := w.ownsRow g t n (.slice (some ⟨g, 0, none⟩) 1 1) 1 xs
theorem Own.grown {w w' : World} {g t n : Nat} {xs : List Value} {r : Option Nat} (h : Own w g t n xs) (hg : w.grownBy w' r) (hne : some g ≠ r) : Own w' g t n xs :=
  own_grown h hg fun k hk => by cases hk; exact hne
theorem Own.later {w w' : World} {g t n : Nat} {xs : List Value} (h : Own w g t n xs) (hb : Below w.heap.size w w') : Own w' g t n xs := own_later h hb
theorem Own.lt {w : World} {g t n : Nat} {xs : List Value} (h : Own w g t n xs) : g < w.heap.size := (World.ownsRow.lt h g rfl).2
theorem Own.cell {w : World} {g t n : Nat} {xs : List Value} (h : Own w g t n xs) (j : Nat) (hj : j < n) : w.cell? ⟨g, j, none⟩ = xs[j]? := World.ownsRow.cellAt h j (by omega)
theorem Own.soft {w : World} {g t n : Nat} {xs : List Value} (h : Own w g t n xs) (j : Nat) : w.frozen? ⟨g, j, none⟩ = false := World.ownsRow.frozenAt h j
theorem Own.put {w : World} {g t n : Nat} {xs : List Value} (h : Own w g t n xs) (j : Nat) (u : Value) : Own (w.setCell ⟨g, j, none⟩ u) g t n (xs.set j u) ∧ w.grownBy (w.setCell ⟨g, j, none⟩ u) (some g) := World.ownsRow.stored h j u
theorem Own.new (w : World) (t n : Nat) (cs : Array Value) (hs : cs.size = n) : Own (w.alloc (.cells cs t)) w.heap.size t n cs.toList :=
  World.ownsRow_lit (base := w.heap.size) (e := t) (size := n) w cs 1 (Nat.le_refl _) (by decide) (by omega)

/-- Bytes that a slice shows. -/
structure Shows (w : World) (a : Option Addr) (c : Nat) (L : List UInt8) (g : Nat) : Prop where
  bytes : Bytes w a L.length (lat L)
  le : L.length ≤ c
  room : c ≤ 9223372036854775807
  apart : ∀ x, a = some x → x.block < g
  place : ∃ b off, a = some ⟨b, off, none⟩
  short : L.length ≤ 140737488355328
theorem Shows.grown {w w' : World} {a : Option Addr} {c g : Nat} {L : List UInt8} {r : Option Nat} (h : Shows w a c L g) (hg : w.grownBy w' r) (hr : ∀ k, r = some k → g ≤ k) : Shows w' a c L g :=
  ⟨h.bytes.grown hg (fun x hx e => by have h1 := h.apart x hx; have h2 := hr _ e.symm; omega), h.le, h.room, h.apart, h.place, h.short⟩
/-- The program's reader: the rest. -/
def Rd (w : World) (g : Nat) (L : List UInt8) : Prop := ∃ a c, Own w g 113 1 [.slice a L.length c] ∧ Shows w a c L g
theorem Rd.grown {w w' : World} {g : Nat} {L : List UInt8} {r : Option Nat} (h : Rd w g L) (hg : w.grownBy w' r) (hr : ∀ k, r = some k → g < k) : Rd w' g L := by
  obtain ⟨a, c, h1, h2⟩ := h
  exact ⟨a, c, h1.grown hg (fun e => by have := hr g e.symm; omega), h2.grown hg (fun k hk => Nat.le_of_lt (hr k hk))⟩
theorem Rd.later {w w' : World} {g : Nat} {L : List UInt8} (h : Rd w g L) (hb : Below w.heap.size w w') : Rd w' g L := h.grown (r := none) (grown_below hb) (fun k hk => by cases hk)
theorem Rd.lt {w : World} {g : Nat} {L : List UInt8} (h : Rd w g L) : g < w.heap.size := by obtain ⟨a, c, h1, h2⟩ := h; exact h1.lt
theorem Rd.small {w : World} {g : Nat} {L : List UInt8} (h : Rd w g L) : L.length ≤ 140737488355328 := by obtain ⟨a, c, h1, h2⟩ := h; exact h2.short

theorem take_snoc (L : List UInt8) (i : Nat) (hi : i < L.length) : L.take (i + 1) = L.take i ++ [L[i]] := List.take_succ_eq_append_getElem hi
theorem take_cons (L : List UInt8) (i : Nat) (hi : i < L.length) : L = L.take i ++ L[i] :: L.drop (i + 1) := by
  conv => lhs; rw [← List.take_append_drop i L, List.drop_eq_getElem_cons hi]

/-- What reading a number gives. -/
def NumPost (w : World) (g : Nat) (L : List UInt8) (e : Ending) (w' : World) : Prop := ∃ (n : Int) (ok : Bool) (L' : List UInt8), e = .returned (.tuple #[.int .i64 n, .bool ok]) ∧ InI n ∧ w.grownBy w' (some g) ∧ Rd w' g L' ∧ L'.length ≤ L.length ∧
      (ok = true → L = encInt n ++ L') ∧ (ok = false → ∀ m s, InI m → L ≠ encInt m ++ s)
theorem InI.zero : InI 0 := ⟨by decide, by decide⟩

theorem lat_drop (L : List UInt8) (k : Nat) : lat (L.drop k) = fun i => lat L (k + i) := by
  funext i; simp [lat]
/-- The reader goes on by 'k' bytes. -/
theorem Rd.on {w : World} {g : Nat} {L : List UInt8} {b off c k o' : Nat} (hO : Own w g 113 1 [.slice (some ⟨b, off, none⟩) L.length c]) (hS : Shows w (some ⟨b, off, none⟩) c L g) (hk : k ≤ L.length) (ho : o' = off + k ∨ c = k) :
    Rd (w.setCell ⟨g, 0, none⟩ (.slice (some ⟨b, o', none⟩) (L.length - k) (c - k))) g (L.drop k) ∧ w.grownBy (w.setCell ⟨g, 0, none⟩ (.slice (some ⟨b, o', none⟩) (L.length - k) (c - k))) (some g) := by
  obtain ⟨h1, h2⟩ := hO.put 0 (.slice (some ⟨b, o', none⟩) (L.length - k) (c - k))
  refine ⟨⟨some ⟨b, o', none⟩, c - k, ?_, ?_, ?_, ?_, ?_, ⟨b, o', rfl⟩, ?_⟩, h2⟩
  · rw [List.length_drop]; exact h1
  · have hb := hS.bytes.grown h2 (fun x hx e => by have := hS.apart x hx; have e' := Option.some.inj e; omega)
    intro i hi
    rw [List.length_drop] at hi
    have hle := hS.le
    obtain ⟨b', o2, e, hc⟩ := hb (k + i) (by omega)
    cases e
    rcases ho with rfl | hck
    · exact ⟨b, off + k, rfl, by rw [lat_drop]; rw [Nat.add_assoc]; exact hc⟩
    · omega
  · rw [List.length_drop]; have := hS.le; omega
  · have := hS.room; omega
  · intro x hx; cases hx; exact hS.apart ⟨b, off, none⟩ rfl
  · rw [List.length_drop]; have := hS.short; omega

theorem slice_from (b o len cap m : Nat) (z : Int) (hz : z = (m : Int)) (hm : m ≤ len) (o' : Nat) (eA : (if cap = m then some (Addr.mk b o none) else some (Addr.mk b (o + m) none)) = some (Addr.mk b o' none)) (W : World) :
    (Instr.slice 50 (.slice (some ⟨b, o, none⟩) len cap) (some (.int .i64 z)) none none).run Tryz.prog W = .ok (.slice (some ⟨b, o', none⟩) (len - m) (cap - m)) W := by
  subst hz
  rw [run_slice_l (P := Tryz.prog) W 50 (some ⟨b, o, none⟩) len cap (Tryz.underlying50.trans (by kernel_rfl)) .i64 _ (by omega) (by omega)]
  rw [Int.toNat_natCast]
  have hs : (sizeOf (Tryz.prog.elem 50)).run Tryz.prog W = .ok 1 W := by
    rw [show Tryz.prog.elem 50 = 5 by kernel_rfl]; exact Tryz.sizeOf5 W
  rw [hs]
  simp only [Result.andThen, sliced, Nat.mul_one, Option.map]
  rw [show ∀ j, (Addr.mk b o none).add j = Addr.mk b (o + j) none from fun j => WideShapes.add_plain .., eA]
theorem sliceAt_from (b o len cap m : Nat) (z : Int) (hz : z = (m : Int)) (hm : m ≤ len) (o' : Nat) (eA : (if cap = m then some (Addr.mk b o none) else some (Addr.mk b (o + m) none)) = some (Addr.mk b o' none)) (W : World) :
    (Instr.sliceAt 50 (.slice (some ⟨b, o, none⟩) len cap) (some (.int .i64 z)) none none).run Tryz.prog W = .ok (.slice (some ⟨b, o', none⟩) (len - m) (cap - m)) W := by
  rw [run_sliceAt_slice W 50 _ _ _ _ (Tryz.underlying50.trans (by kernel_rfl))]
  exact slice_from b o len cap m z hz hm o' eA W
theorem num_fin {w : World} {g : Nat} {L : List UInt8} {b off c k o' : Nat} (hO : Own w g 113 1 [.slice (some ⟨b, off, none⟩) L.length c]) (hS : Shows w (some ⟨b, off, none⟩) c L g) (hlt : k < L.length) (hH : Hi (L.take k)) (hx : L[k].toNat < 128) (hk : k ≤ 8 ∨ (k = 9 ∧ L[k].toNat ≤ 1)) (ho : o' = off + (k + 1) ∨ c = k + 1) (X : Int) (hX : X = (L[k].toNat : Int)) (ok : Bool) (hok : (0 < L[k].toNat ∨ k = 0) ↔ ok = true) :
    NumPost w g L (.returned (.tuple #[.int .i64 (bits .xor .i64 (wrap64 (bits .or .u64 (val (L.take k) : Nat) (IntKind.u64.wrap (IntKind.u64.wrap (bits .and .u8 X 127) * 2 ^ (7 * k))) / 2)) (wrap64 (-wrap64 (bits .and .u64 (bits .or .u64 (val (L.take k) : Nat) (IntKind.u64.wrap (IntKind.u64.wrap (bits .and .u8 X 127) * 2 ^ (7 * k)))) 1)))), .bool ok])) (w.setCell ⟨g, 0, none⟩ (.slice (some ⟨b, o', none⟩) (L.length - (k + 1)) (c - (k + 1)))) := by
  subst hX
  have htl : (L.take k).length = k := by rw [List.length_take]; omega
  have hv := val_lt (L.take k)
  rw [htl] at hv
  obtain ⟨e1, e2⟩ := num_or (val (L.take k)) L[k].toNat k hv (UInt8.toNat_lt _) hk
  rw [e1, num_val _ e2]
  obtain ⟨h1, h2⟩ := Rd.on hO hS (show k + 1 ≤ L.length by omega) ho
  refine ⟨_, ok, _, rfl, unz_in e2, h2, h1, by rw [List.length_drop]; omega, fun hy => ?_, fun hn m s hm => ?_⟩
  · have h3 := num_ok hH hx (by
      rcases hok.2 hy with h | h
      · exact .inr h
      · exact .inl (by rw [h]; rfl))
    rw [val_snoc, htl] at h3
    rw [h3, ← take_snoc L k hlt, List.take_append_drop]
  · have hno : ¬ (0 < L[k].toNat ∨ k = 0) := fun h => by have := hok.1 h; rw [hn] at this; cases this
    rw [take_cons L k hlt]
    exact num_zero hH (fun h => by have := congrArg List.length h; rw [List.length_take, List.length_nil] at this; omega) (by omega) m s

set_option maxHeartbeats 4000000 in
theorem num_any (g : Nat) (L : List UInt8) (w : World) (hR : Rd w g L) :
    Calls Tryz.prog 55 #[.pointer (some ⟨g, 0, none⟩)] w (NumPost w g L) := by
  have HR : Hid (Rd w g L) := hR
  obtain ⟨a, c, hO, hS⟩ := hR
  have HO : Hid (Own w g 113 1 [.slice a L.length c]) := hO
  have HS : Hid (Shows w a c L g) := hS
  have c0 : w.cell? ⟨g, 0, none⟩ = some (.slice a L.length c) := by rw [hO.cell 0 (by decide)]; rfl
  have fr : w.frozen? ⟨g, 0, none⟩ = false := hO.soft 0
  have hlc := hS.le
  have hcm := hS.room
  have hsh := hS.short
  clear hO hS
  go_enter Tryz.func55, Tryz.ntmps55
  go_wp2
  go_loopw [4, 13] (fun u i w' => ∃ k : Nat, k ≤ L.length ∧ k ≤ 9 ∧ i = .int .i64 k ∧ u = .int .u64 (val (L.take k) : Nat) ∧ Hi (L.take k) ∧ w' = w) (fun _ i _ => L.length - (intOf i).toNat)
  case atStart => exact ⟨0, Nat.zero_le _, by decide, rfl, rfl, fun c hc => by simp at hc, rfl⟩
  case round =>
    obtain ⟨k, hk, hk9, rfl, rfl, hhi, rfl⟩ := hrel
    have HH : Hid (Hi (L.take k)) := hhi
    clear hhi
    by_cases hlt : k < L.length
    · obtain ⟨b, off, rfl, c1⟩ := HS.out.bytes k hlt
      have hx : lat L k = L[k] := by simp [lat, hlt]
      rw [hx] at c1
      have hx2 := UInt8.toNat_lt L[k]
      have hki : (k : Int) < (L.length : Int) := by omega
      have hp1 : (0 : Int) ≤ (L[k].toNat : Int) := by omega
      have hp2 : (L[k].toNat : Int) ≤ 255 := by omega
      have hvl := val_lt (L.take k)
      have htl : (L.take k).length = k := by rw [List.length_take]; omega
      clear hx
      by_cases h9 : k = 9 ∧ 1 < L[k].toNat
      · have hk9' : k = 9 := h9.1
        subst hk9'
        have h91 : (1 : Int) < (L[9].toNat : Int) := by omega
        have HC : Hid (∀ m s, InI m → L ≠ encInt m ++ s) := fun m s hm => by
          rw [take_cons L 9 hlt]; exact num_great HH.out (by omega) (by omega) m hm s
        go_wp2
        go_ret2
        exact ⟨0, false, L, rfl, InI.zero, grown_refl _ _, HR.out, Nat.le_refl _, (fun h => by cases h), fun _ => HC.out⟩
      · have hk' : k ≤ 8 ∨ (k = 9 ∧ L[k].toNat ≤ 1) := by
          rcases Nat.lt_or_ge k 9 with h | h
          · exact .inl (by omega)
          · exact .inr ⟨by omega, by
              rcases Nat.lt_or_ge 1 L[k].toNat with h1 | h1
              · exact absurd ⟨by omega, h1⟩ h9
              · exact h1⟩
        have HK : Hid (k ≤ 8 ∨ (k = 9 ∧ L[k].toNat ≤ 1)) := hk'
        have hvk : val (L.take k) < 128 ^ k := by rw [htl] at hvl; exact hvl
        have HT : Hid (val (L.take (k + 1)) = val (L.take k) + 128 ^ k * (L[k].toNat % 128)) := by rw [Hid, take_snoc L k hlt, val_snoc, htl]
        have HU : Hid _ := (num_or (val (L.take k)) L[k].toNat k (by rw [htl] at hvl; exact hvl) hx2 hk').1
        clear h9
        by_cases h128 : L[k].toNat < 128
        · have hxi : (L[k].toNat : Int) < 128 := by omega
          clear hk'
          clear HT HU
          obtain ⟨o', eA, ho⟩ : ∃ o', (if c = k + 1 then some (Addr.mk b off none) else some (Addr.mk b (off + (k + 1)) none)) = some (Addr.mk b o' none) ∧ (o' = off + (k + 1) ∨ c = k + 1) := by
            by_cases hck : c = k + 1
            · exact ⟨off, by rw [if_pos hck], .inr hck⟩
            · exact ⟨off + (k + 1), by rw [if_neg hck], .inl rfl⟩
          have hS1 := slice_from b off L.length c (k + 1) ((k : Int) + 1) (by omega) (by omega) o' eA
          have hS2 := sliceAt_from b off L.length c (k + 1) ((k : Int) + 1) (by omega) (by omega) o' eA
          have HOK : Hid (o' = off + (k + 1) ∨ c = k + 1) := ho
          clear eA ho
          have hg1 : ((k : Int) == 9) = true → decide ((1 : Int) < (L[k].toNat : Int)) = false := by
            intro h
            have h' : (k : Int) = 9 := by simpa using h
            refine decide_eq_false ?_
            rcases HK.out with h | h <;> omega
          have HX : Hid (∃ X : Int, X = (L[k].toNat : Int)) := ⟨_, rfl⟩
          obtain ⟨X, hX⟩ := HX.out
          have HX' : Hid (X = (L[k].toNat : Int)) := hX
          have HB : Hid ((0 < L[k].toNat ∨ k = 0) ↔ (decide ((0 : Int) < X) || ((k : Int) == 0)) = true) := by rw [Hid, hX]; simp
          rw [← hX] at hg1 hxi hp1 hp2 c1
          have HH8 : Hid (L[k].toNat < 128) := h128
          clear hX HX hx2 h128
          cases h9b : ((k : Int) == 9) <;> cases h0x : decide ((0 : Int) < X) <;> cases h0k : ((k : Int) == 0)
          all_goals rw [h0x, h0k] at HB
          all_goals try have hg2 := hg1 h9b
          all_goals clear hg1
          all_goals go_wp2
          all_goals go_ret2
          all_goals exact num_fin HO.out HS.out hlt HH.out HH8.out HK.out HOK.out X HX'.out _ HB.out
        · have hxi : (128 : Int) ≤ (L[k].toNat : Int) := by omega
          have hk8 : k ≤ 8 := by omega
          have hk8i : ¬ (k : Int) = 9 := by omega
          have HH' : Hid (Hi (L.take (k + 1))) := by
            rw [Hid, take_snoc L k hlt]
            intro d hd
            rcases List.mem_append.1 hd with h | h
            · exact HH.out d h
            · simp at h; rw [h]; omega
          clear hk'
          go_wp2
          go_roundw
          case rel => exact ⟨k + 1, by omega, by omega, by go_num, by rw [HU.out, HT.out], HH'.out, trivial⟩
          case measure => simp [intOf]; omega
    · obtain rfl : k = L.length := by omega
      have HC : Hid (∀ m s, InI m → L ≠ encInt m ++ s) := fun m s hm => by
        have := HH.out
        rw [List.take_of_length_le (Nat.le_refl _)] at this
        exact num_cut this m s
      go_wp2
      go_ret2
      exact ⟨0, false, L, rfl, InI.zero, grown_refl _ _, HR.out, Nat.le_refl _, (fun h => by cases h), fun _ => HC.out⟩
end Go.Proofs.YtdbboaebigpkoaaGreatDoor.Wr
