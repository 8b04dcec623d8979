import Derived.Test.YtafighjlciglpaaDoorRdD
namespace Go.Proofs.YtafighjlciglpaaDoor
open Go.RowKit
set_option linter.unusedVariables false
set_option maxRecDepth 100000

/-- The document's reader. -/
structure In (w : World) (g : Nat) (a : Option Addr) (c : Nat) (B : List UInt8) (at_ : Nat) (bad : Bool) : Prop where
  own : Own w g 50 3 [.slice a B.length c, .int .i64 (at_ : Int), .bool bad]
  bytes : Bytes w a B.length (lat B)
  apart : ∀ x, a = some x → x.block < g
  within : at_ ≤ B.length
  le : B.length ≤ c
  room : c ≤ 140737488355328
theorem In.grown {w w' : World} {g : Nat} {a : Option Addr} {c : Nat} {B : List UInt8} {at_ : Nat} {bad : Bool} {r : Option Nat} (h : In w g a c B at_ bad) (hg : w.grownBy w' r) (hr : ∀ k, r = some k → g < k) : In w' g a c B at_ bad :=
  ⟨h.own.grown hg (fun e => by have := hr g e.symm; omega), h.bytes.grown hg (fun x hx e => by have h1 := h.apart x hx; have h2 := hr _ e.symm; omega), h.apart, h.within, h.le, h.room⟩
theorem In.later {w w' : World} {g : Nat} {a : Option Addr} {c : Nat} {B : List UInt8} {at_ : Nat} {bad : Bool} (h : In w g a c B at_ bad) (hb : Below w.heap.size w w') : In w' g a c B at_ bad := h.grown (r := none) (grown_below hb) (fun k hk => by cases hk)
theorem In.move {w : World} {g : Nat} {a : Option Addr} {c : Nat} {B : List UInt8} {at_ : Nat} {bad : Bool} (h : In w g a c B at_ bad) (to : Nat) (ht : to ≤ B.length) : In (w.setCell ⟨g, 1, none⟩ (.int .i64 (to : Int))) g a c B to bad ∧ w.grownBy (w.setCell ⟨g, 1, none⟩ (.int .i64 (to : Int))) (some g) := by
  obtain ⟨h1, h2⟩ := h.own.put 1 (.int .i64 (to : Int))
  exact ⟨⟨h1, h.bytes.grown h2 (fun x hx e => by have h1 := h.apart x hx; have h2 := Option.some.inj e; omega), h.apart, ht, h.le, h.room⟩, h2⟩
theorem In.mark {w : World} {g : Nat} {a : Option Addr} {c : Nat} {B : List UInt8} {at_ : Nat} {bad : Bool} (h : In w g a c B at_ bad) (bad' : Bool) : In (w.setCell ⟨g, 2, none⟩ (.bool bad')) g a c B at_ bad' ∧ w.grownBy (w.setCell ⟨g, 2, none⟩ (.bool bad')) (some g) := by
  obtain ⟨h1, h2⟩ := h.own.put 2 (.bool bad')
  exact ⟨⟨h1, h.bytes.grown h2 (fun x hx e => by have h1 := h.apart x hx; have h2 := Option.some.inj e; omega), h.apart, h.within, h.le, h.room⟩, h2⟩
theorem In.lt {w : World} {g : Nat} {a : Option Addr} {c : Nat} {B : List UInt8} {at_ : Nat} {bad : Bool} (h : In w g a c B at_ bad) : g < w.heap.size := h.own.lt

/-- What the document's number gives. -/
def NumR (w : World) (g : Nat) (a : Option Addr) (c : Nat) (B : List UInt8) (at_ : Nat) (bad : Bool) (e : Ending) (w' : World) : Prop := ∃ (n : Int) (at' : Nat) (bad' : Bool), e = .returned (.int .i64 n) ∧ InI n ∧ w.grownBy w' (some g) ∧ In w' g a c B at' bad' ∧ at_ ≤ at' ∧
      (bad = true → bad' = true) ∧ (bad' = false → B.drop at_ = encInt n ++ B.drop at') ∧ (bad = false → bad' = true → ∀ m s, InI m → B.drop at_ ≠ encInt m ++ s)

theorem num_ref {p : List UInt8} {x : UInt8} {t : List UInt8} (hp : Hi p) (hl : p.length ≤ 9) (hx : x.toNat < 128 ∨ (p.length = 9 ∧ 128 ≤ x.toNat)) (hne : ¬ vint (val (p ++ [x]) % 18446744073709551616) = p ++ [x]) (m : Int) (hm : InI m) (s : List UInt8) : p ++ x :: t ≠ encInt m ++ s := by
  intro h
  obtain ⟨z', e1, e, e3⟩ := vint_split p (zig m) s (x :: t) hp h.symm
  have hz := hm.zig
  by_cases h1 : z' < 128
  · rw [vint_lt h1] at e
    simp only [List.cons_append, List.nil_append, List.cons.injEq] at e
    have hxz : x.toNat = z' := by
      have := congrArg UInt8.toNat e.1
      rw [UInt8.toNat_ofNat'] at this
      omega
    apply hne
    rw [val_snoc, Nat.mod_eq_of_lt (show x.toNat < 128 by omega), hxz, ← e1, Nat.mod_eq_of_lt hz, e1, vint_join p z' hp e3, vint_lt h1, e.1]
  · rw [vint_ge h1] at e
    simp only [List.cons_append, List.cons.injEq] at e
    have hx2 : 128 ≤ x.toNat := by
      have := congrArg UInt8.toNat e.1
      rw [UInt8.toNat_ofNat'] at this
      omega
    rcases hx with h2 | ⟨h2, -⟩
    · omega
    · rw [e1, h2] at hz
      omega

theorem num_add (U v X k : Nat) (hU : U = v % 18446744073709551616) : IntKind.u64.wrap ((U : Int) + IntKind.u64.wrap ((X : Int) % 128 * 2 ^ (7 * k))) = (((v + 128 ^ k * (X % 128)) % 18446744073709551616 : Nat) : Int) := by
  rw [wrap64u, wrap64u, hU]
  have e2 : (X : Int) % 128 * 2 ^ (7 * k) = ((128 ^ k * (X % 128) : Nat) : Int) := by
    rw [← pow7, Int.natCast_mul, Int.natCast_pow, Int.mul_comm]; rfl
  rw [e2]
  generalize 128 ^ k * (X % 128) = M
  omega
theorem lstr_inj {l m : List UInt8} (h : lstr l = lstr m) : l = m := by
  have := congrArg (fun s : ByteArray => s.data.toList) h
  simpa [lstr] using this
theorem bstr_mid (B : List UInt8) (at_ j : Nat) (h : at_ + j ≤ B.length) : bstr (fun i => lat B (at_ + i)) j = lstr ((B.drop at_).take j) := by
  have e : ((B.drop at_).take j).length = j := by rw [List.length_take, List.length_drop]; omega
  conv => rhs; rw [← bstr_lat ((B.drop at_).take j), e]
  rw [bstr_eq]
  intro i hi
  simp [lat, hi]
theorem slice_mid (b o len cap lo hi : Nat) (z1 z2 : Int) (hz1 : z1 = (lo : Int)) (hz2 : z2 = (hi : Int)) (h1 : lo < hi) (h2 : hi ≤ cap) (W : World) :
    (Instr.slice 22 (.slice (some ⟨b, o, none⟩) len cap) (some (.int .i64 z1)) (some (.int .i64 z2)) none).run Tryd.prog W = .ok (.slice (some ⟨b, o + lo, none⟩) (hi - lo) (cap - lo)) W := by
  subst hz1 hz2
  rw [run_slice_lh (P := Tryd.prog) W 22 (some ⟨b, o, none⟩) len cap (Tryd.underlying22.trans (by kernel_rfl)) .i64 .i64 _ _ (by omega) (by omega) (by omega)]
  rw [Int.toNat_natCast, Int.toNat_natCast]
  have hs : (sizeOf (Tryd.prog.elem 22)).run Tryd.prog W = .ok 1 W := by
    rw [show Tryd.prog.elem 22 = 5 by kernel_rfl]; exact Tryd.sizeOf5 W
  rw [hs]
  simp only [Result.andThen, sliced, Nat.mul_one, Option.map]
  rw [show ∀ j, (Addr.mk b o none).add j = Addr.mk b (o + j) none from fun j => WideShapes.add_plain .., if_neg (by omega)]
theorem sliceAt_mid (b o len cap lo hi : Nat) (z1 z2 : Int) (hz1 : z1 = (lo : Int)) (hz2 : z2 = (hi : Int)) (h1 : lo < hi) (h2 : hi ≤ cap) (W : World) :
    (Instr.sliceAt 22 (.slice (some ⟨b, o, none⟩) len cap) (some (.int .i64 z1)) (some (.int .i64 z2)) none).run Tryd.prog W = .ok (.slice (some ⟨b, o + lo, none⟩) (hi - lo) (cap - lo)) W := by
  rw [run_sliceAt_slice W 22 _ _ _ _ (Tryd.underlying22.trans (by kernel_rfl))]
  exact slice_mid b o len cap lo hi z1 z2 hz1 hz2 h1 h2 W
theorem half_even (U : Nat) (hU : U < 18446744073709551616) (h : ¬ U % 2 = 1) : wrap64 (IntKind.u64.wrap ((U : Int).tdiv 2)) = unz U := by
  rw [wrap64u, Int.tdiv_eq_ediv_of_nonneg (by omega)]
  unfold wrap64 unz
  rw [if_pos (by omega)]
  omega
theorem half_odd (U : Nat) (hU : U < 18446744073709551616) (h : U % 2 = 1) : wrap64 (wrap64 (-wrap64 (IntKind.u64.wrap ((U : Int).tdiv 2))) - 1) = unz U := by
  rw [wrap64u, Int.tdiv_eq_ediv_of_nonneg (by omega)]
  unfold wrap64 unz
  rw [if_neg (by omega)]
  omega

theorem numR_ok {w w2 : World} {g : Nat} {a : Option Addr} {c : Nat} {B : List UInt8} {at_ j : Nat} {bad : Bool} {n : Int} (hn : InI n) (hg : w.grownBy w2 (some g)) (hI : In w2 g a c B (at_ + j) bad) (hq : encInt n = (B.drop at_).take j) (q : Nat) : NumR w g a c B at_ bad (.returned (.int .i64 n)) (w2.drewN q) := by
  refine ⟨n, at_ + j, bad, rfl, hn, grown_trans hg (grown_below (below_drewN (Below.refl _ _) q)), hI.later (below_drewN (Below.refl _ _) q), by omega, id, fun _ => ?_, fun h1 h2 => by rw [h1] at h2; cases h2⟩
  rw [hq, ← List.drop_drop, List.take_append_drop]
theorem numR_bad {w w2 : World} {g : Nat} {a : Option Addr} {c : Nat} {B : List UInt8} {at_ j : Nat} {bad : Bool} (hg : w.grownBy w2 (some g)) (hI : In w2 g a c B (at_ + j) bad) (hq : ∀ m s, InI m → B.drop at_ ≠ encInt m ++ s) (q : Nat) : NumR w g a c B at_ bad (.returned (.int .i64 0)) ((w2.drewN q).setCell ⟨g, 2, none⟩ (.bool true)) := by
  obtain ⟨h1, h2⟩ := (hI.later (below_drewN (Below.refl _ _) q)).mark true
  exact ⟨0, at_ + j, true, rfl, InI.zero, grown_trans hg (grown_trans (grown_below (below_drewN (Below.refl _ _) q)) h2), h1, by omega, fun _ => rfl, (fun h => by cases h), fun _ _ => hq⟩

set_option maxHeartbeats 8000000 in
theorem numR_any (g : Nat) (a : Option Addr) (c : Nat) (B : List UInt8) (at_ : Nat) (bad : Bool) (w : World) (hI : In w g a c B at_ bad) :
    Calls Tryd.prog 17 #[.pointer (some ⟨g, 0, none⟩)] w (NumR w g a c B at_ bad) := by
  have HI : Hid (In w g a c B at_ bad) := hI
  have hgl := hI.lt
  have hw0 := hI.within
  have hlc := hI.le
  have hcm := hI.room
  have c1 : w.cell? ⟨g, 1, none⟩ = some (.int .i64 (at_ : Int)) := by rw [hI.own.cell 1 (by decide)]; rfl
  clear hI
  go_enter Tryd.func17, Tryd.ntmps17
  go_wp2
  clear c1
  go_loopw [4, 5] (fun u i w' => ∃ k : Nat, at_ + k ≤ B.length ∧ k ≤ 10 ∧ i = .int .i64 k ∧ u = .int .u64 ((val ((B.drop at_).take k) % 18446744073709551616 : Nat) : Int) ∧ Hi ((B.drop at_).take k) ∧ In w' g a c B (at_ + k) bad ∧ w.grownBy w' (some g)) (fun _ i _ => 10 - (intOf i).toNat)
  case atStart => exact ⟨0, by omega, by decide, rfl, rfl, (fun c hc => by simp at hc), HI.out, grown_refl _ _⟩
  case round =>
    obtain ⟨k, hk, hk10, rfl, rfl, hhi, hIk, hGk⟩ := hrel
    have HH : Hid (Hi ((B.drop at_).take k)) := hhi
    have HIk : Hid (In wr g a c B (at_ + k) bad) := hIk
    have HGk : Hid (w.grownBy wr (some g)) := hGk
    have d0 : wr.cell? ⟨g, 0, none⟩ = some (.slice a B.length c) := by rw [hIk.own.cell 0 (by decide)]; rfl
    have d1 : wr.cell? ⟨g, 1, none⟩ = some (.int .i64 ((at_ + k : Nat) : Int)) := by rw [hIk.own.cell 1 (by decide)]; rfl
    have d2 : wr.cell? ⟨g, 2, none⟩ = some (.bool bad) := by rw [hIk.own.cell 2 (by decide)]; rfl
    have f1 := hIk.own.soft 1
    have f2 := hIk.own.soft 2
    clear hhi hIk hGk
    by_cases hk9 : k < 10
    · have hk9i : (k : Int) < 10 := by omega
      by_cases hend : at_ + k = B.length
      · have hge : (B.length : Int) ≤ ((at_ + k : Nat) : Int) := by omega
        have FIN : Hid (∀ q, NumR w g a c B at_ bad (.returned (.int .i64 0)) ((wr.drewN q).setCell ⟨g, 2, none⟩ (.bool true))) := fun q => by
          obtain ⟨h1, h2⟩ := (HIk.out.later (below_drewN (Below.refl _ _) q)).mark true
          refine ⟨0, at_ + k, true, rfl, InI.zero, grown_trans HGk.out (grown_trans (grown_below (below_drewN (Below.refl _ _) q)) h2), h1, by omega, fun _ => rfl, (fun h => by cases h), fun _ _ m s _ => ?_⟩
          have := HH.out
          rw [List.take_of_length_le (by rw [List.length_drop]; omega)] at this
          exact num_cut this m s
        go_wp2
        go_quiet (fail)
        go_wp2
        go_ret
        exact FIN.out _
      · have hlt : at_ + k < B.length := by omega
        have hlti : ((at_ + k : Nat) : Int) < (B.length : Int) := by omega
        obtain ⟨b, off, rfl, cx⟩ := HIk.out.bytes (at_ + k) hlt
        obtain ⟨X, hX⟩ : ∃ X : Nat, X = (lat B (at_ + k)).toNat := ⟨_, rfl⟩
        rw [← hX] at cx
        have hX2 : X < 256 := by rw [hX]; exact UInt8.toNat_lt _
        have HX : Hid (X = (lat B (at_ + k)).toNat) := hX
        have hX0 : (0 : Int) ≤ (X : Int) := by omega
        have hX1 : (X : Int) ≤ 255 := by omega
        have hU : val ((B.drop at_).take k) % 18446744073709551616 < 18446744073709551616 := Nat.mod_lt _ (by decide)
        have HU : Hid (∃ U, U = val ((B.drop at_).take k) % 18446744073709551616) := ⟨_, rfl⟩
        obtain ⟨U, hUe⟩ := HU.out
        rw [← hUe] at hU ⊢
        have HUe : Hid (U = val ((B.drop at_).take k) % 18446744073709551616) := hUe
        have hbl : ¬ b = g := by have := HIk.out.apart ⟨b, off, none⟩ rfl; simp at this; omega
        clear hX hUe HU
        have hU'e := num_add U (val ((B.drop at_).take k)) X k HUe.out
        have htk : ((B.drop at_).take k).length = k := by rw [List.length_take, List.length_drop]; omega
        have hDk : k < (B.drop at_).length := by rw [List.length_drop]; omega
        have hBx : (B.drop at_)[k] = lat B (at_ + k) := by simp [lat, hlt]
        have hvs : val ((B.drop at_).take (k + 1)) = val ((B.drop at_).take k) + 128 ^ k * (X % 128) := by
          rw [take_snoc _ k hDk, val_snoc, htk, hBx, ← HX.out]
        rw [← hvs] at hU'e
        have hU'l : val ((B.drop at_).take (k + 1)) % 18446744073709551616 < 18446744073709551616 := Nat.mod_lt _ (by decide)
        have HU' : Hid (∃ U', U' = val ((B.drop at_).take (k + 1)) % 18446744073709551616) := ⟨_, rfl⟩
        obtain ⟨U', hU'd⟩ := HU'.out
        rw [← hU'd] at hU'e hU'l
        have HU'd : Hid (U' = val ((B.drop at_).take (k + 1)) % 18446744073709551616) := hU'd
        have HM : Hid (∀ q, In ((wr.drewN q).setCell ⟨g, 1, none⟩ (.int .i64 ((at_ : Int) + (k : Int) + 1))) g (some ⟨b, off, none⟩) c B (at_ + (k + 1)) bad ∧ w.grownBy ((wr.drewN q).setCell ⟨g, 1, none⟩ (.int .i64 ((at_ : Int) + (k : Int) + 1))) (some g)) := fun q => by
          obtain ⟨h1, h2⟩ := (HIk.out.later (below_drewN (Below.refl _ _) q)).move (at_ + (k + 1)) (by omega)
          rw [show (((at_ + (k + 1) : Nat) : Int)) = (at_ : Int) + (k : Int) + 1 by omega] at h1 h2
          exact ⟨h1, grown_trans HGk.out (grown_trans (grown_below (below_drewN (Below.refl _ _) q)) h2)⟩
        clear hU'd HU' hvs htk hDk hBx
        by_cases h128 : X < 128
        · have h128i : (X : Int) < 128 := by omega
          have HPB : Hid (¬ encInt (unz U') = (B.drop at_).take (k + 1) → ∀ m s, InI m → B.drop at_ ≠ encInt m ++ s) := fun hne m s hm => by
            have hDk : k < (B.drop at_).length := by rw [List.length_drop]; omega
            have hBx : (B.drop at_)[k] = lat B (at_ + k) := by simp [lat, hlt]
            rw [encInt_unz, HU'd.out, take_snoc _ k hDk] at hne
            rw [take_cons (B.drop at_) k hDk]
            exact num_ref HH.out (by rw [List.length_take]; omega) (.inl (by rw [hBx, ← HX.out]; exact h128)) hne m hm s
          by_cases hpar : U' % 2 = 1
          · have hpi : (U' : Int) % 2 = 1 := by omega
            have hun : -((U' : Int) / 2) - 1 = unz U' := by unfold unz; rw [if_neg (by omega)]; omega
            go_wp2
            go_quiet (fail)
            go_wp2
            go_quiet (fail)
            go_wp2_with fail
            try rw [hun]
            clear hun cx d0 d1 d2 f1 f2 hU'e
            have hin := unz_in hU'l
            refine (refInt_ol (unz U') _ hin.1 hin.2).mono ?_
            rintro e w2 ⟨v1, rfl, ho, hb⟩
            have hIW := (HM.out _).1.later hb
            have hGW := grown_trans (HM.out _).2 (grown_below (r := some g) hb)
            have HIW : Hid (In w2 g (some ⟨b, off, none⟩) c B (at_ + (k + 1)) bad) := hIW
            have HGW : Hid (w.grownBy w2 (some g)) := hGW
            have x0 : w2.cell? ⟨g, 0, none⟩ = some (.slice (some ⟨b, off, none⟩) B.length c) := by rw [hIW.own.cell 0 (by decide)]; rfl
            have x1 : w2.cell? ⟨g, 1, none⟩ = some (.int .i64 ((at_ : Int) + (k : Int) + 1)) := by rw [hIW.own.cell 1 (by decide), show (at_ : Int) + (k : Int) + 1 = ((at_ + (k + 1) : Nat) : Int) by omega]; rfl
            have x2 : w2.cell? ⟨g, 2, none⟩ = some (.bool bad) := by rw [hIW.own.cell 2 (by decide)]; rfl
            have y2 := hIW.own.soft 2
            obtain ⟨a1, c1, rfl, hvb, -, -⟩ := ho.conv
            have V1 : ∀ q, (convert 22 9 (.slice a1 (encInt (unz U')).length c1)).run Tryd.prog (w2.drewN q) = .ok (.string (lstr (encInt (unz U')))) (w2.drewN q) := fun q => by
              have h := conv_bytes (w2.drewN q) a1 _ c1 _ (hvb.later (below_drewN (Below.refl _ _) q))
              rw [bstr_lat] at h
              exact h
            have hS1 := slice_mid b off B.length c at_ (at_ + (k + 1)) (at_ : Int) ((at_ : Int) + (k : Int) + 1) rfl (by omega) (by omega) (by omega)
            have hS2 := sliceAt_mid b off B.length c at_ (at_ + (k + 1)) (at_ : Int) ((at_ : Int) + (k : Int) + 1) rfl (by omega) (by omega) (by omega)
            rw [show at_ + (k + 1) - at_ = k + 1 by omega] at hS1 hS2
            have V2 : ∀ q, (convert 22 9 (.slice (some ⟨b, off + at_, none⟩) (k + 1) (c - at_))).run Tryd.prog (w2.drewN q) = .ok (.string (lstr ((B.drop at_).take (k + 1)))) (w2.drewN q) := fun q => by
              have h := conv_bytes (w2.drewN q) (some ⟨b, off + at_, none⟩) (k + 1) (c - at_) (fun i => lat B (at_ + i)) (fun i hi => by
                obtain ⟨b', o2, e, hc⟩ := (hIW.bytes.later (below_drewN (Below.refl _ _) q)) (at_ + i) (by omega)
                cases e
                exact ⟨b, off + at_, rfl, by rw [Nat.add_assoc]; exact hc⟩)
              rw [bstr_mid B at_ (k + 1) (by omega)] at h
              exact h
            clear hIW hGW ho hb hvb HM
            by_cases hq : encInt (unz U') = (B.drop at_).take (k + 1)
            · have hSS : ((lstr (encInt (unz U'))).toList == (lstr ((B.drop at_).take (k + 1))).toList) = true := beq_str (by rw [hq])
              have FIN : Hid (∀ q, NumR w g (some ⟨b, off, none⟩) c B at_ bad (.returned (.int .i64 (unz U'))) (w2.drewN q)) := fun q => numR_ok hin HGW.out HIW.out hq q
              clear hq
              generalize lstr (encInt (unz U')) = S1 at *
              generalize lstr ((B.drop at_).take (k + 1)) = S2 at *
              go_wp2
              go_quiet (fail)
              go_wp2
              go_ret
              exact FIN.out _
            · have hSS : ((lstr (encInt (unz U'))).toList == (lstr ((B.drop at_).take (k + 1))).toList) = false := bne_str (fun h => hq (lstr_inj h))
              have FIN : Hid (∀ q, NumR w g (some ⟨b, off, none⟩) c B at_ bad (.returned (.int .i64 0)) ((w2.drewN q).setCell ⟨g, 2, none⟩ (.bool true))) := fun q => numR_bad HGW.out HIW.out (HPB.out hq) q
              clear hq
              generalize lstr (encInt (unz U')) = S1 at *
              generalize lstr ((B.drop at_).take (k + 1)) = S2 at *
              go_wp2
              go_quiet (fail)
              go_wp2
              go_ret
              exact FIN.out _
          · have hpi : (U' : Int) % 2 = 0 := by omega
            have hun : (U' : Int) / 2 = unz U' := by unfold unz; rw [if_pos (by omega)]; omega
            go_wp2
            go_quiet (fail)
            go_wp2
            go_quiet (fail)
            go_wp2_with fail
            try rw [hun]
            clear hun cx d0 d1 d2 f1 f2 hU'e
            have hin := unz_in hU'l
            refine (refInt_ol (unz U') _ hin.1 hin.2).mono ?_
            rintro e w2 ⟨v1, rfl, ho, hb⟩
            have hIW := (HM.out _).1.later hb
            have hGW := grown_trans (HM.out _).2 (grown_below (r := some g) hb)
            have HIW : Hid (In w2 g (some ⟨b, off, none⟩) c B (at_ + (k + 1)) bad) := hIW
            have HGW : Hid (w.grownBy w2 (some g)) := hGW
            have x0 : w2.cell? ⟨g, 0, none⟩ = some (.slice (some ⟨b, off, none⟩) B.length c) := by rw [hIW.own.cell 0 (by decide)]; rfl
            have x1 : w2.cell? ⟨g, 1, none⟩ = some (.int .i64 ((at_ : Int) + (k : Int) + 1)) := by rw [hIW.own.cell 1 (by decide), show (at_ : Int) + (k : Int) + 1 = ((at_ + (k + 1) : Nat) : Int) by omega]; rfl
            have x2 : w2.cell? ⟨g, 2, none⟩ = some (.bool bad) := by rw [hIW.own.cell 2 (by decide)]; rfl
            have y2 := hIW.own.soft 2
            obtain ⟨a1, c1, rfl, hvb, -, -⟩ := ho.conv
            have V1 : ∀ q, (convert 22 9 (.slice a1 (encInt (unz U')).length c1)).run Tryd.prog (w2.drewN q) = .ok (.string (lstr (encInt (unz U')))) (w2.drewN q) := fun q => by
              have h := conv_bytes (w2.drewN q) a1 _ c1 _ (hvb.later (below_drewN (Below.refl _ _) q))
              rw [bstr_lat] at h
              exact h
            have hS1 := slice_mid b off B.length c at_ (at_ + (k + 1)) (at_ : Int) ((at_ : Int) + (k : Int) + 1) rfl (by omega) (by omega) (by omega)
            have hS2 := sliceAt_mid b off B.length c at_ (at_ + (k + 1)) (at_ : Int) ((at_ : Int) + (k : Int) + 1) rfl (by omega) (by omega) (by omega)
            rw [show at_ + (k + 1) - at_ = k + 1 by omega] at hS1 hS2
            have V2 : ∀ q, (convert 22 9 (.slice (some ⟨b, off + at_, none⟩) (k + 1) (c - at_))).run Tryd.prog (w2.drewN q) = .ok (.string (lstr ((B.drop at_).take (k + 1)))) (w2.drewN q) := fun q => by
              have h := conv_bytes (w2.drewN q) (some ⟨b, off + at_, none⟩) (k + 1) (c - at_) (fun i => lat B (at_ + i)) (fun i hi => by
                obtain ⟨b', o2, e, hc⟩ := (hIW.bytes.later (below_drewN (Below.refl _ _) q)) (at_ + i) (by omega)
                cases e
                exact ⟨b, off + at_, rfl, by rw [Nat.add_assoc]; exact hc⟩)
              rw [bstr_mid B at_ (k + 1) (by omega)] at h
              exact h
            clear hIW hGW ho hb hvb HM
            by_cases hq : encInt (unz U') = (B.drop at_).take (k + 1)
            · have hSS : ((lstr (encInt (unz U'))).toList == (lstr ((B.drop at_).take (k + 1))).toList) = true := beq_str (by rw [hq])
              have FIN : Hid (∀ q, NumR w g (some ⟨b, off, none⟩) c B at_ bad (.returned (.int .i64 (unz U'))) (w2.drewN q)) := fun q => numR_ok hin HGW.out HIW.out hq q
              clear hq
              generalize lstr (encInt (unz U')) = S1 at *
              generalize lstr ((B.drop at_).take (k + 1)) = S2 at *
              go_wp2
              go_quiet (fail)
              go_wp2
              go_ret
              exact FIN.out _
            · have hSS : ((lstr (encInt (unz U'))).toList == (lstr ((B.drop at_).take (k + 1))).toList) = false := bne_str (fun h => hq (lstr_inj h))
              have FIN : Hid (∀ q, NumR w g (some ⟨b, off, none⟩) c B at_ bad (.returned (.int .i64 0)) ((w2.drewN q).setCell ⟨g, 2, none⟩ (.bool true))) := fun q => numR_bad HGW.out HIW.out (HPB.out hq) q
              clear hq
              generalize lstr (encInt (unz U')) = S1 at *
              generalize lstr ((B.drop at_).take (k + 1)) = S2 at *
              go_wp2
              go_quiet (fail)
              go_wp2
              go_ret
              exact FIN.out _
        · have h128i : (128 : Int) ≤ (X : Int) := by omega
          have HH' : Hid (Hi ((B.drop at_).take (k + 1))) := by
            have hDk : k < (B.drop at_).length := by rw [List.length_drop]; omega
            have hBx : (B.drop at_)[k] = lat B (at_ + k) := by simp [lat, hlt]
            rw [Hid, take_snoc _ k hDk]
            intro d hd
            rcases List.mem_append.1 hd with h | h
            · exact HH.out d h
            · rw [List.mem_singleton.1 h, hBx, ← HX.out]; omega
          go_wp2
          go_quiet (fail)
          go_wp2
          go_quiet (fail)
          go_wp2
          refine ⟨⟨k + 1, by omega, by omega, by go_num, by rw [HU'd.out], HH'.out, (HM.out _).1, (HM.out _).2⟩, ?_⟩
          simp [intOf]; omega
    · obtain rfl : k = 10 := by omega
      have hlt : at_ + 9 < B.length := by omega
      obtain ⟨b, off, rfl, -⟩ := HIk.out.bytes (at_ + 9) hlt
      have hU : val ((B.drop at_).take 10) % 18446744073709551616 < 18446744073709551616 := Nat.mod_lt _ (by decide)
      have HU : Hid (∃ U, U = val ((B.drop at_).take 10) % 18446744073709551616) := ⟨_, rfl⟩
      obtain ⟨U, hUe⟩ := HU.out
      rw [← hUe] at hU ⊢
      have HUe : Hid (U = val ((B.drop at_).take 10) % 18446744073709551616) := hUe
      clear hUe HU
      have HPB : Hid (¬ encInt (unz U) = (B.drop at_).take 10 → ∀ m s, InI m → B.drop at_ ≠ encInt m ++ s) := fun hne m s hm => by
        have hDk : 9 < (B.drop at_).length := by rw [List.length_drop]; omega
        have hHH := HH.out
        rw [encInt_unz, HUe.out, take_snoc _ 9 hDk] at hne
        rw [take_snoc _ 9 hDk] at hHH
        rw [take_cons (B.drop at_) 9 hDk]
        exact num_ref (fun d hd => hHH d (List.mem_append_left _ hd)) (by rw [List.length_take]; omega) (.inr ⟨by rw [List.length_take]; omega, hHH _ (by simp)⟩) hne m hm s
      by_cases hpar : U % 2 = 1
      · have hpi : (U : Int) % 2 = 1 := by omega
        have hun : -((U : Int) / 2) - 1 = unz U := by unfold unz; rw [if_neg (by omega)]; omega
        go_wp2_with fail
        try rw [hun]
        clear hun d0 d1 d2 f1 f2
        have hin := unz_in hU
        refine (refInt_ol (unz U) _ hin.1 hin.2).mono ?_
        rintro e w2 ⟨v1, rfl, ho, hb⟩
        have hIW := HIk.out.later hb
        have hGW := grown_trans HGk.out (grown_below (r := some g) hb)
        have HIW : Hid (In w2 g (some ⟨b, off, none⟩) c B (at_ + 10) bad) := hIW
        have HGW : Hid (w.grownBy w2 (some g)) := hGW
        have x0 : w2.cell? ⟨g, 0, none⟩ = some (.slice (some ⟨b, off, none⟩) B.length c) := by rw [hIW.own.cell 0 (by decide)]; rfl
        have x1 : w2.cell? ⟨g, 1, none⟩ = some (.int .i64 ((at_ : Int) + 10)) := by rw [hIW.own.cell 1 (by decide), show (at_ : Int) + 10 = ((at_ + 10 : Nat) : Int) by omega]; rfl
        have x2 : w2.cell? ⟨g, 2, none⟩ = some (.bool bad) := by rw [hIW.own.cell 2 (by decide)]; rfl
        have y2 := hIW.own.soft 2
        obtain ⟨a1, c1, rfl, hvb, -, -⟩ := ho.conv
        have V1 : ∀ q, (convert 22 9 (.slice a1 (encInt (unz U)).length c1)).run Tryd.prog (w2.drewN q) = .ok (.string (lstr (encInt (unz U)))) (w2.drewN q) := fun q => by
          have h := conv_bytes (w2.drewN q) a1 _ c1 _ (hvb.later (below_drewN (Below.refl _ _) q))
          rw [bstr_lat] at h
          exact h
        have hS1 := slice_mid b off B.length c at_ (at_ + 10) (at_ : Int) ((at_ : Int) + 10) rfl (by omega) (by omega) (by omega)
        have hS2 := sliceAt_mid b off B.length c at_ (at_ + 10) (at_ : Int) ((at_ : Int) + 10) rfl (by omega) (by omega) (by omega)
        rw [show at_ + 10 - at_ = 10 by omega] at hS1 hS2
        have V2 : ∀ q, (convert 22 9 (.slice (some ⟨b, off + at_, none⟩) 10 (c - at_))).run Tryd.prog (w2.drewN q) = .ok (.string (lstr ((B.drop at_).take 10))) (w2.drewN q) := fun q => by
          have h := conv_bytes (w2.drewN q) (some ⟨b, off + at_, none⟩) 10 (c - at_) (fun i => lat B (at_ + i)) (fun i hi => by
            obtain ⟨b', o2, e, hc⟩ := (hIW.bytes.later (below_drewN (Below.refl _ _) q)) (at_ + i) (by omega)
            cases e
            exact ⟨b, off + at_, rfl, by rw [Nat.add_assoc]; exact hc⟩)
          rw [bstr_mid B at_ 10 (by omega)] at h
          exact h
        clear hIW hGW ho hb hvb HIk HGk
        by_cases hq : encInt (unz U) = (B.drop at_).take 10
        · have hSS : ((lstr (encInt (unz U))).toList == (lstr ((B.drop at_).take 10)).toList) = true := beq_str (by rw [hq])
          have FIN : Hid (∀ q, NumR w g (some ⟨b, off, none⟩) c B at_ bad (.returned (.int .i64 (unz U))) (w2.drewN q)) := fun q => numR_ok hin HGW.out HIW.out hq q
          clear hq
          generalize lstr (encInt (unz U)) = S1 at *
          generalize lstr ((B.drop at_).take 10) = S2 at *
          go_wp2
          go_quiet (fail)
          go_wp2
          go_ret
          exact FIN.out _
        · have hSS : ((lstr (encInt (unz U))).toList == (lstr ((B.drop at_).take 10)).toList) = false := bne_str (fun h => hq (lstr_inj h))
          have FIN : Hid (∀ q, NumR w g (some ⟨b, off, none⟩) c B at_ bad (.returned (.int .i64 0)) ((w2.drewN q).setCell ⟨g, 2, none⟩ (.bool true))) := fun q => numR_bad HGW.out HIW.out (HPB.out hq) q
          clear hq
          generalize lstr (encInt (unz U)) = S1 at *
          generalize lstr ((B.drop at_).take 10) = S2 at *
          go_wp2
          go_quiet (fail)
          go_wp2
          go_ret
          exact FIN.out _
      · have hpi : (U : Int) % 2 = 0 := by omega
        have hun : (U : Int) / 2 = unz U := by unfold unz; rw [if_pos (by omega)]; omega
        go_wp2_with fail
        try rw [hun]
        clear hun d0 d1 d2 f1 f2
        have hin := unz_in hU
        refine (refInt_ol (unz U) _ hin.1 hin.2).mono ?_
        rintro e w2 ⟨v1, rfl, ho, hb⟩
        have hIW := HIk.out.later hb
        have hGW := grown_trans HGk.out (grown_below (r := some g) hb)
        have HIW : Hid (In w2 g (some ⟨b, off, none⟩) c B (at_ + 10) bad) := hIW
        have HGW : Hid (w.grownBy w2 (some g)) := hGW
        have x0 : w2.cell? ⟨g, 0, none⟩ = some (.slice (some ⟨b, off, none⟩) B.length c) := by rw [hIW.own.cell 0 (by decide)]; rfl
        have x1 : w2.cell? ⟨g, 1, none⟩ = some (.int .i64 ((at_ : Int) + 10)) := by rw [hIW.own.cell 1 (by decide), show (at_ : Int) + 10 = ((at_ + 10 : Nat) : Int) by omega]; rfl
        have x2 : w2.cell? ⟨g, 2, none⟩ = some (.bool bad) := by rw [hIW.own.cell 2 (by decide)]; rfl
        have y2 := hIW.own.soft 2
        obtain ⟨a1, c1, rfl, hvb, -, -⟩ := ho.conv
        have V1 : ∀ q, (convert 22 9 (.slice a1 (encInt (unz U)).length c1)).run Tryd.prog (w2.drewN q) = .ok (.string (lstr (encInt (unz U)))) (w2.drewN q) := fun q => by
          have h := conv_bytes (w2.drewN q) a1 _ c1 _ (hvb.later (below_drewN (Below.refl _ _) q))
          rw [bstr_lat] at h
          exact h
        have hS1 := slice_mid b off B.length c at_ (at_ + 10) (at_ : Int) ((at_ : Int) + 10) rfl (by omega) (by omega) (by omega)
        have hS2 := sliceAt_mid b off B.length c at_ (at_ + 10) (at_ : Int) ((at_ : Int) + 10) rfl (by omega) (by omega) (by omega)
        rw [show at_ + 10 - at_ = 10 by omega] at hS1 hS2
        have V2 : ∀ q, (convert 22 9 (.slice (some ⟨b, off + at_, none⟩) 10 (c - at_))).run Tryd.prog (w2.drewN q) = .ok (.string (lstr ((B.drop at_).take 10))) (w2.drewN q) := fun q => by
          have h := conv_bytes (w2.drewN q) (some ⟨b, off + at_, none⟩) 10 (c - at_) (fun i => lat B (at_ + i)) (fun i hi => by
            obtain ⟨b', o2, e, hc⟩ := (hIW.bytes.later (below_drewN (Below.refl _ _) q)) (at_ + i) (by omega)
            cases e
            exact ⟨b, off + at_, rfl, by rw [Nat.add_assoc]; exact hc⟩)
          rw [bstr_mid B at_ 10 (by omega)] at h
          exact h
        clear hIW hGW ho hb hvb HIk HGk
        by_cases hq : encInt (unz U) = (B.drop at_).take 10
        · have hSS : ((lstr (encInt (unz U))).toList == (lstr ((B.drop at_).take 10)).toList) = true := beq_str (by rw [hq])
          have FIN : Hid (∀ q, NumR w g (some ⟨b, off, none⟩) c B at_ bad (.returned (.int .i64 (unz U))) (w2.drewN q)) := fun q => numR_ok hin HGW.out HIW.out hq q
          clear hq
          generalize lstr (encInt (unz U)) = S1 at *
          generalize lstr ((B.drop at_).take 10) = S2 at *
          go_wp2
          go_quiet (fail)
          go_wp2
          go_ret
          exact FIN.out _
        · have hSS : ((lstr (encInt (unz U))).toList == (lstr ((B.drop at_).take 10)).toList) = false := bne_str (fun h => hq (lstr_inj h))
          have FIN : Hid (∀ q, NumR w g (some ⟨b, off, none⟩) c B at_ bad (.returned (.int .i64 0)) ((w2.drewN q).setCell ⟨g, 2, none⟩ (.bool true))) := fun q => numR_bad HGW.out HIW.out (HPB.out hq) q
          clear hq
          generalize lstr (encInt (unz U)) = S1 at *
          generalize lstr ((B.drop at_).take 10) = S2 at *
          go_wp2
          go_quiet (fail)
          go_wp2
          go_ret
          exact FIN.out _
end Go.Proofs.YtafighjlciglpaaDoor
