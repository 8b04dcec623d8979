import Derived.Test.YtfiekfahpdojeaaGreatDoorXpJ
namespace Go.Proofs.YtfiekfahpdojeaaGreatDoor
open Go.RowKit
set_option linter.unusedVariables false
set_option linter.unusedSimpArgs false
set_option maxRecDepth 100000

attribute [local go_sem] bodyPost_pan
theorem first_any {L : ByteArray → Int → Int → ByteArray → Prop} {G : World → Prop} {g E n : Nat} (hL : OneL L) (hG : ∀ W W', G W → W.grownBy W' (some g) → G W') (hG2 : ∀ W W' k, G W → W.grownBy W' (some k) → g < k → G W') (hR : RdOk L G) (hP : ∀ m, m < n → Rdr L G g E 41 0 m) : Rdr L G g E 161 7 n := by
  intro ts lev w hn hf h hw
  cases ts with
  | nil => exact first_end lev w h
  | cons t ts =>
    have hlt : ts.length < n := by simp at hn; omega
    by_cases hl : isLit t
    · exact first_lit hG hR t ts lev w (hf t (by simp)) h hw hl
    · by_cases ho : t.tx = bOpen
      · exact first_open hG t ts (hP _ hlt) lev w (fun x hx => hf x (by simp [hx])) h hw hl ho
      · exact first_named hL hG hG2 t ts (hP _ hlt) lev w hf h hw hl ho
/-- All that read tokens. -/
theorem readers {L : ByteArray → Int → Int → ByteArray → Prop} {G : World → Prop} {g E : Nat} (hL : OneL L) (hG : ∀ W W', G W → W.grownBy W' (some g) → G W') (hG2 : ∀ W W' k, G W → W.grownBy W' (some k) → g < k → G W') (hR : RdOk L G) (n : Nat) :
    Rdr L G g E 41 0 n ∧ Rdr L G g E 93 2 n ∧ Rdr L G g E 157 6 n := by
  induction n using Nat.strongRecOn with
  | ind n ih =>
    have f := first_any (E := E) hL hG hG2 hR (fun m hm => (ih m hm).1)
    have mi := minus_any hL hG (fun m hm => (ih m hm).2.2) f
    have c := comparison_any hL hG (sum_any hL hG (product_any hL hG mi))
    have no := not_any hL hG (fun m hm => (ih m hm).2.1) c
    exact ⟨or_any hL hG (and_any hL hG no), no, mi⟩

theorem tok_few : ∀ (n pl : Nat) (l : List UInt8) (ts : List Tk), tok n pl l = .ok ts → ts.length ≤ l.length ∧ ∀ t ∈ ts, t.kd ≠ 0 ∧ t.tx.size ≠ 0 ∧ t.tx.size ≤ l.length
  | n, pl, [], ts, h => by
    have : tok n pl [] = .ok [] := by cases n <;> rfl
    rw [this] at h
    cases h
    exact ⟨Nat.le_refl _, fun t ht => by cases ht⟩
  | 0, pl, c :: r, ts, h => by cases h
  | n + 1, pl, c :: r, ts, h => by
    cases hs : isSp c with
    | true =>
      rw [tok_space hs] at h
      obtain ⟨h1, h2⟩ := tok_few n _ _ _ h
      simp only [List.length_cons]
      exact ⟨by omega, fun t ht => ⟨(h2 t ht).1, (h2 t ht).2.1, by have := (h2 t ht).2.2; omega⟩⟩
    | false =>
      cases ht : tokAt (c :: r) with
      | none => rw [tok_none hs ht] at h; cases h
      | some p =>
        obtain ⟨kd, m⟩ := p
        rw [tok_some hs ht] at h
        obtain ⟨hm0, hm1⟩ := tokAt_len ht
        cases hq : tok n (pl + m) ((c :: r).drop m) with
        | error e => rw [hq] at h; cases h
        | ok l' =>
          rw [hq] at h
          cases h
          obtain ⟨h1, h2⟩ := tok_few n _ _ _ hq
          rw [List.length_drop] at h1
          refine ⟨by simp only [List.length_cons] at *; omega, fun t ht' => ?_⟩
          rcases List.mem_cons.1 ht' with rfl | ht'
          · have hk : kd ≠ 0 := by
              unfold tokAt at ht
              dsimp only at ht
              split at ht
              · cases ht; decide
              · split at ht
                · cases ht; decide
                · split at ht
                  · rw [Option.map_eq_some_iff] at ht
                    obtain ⟨i, _, h3⟩ := ht
                    cases h3; decide
                  · split at ht
                    · cases ht; decide
                    · cases ht
            have hz : (⟨((c :: r).take m).toArray⟩ : ByteArray).size = m := by
              show (((c :: r).take m).toArray).size = m
              rw [List.size_toArray, List.length_take]
              omega
            exact ⟨hk, by show (⟨((c :: r).take m).toArray⟩ : ByteArray).size ≠ 0; omega, by show (⟨((c :: r).take m).toArray⟩ : ByteArray).size ≤ _; omega⟩
          · obtain ⟨a, b, c'⟩ := h2 t ht'
            rw [List.length_drop] at c'
            exact ⟨a, b, by omega⟩

/-- What a text is read to. -/
inductive PX (L : ByteArray → Int → Int → ByteArray → Prop) (s : ByteArray) : Except Flt X → Prop
  | full : 200 < s.size → PX L s (.error ⟨0, 5⟩)
  | tok {p} : s.size ≤ 200 → tok s.size 0 s.data.toList = .error p → PX L s (.error ⟨p, 1⟩)
  | bad {ts f} : s.size ≤ 200 → Go.Proofs.YtfiekfahpdojeaaGreatDoor.tok s.size 0 s.data.toList = .ok ts → Ps L s.size (.D 0) 0 ts (.error f) → PX L s (.error f)
  | more {ts x t ts'} : s.size ≤ 200 → Go.Proofs.YtfiekfahpdojeaaGreatDoor.tok s.size 0 s.data.toList = .ok ts → Ps L s.size (.D 0) 0 ts (.ok (x, t :: ts')) → PX L s (.error ⟨t.pl, 1⟩)
  | ok {ts x} : s.size ≤ 200 → Go.Proofs.YtfiekfahpdojeaaGreatDoor.tok s.size 0 s.data.toList = .ok ts → Ps L s.size (.D 0) 0 ts (.ok (x, [])) → PX L s (.ok x)
theorem PX.one {L : ByteArray → Int → Int → ByteArray → Prop} {s : ByteArray} (hL : OneL L) {o o' : Except Flt X} (h : PX L s o) (h' : PX L s o') : o = o' := by
  cases h with
  | full a => cases h' with
    | full => rfl
    | tok b _ => omega
    | bad b _ _ => omega
    | more b _ _ => omega
    | ok b _ _ => omega
  | tok a b => cases h' with
    | full c => omega
    | tok _ c => rw [b] at c; cases c; rfl
    | bad _ c _ => rw [b] at c; cases c
    | more _ c _ => rw [b] at c; cases c
    | ok _ c _ => rw [b] at c; cases c
  | bad a b d => cases h' with
    | full c => omega
    | tok _ c => rw [b] at c; cases c
    | bad _ c e => rw [b] at c; cases c; cases d.one hL _ e; rfl
    | more _ c e => rw [b] at c; cases c; cases d.one hL _ e
    | ok _ c e => rw [b] at c; cases c; cases d.one hL _ e
  | more a b d => cases h' with
    | full c => omega
    | tok _ c => rw [b] at c; cases c
    | bad _ c e => rw [b] at c; cases c; cases d.one hL _ e
    | more _ c e => rw [b] at c; cases c; cases d.one hL _ e; rfl
    | ok _ c e => rw [b] at c; cases c; cases d.one hL _ e
  | ok a b d => cases h' with
    | full c => omega
    | tok _ c => rw [b] at c; cases c
    | bad _ c e => rw [b] at c; cases c; cases d.one hL _ e
    | more _ c e => rw [b] at c; cases c; cases d.one hL _ e
    | ok _ c e => rw [b] at c; cases c; cases d.one hL _ e; rfl

/-- What reading a text leaves. -/
def TPost (L : ByteArray → Int → Int → ByteArray → Prop) (w : World) (s : ByteArray) (e : Ending) (w' : World) : Prop := Below w.heap.size w w' ∧ ∃ o, PX L s o ∧
  match o with
  | .ok x => ∃ t p, e = .returned (.iface t p) ∧ Nd w' (w.heap.size - 1) x (.iface t p)
  | .error f => e = .panicked [{ v := fltV f.pl f.why, recovered := false }]
set_option maxHeartbeats 4000000 in
theorem parse_any {L : ByteArray → Int → Int → ByteArray → Prop} {G : World → Prop} (hL : OneL L) (hR : RdOk L G) (s : ByteArray) (w : World) (hG : ∀ W W' r, (∀ k, r = some k → w.heap.size ≤ k) → G W → W.grownBy W' r → G W') (hw : G w) :
    Calls Tryz.prog 19 #[.string s] w (TPost L w s) := by
  by_cases hs : 200 < s.size
  · have hsi : (200 : Int) < (s.size : Int) := by omega
    have FIN : Hid (TPost L w s (.panicked [{ v := fltV 0 5, recovered := false }]) w) := ⟨Below.refl _ _, .error ⟨0, 5⟩, .full hs, rfl⟩
    clear hL hR hG hw hs
    go_enter Tryz.func19, Tryz.ntmps19
    go_wp2_with fail
    exact ⟨rfl, FIN.out⟩
  · have hsi : ¬ (200 : Int) < (s.size : Int) := by omega
    have hs2 : s.size ≤ 200 := by omega
    have HT : Hid (Calls Tryz.prog 40 #[.string s] w (ToksPost w s)) := tokens_any s w hs2
    have HW : Hid (G w) := hw
    have HG : Hid (∀ W W' r, (∀ k, r = some k → w.heap.size ≤ k) → G W → W.grownBy W' r → G W') := hG
    have HRD : Hid (∀ g E n, w.heap.size ≤ g → Rdr L G g E 41 0 n) := fun g E n hg => (readers hL (fun W W' a b => hG W W' (some g) (fun k hk => by cases hk; exact hg) a b) (fun W W' k a b c => hG W W' (some k) (fun j hj => by cases hj; omega) a b) hR n).1
    clear hL hR hG hw hs
    go_enter Tryz.func19, Tryz.ntmps19
    go_wp2_with fail
    refine HT.out.mono ?_
    rintro e w1 ⟨hb1, hq⟩
    cases ht : tok s.size 0 s.data.toList with
    | error p =>
      rw [ht] at hq
      subst hq
      exact ⟨hb1, .error ⟨p, 1⟩, .tok hs2 ht, rfl⟩
    | ok ts =>
      rw [ht] at hq
      obtain ⟨x, rfl, hO⟩ := hq
      have hlen : s.data.toList.length = s.size := by simp
      obtain ⟨hc1, hc2⟩ := tok_few _ _ _ _ ht
      rw [hlen] at hc1 hc2
      rcases hO.2 with ⟨-, h0⟩ | ⟨b, cap, cur, rfl, hb, hcur, hle, hmx, -⟩
      · simp at h0
      have hbl : b < w1.heap.size := by
        rcases Nat.lt_or_ge b w1.heap.size with h | h
        · exact h
        · rw [Array.getElem?_eq_none h] at hcur; cases hcur
      have hPS : PS (w1.alloc (.cells #[.slice (some ⟨b, 0, none⟩) (ts.length + 1) cap, .int .i64 0] 116)) w1.heap.size s.size ts 0 := by
        have hTk : TkAt w1 b 0 (ts ++ [⟨s.size, 0, ⟨#[]⟩⟩]) := hO.at
        refine ⟨b, 0, cap, Own.new w1 116 2 #[.slice (some ⟨b, 0, none⟩) (ts.length + 1) cap, .int .i64 0] rfl, hbl, by simp at hle; omega, hmx, hTk.grown (r := none) (xgBelow (xbel1 _ _)) (by simp), fun t h => ⟨(hc2 t h).1, (hc2 t h).2.1⟩, by omega, by decide⟩
      have hFew : Few ts := fun t h => by have := (hc2 t h).2.2; omega
      have A4 : Hid (PS (w1.alloc (.cells #[.slice (some ⟨b, 0, none⟩) (ts.length + 1) cap, .int .i64 0] 116)) w1.heap.size s.size ts 0) := hPS
      have A2 : Hid (Few ts) := hFew
      have A0 : Hid (tok s.size 0 s.data.toList = .ok ts) := ht
      have A1 : Hid (Below w.heap.size w w1) := hb1
      have hz1 := hb1.size
      have A6 : Hid (G (w1.alloc (.cells #[.slice (some ⟨b, 0, none⟩) (ts.length + 1) cap, .int .i64 0] 116))) := HG.out _ _ none (by simp) HW.out (xgBelow (hb1.trans ((xbel1 _ _).mono hz1)))
      have HNE : Hid (∀ t ∈ ts, t.tx.size ≠ 0) := fun t h => (hc2 t h).2.1
      rw [show (ts ++ [(⟨s.size, 0, ⟨#[]⟩⟩ : Tk)]).length = ts.length + 1 by simp]
      clear hPS hFew ht hb1 hO hc1 hc2 hcur hle hmx hb hlen HW HT
      go_wp2_with fail
      refine (HRD.out w1.heap.size s.size ts.length hz1 ts 0 _ (Nat.le_refl _) A2.out A4.out A6.out).mono ?_
      intro e w2 hpp
      rcases hpp.iface with ⟨hg2, x, ts2, t2, p2, hp2, rfl, hn2, hs2'⟩ | ⟨hg2, f, hp2, rfl⟩
      · have hB2 : Below w.heap.size w w2 := xbNew (A1.out.trans ((xbel1 _ _).mono hz1)) hg2 (fun k hk => by cases hk; exact hz1)
        have B3 : Hid (Nd w2 w1.heap.size x (.iface t2 p2)) := Nd.up (by simp) _ _ hn2
        have B1 : Hid (Below w.heap.size w w2) := hB2
        have B4 : Hid (PS w2 w1.heap.size s.size ts2 0) := hs2'
        have BP : Hid (Ps L s.size (.D 0) 0 ts (.ok (x, ts2))) := hp2
        clear hB2 hn2 hs2' hp2 hpp A1 A4 A6 hg2
        go_wp2_with fail
        refine (want_any w1.heap.size s.size 0 ts2 _ _ B4.out).mono ?_
        rintro e w3 ⟨hg3, hp3⟩
        have hB3 : Below w.heap.size w w3 := xbNew B1.out hg3 (fun k hk => by cases hk; exact hz1)
        cases ts2 with
        | nil =>
          rw [if_pos (by rfl)] at hp3
          obtain ⟨rfl, -⟩ := hp3
          have FIN : Hid (TPost L w s (.returned (.iface t2 p2)) w3) := ⟨hB3, .ok x, .ok hs2 A0.out BP.out, _, _, rfl, Nd.up (by omega) _ _ (Nd.grown hg3 _ _ B3.out)⟩
          clear hg3 hB3 B1 B3 B4
          go_wp2_with fail
          go_ret
          exact FIN.out
        | cons t3 ts3 =>
          have hne : ¬ (hd s.size (t3 :: ts3)).tx = ⟨#[]⟩ := fun e => by
            have h1 : t3.tx = ⟨#[]⟩ := e
            have h2 := HNE.out t3 (BP.out.suffix x _ rfl t3 (by simp))
            rw [h1] at h2
            exact h2 rfl
          rw [if_neg hne] at hp3
          subst hp3
          exact ⟨rfl, hB3, .error ⟨t3.pl, 1⟩, .more hs2 A0.out BP.out, rfl⟩
      · exact ⟨rfl, xbNew (A1.out.trans ((xbel1 _ _).mono hz1)) hg2 (fun k hk => by cases hk; exact hz1), .error f, .bad hs2 A0.out hp2, rfl⟩
end Go.Proofs.YtfiekfahpdojeaaGreatDoor
