import Derived.Test.YtakbnhknkbmhlaaDoorRsI
import Derived.Test.YtakbnhknkbmhlaaDoorTldB
namespace Go.Proofs.YtakbnhknkbmhlaaDoor
open Go.RowKit
set_option linter.unusedVariables false
set_option maxRecDepth 100000
attribute [local go_sem ↓] neq24 eql24
attribute [local go_sem] guard24

set_option maxHeartbeats 2000000 in
theorem reads_walk (s : ByteArray) (w : World) (hs : s.size ≤ 140737488355327) (h2 : Sen w) (h3 : Sen3 w) (ht : Tab w) (he : Ety w) :
    Calls Tryd.prog 4 #[.string s] w fun e w' => e = .returned (.bool true) ∧ Below w.heap.size w w' := by
  have HQ : Hid (Calls Tryd.prog 13 #[.string s] w (QPost w s)) := read_tot s w hs h2 h3 ht
  have HR : Hid (∀ W, Calls Tryd.prog 14 #[.string s] W (RPost W s)) := fun W => refRead_any s W hs
  have HE : Hid (Ety w) := he
  clear hs h2 h3 ht he
  go_enter Tryd.func4, Tryd.ntmps4
  go_wp2_with fail
  refine HQ.out.mono ?_
  rintro e w1 ⟨hb1, hcase⟩
  rcases hcase with ⟨k, n, t, hv, hn0, hn1, hsh, rfl⟩ | ⟨hnone, rfl⟩
  · go_wp2_with fail
    have hA := bel1 w1 (.cells #[.int .i64 k, .int .i64 n, .string t] 24)
    have c0 : (w1.alloc (.cells #[.int .i64 k, .int .i64 n, .string t] 24)).cell? ⟨w1.heap.size, 0, none⟩ = some (.int .i64 k) := by go_simp
    have c1 : (w1.alloc (.cells #[.int .i64 k, .int .i64 n, .string t] 24)).cell? ⟨w1.heap.size, 1, none⟩ = some (.int .i64 n) := by go_simp
    have c2 : (w1.alloc (.cells #[.int .i64 k, .int .i64 n, .string t] 24)).cell? ⟨w1.heap.size, 2, none⟩ = some (.string t) := by go_simp
    have hB := hb1.trans (hA.mono hb1.size)
    clear hA hb1
    generalize w1.alloc (.cells #[.int .i64 k, .int .i64 n, .string t] 24) = W at *
    refine (HR.out W).mono ?_
    rintro e w2 ⟨k', n', t', ok, rfl, hb2, hok, hno⟩
    cases ok with
    | false => exact absurd hsh (hno rfl k n t hn0 hn1 hv)
    | true =>
      obtain ⟨hv', hsh', hn0', hn1'⟩ := hok rfl
      obtain ⟨rfl, rfl, rfl⟩ := show_inj hv hv' hn0 hn1 hn0' hn1' (hsh.trans hsh'.symm)
      have hA2 := bel1 w2 (.cells #[.int .i64 k, .int .i64 n, .string t] 24)
      replace c0 := cell_later hA2 (cell_later hb2 c0)
      replace c1 := cell_later hA2 (cell_later hb2 c1)
      replace c2 := cell_later hA2 (cell_later hb2 c2)
      have d0 : (w2.alloc (.cells #[.int .i64 k, .int .i64 n, .string t] 24)).cell? ⟨w2.heap.size, 0, none⟩ = some (.int .i64 k) := by go_simp
      have d1 : (w2.alloc (.cells #[.int .i64 k, .int .i64 n, .string t] 24)).cell? ⟨w2.heap.size, 1, none⟩ = some (.int .i64 n) := by go_simp
      have d2 : (w2.alloc (.cells #[.int .i64 k, .int .i64 n, .string t] 24)).cell? ⟨w2.heap.size, 2, none⟩ = some (.string t) := by go_simp
      have hB2 := hB.trans (hb2.mono hB.size)
      have hB3 := hB2.trans (hA2.mono hB2.size)
      have q2 : eqB k n t k n t = true := (eqB_iff _ _ _ _ _ _).2 ⟨rfl, rfl, rfl⟩
      have HB3 : Hid (Below w.heap.size w (w2.alloc (.cells #[.int .i64 k, .int .i64 n, .string t] 24))) := hB3
      clear hA2 hb2 hB hB2 hB3 hok hno hsh hsh' hv hv' hn0 hn1 hn0' hn1' HQ HR
      go_wp2_with fail
      generalize w2.alloc (.cells #[.int .i64 k, .int .i64 n, .string t] 24) = W2 at *
      refine (told_nil W2).mono ?_
      rintro e w3 ⟨rfl, rfl⟩
      go_wp2
      go_ret
      exact ⟨rfl, HB3.out⟩
  · go_wp2_with fail
    have hA := bel1 w1 (.cells #[.int .i64 0, .int .i64 0, .string ⟨#[]⟩] 24)
    have c0 : (w1.alloc (.cells #[.int .i64 0, .int .i64 0, .string ⟨#[]⟩] 24)).cell? ⟨w1.heap.size, 0, none⟩ = some (.int .i64 0) := by go_simp
    have c1 : (w1.alloc (.cells #[.int .i64 0, .int .i64 0, .string ⟨#[]⟩] 24)).cell? ⟨w1.heap.size, 1, none⟩ = some (.int .i64 0) := by go_simp
    have c2 : (w1.alloc (.cells #[.int .i64 0, .int .i64 0, .string ⟨#[]⟩] 24)).cell? ⟨w1.heap.size, 2, none⟩ = some (.string ⟨#[]⟩) := by go_simp
    have hB := hb1.trans (hA.mono hb1.size)
    clear hA hb1
    generalize w1.alloc (.cells #[.int .i64 0, .int .i64 0, .string ⟨#[]⟩] 24) = W at *
    refine (HR.out W).mono ?_
    rintro e w2 ⟨k', n', t', ok, rfl, hb2, hok, hno⟩
    cases ok with
    | true =>
      obtain ⟨hv', hsh', hn0', hn1'⟩ := hok rfl
      exact absurd hsh' (hnone k' n' t' hn0' hn1' hv')
    | false =>
      have hA2 := bel1 w2 (.cells #[.int .i64 k', .int .i64 n', .string t'] 24)
      replace c0 := cell_later hA2 (cell_later hb2 c0)
      replace c1 := cell_later hA2 (cell_later hb2 c1)
      replace c2 := cell_later hA2 (cell_later hb2 c2)
      have hB2 := hB.trans (hb2.mono hB.size)
      have hB3 := hB2.trans (hA2.mono hB2.size)
      have HB3 : Hid (Below w.heap.size w (w2.alloc (.cells #[.int .i64 k', .int .i64 n', .string t'] 24))) := hB3
      have HE3 : Hid (Ety (w2.alloc (.cells #[.int .i64 k', .int .i64 n', .string t'] 24))) := HE.out.later hB3
      have q2 : eqB 0 0 ⟨#[]⟩ 0 0 ⟨#[]⟩ = true := (eqB_iff _ _ _ _ _ _).2 ⟨rfl, rfl, rfl⟩
      clear hA2 hb2 hB hB2 hB3 hok hno hnone HQ HR
      go_wp2_with fail
      generalize w2.alloc (.cells #[.int .i64 k', .int .i64 n', .string t'] 24) = W2 at *
      refine (told_errno 1 W2 HE3.out).mono ?_
      rintro e w3 ⟨rfl, hb3⟩
      replace c0 := cell_later hb3 c0
      replace c1 := cell_later hb3 c1
      replace c2 := cell_later hb3 c2
      have HB4 : Hid (Below w.heap.size w w3) := HB3.out.trans (hb3.mono HB3.out.size)
      clear hb3 HB3
      go_wp2
      go_ret
      exact ⟨rfl, HB4.out⟩
end Go.Proofs.YtakbnhknkbmhlaaDoor
