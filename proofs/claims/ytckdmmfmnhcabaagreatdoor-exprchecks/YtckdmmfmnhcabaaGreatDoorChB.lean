import Derived.Test.YtckdmmfmnhcabaaGreatDoorChA
import Derived.Test.YtckdmmfmnhcabaaGreatDoorTd1
namespace Go.Proofs.YtckdmmfmnhcabaaGreatDoor.Dc
open Go.RowKit
set_option linter.unusedVariables false
set_option linter.unusedSimpArgs false
set_option maxRecDepth 100000

theorem Ety.later {w w' : World} (h : Td.Ety w) (hb : Below w.heap.size w w') : Td.Ety w' := xcell hb h
set_option maxHeartbeats 4000000 in
theorem checks_walk (s : ByteArray) (a : Option Addr) (cc : Nat) (c : List Co) (w : World) (h2 : Vl.Sen w) (h3 : Vl.Sen3 w) (ht : Vl.Tab w) (he : Td.Ety w) (hc : ColsAt w a c) (hm : c.length ≤ maxLen) (hz : ∀ x ∈ c, x.nm.size ≤ 140737488355328) :
   Calls Tryz.prog 3 #[.string s, .slice a c.length cc] w fun e w' => e = .returned (.bool true) ∧ Below w.heap.size w w' := by
 obtain ⟨o, ho, hP, hD⟩ := check_V w h2 h3 ht s a cc c hc hm hz
 have HP := hidMk' hP
 have HD := hidMk' hD
 have HE := hidMk' he
 clear hP hD he h2 h3 ht hc hm hz ho
 unfold chV at HP
 cases hck : ckO c o with
 | error f =>
   rw [hck] at HP HD
   clear hck
   go_enter Tryz.func3, Tryz.ntmps3
   go_wp2_with fail
   refine HP.out.mono ?_
   rintro e w1 ⟨hb1, rfl⟩
   have HB1 := hidMk' hb1
   clear hb1
   go_wp2_with fail
   refine (HD.out _ HB1.out).mono ?_
   rintro e w2 ⟨hb2, pv, rfl⟩
   have HB2 : Hid (Below w.heap.size w w2) := HB1.out.trans (hb2.mono HB1.out.size)
   clear hb2 HB1 HP HD
   go_wp2_with fail
   refine (Td.told_errno f.why _ (Ety.later HE.out HB2.out)).mono ?_
   rintro e w3 ⟨rfl, hb3⟩
   have HB3 : Hid (Below w.heap.size w w3) := HB2.out.trans (hb3.mono HB2.out.size)
   clear hb3 HB2
   go_wp2_with fail
   go_ret
   exact ⟨by simp, HB3.out⟩
 | ok p =>
   obtain ⟨x, k⟩ := p
   rw [hck] at HP HD
   clear hck
   go_enter Tryz.func3, Tryz.ntmps3
   go_wp2_with fail
   refine HP.out.mono ?_
   rintro e w1 ⟨hb1, rfl⟩
   have HB1 := hidMk' hb1
   clear hb1
   go_wp2_with fail
   refine (HD.out _ HB1.out).mono ?_
   rintro e w2 ⟨hb2, pv, rfl⟩
   have HB2 : Hid (Below w.heap.size w w2) := HB1.out.trans (hb2.mono HB1.out.size)
   clear hb2 HB1 HP HD
   go_wp2_with fail
   refine (Td.told_nil _).mono ?_
   rintro e w3 ⟨rfl, rfl⟩
   go_wp2_with fail
   go_ret
   exact ⟨by simp, HB2.out⟩
end Go.Proofs.YtckdmmfmnhcabaaGreatDoor.Dc
