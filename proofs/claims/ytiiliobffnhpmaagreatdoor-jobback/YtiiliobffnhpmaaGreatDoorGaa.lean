import Derived.Below
import Derived.RegionTactic
set_option linter.all false
set_option maxRecDepth 100000
set_option maxHeartbeats 4000000
namespace Go.Proofs.YtiiliobffnhpmaaGreatDoor
theorem jg {p:Prop} (h:p):Go.RowKit.Hid p:=h
abbrev R1:=ByteArray->Option Int
abbrev P1:=ByteArray->Except Nat ByteArray
theorem sI {α:Type} {a b:α} (h:some a=some b):a=b:=Option.some.inj h
theorem nS {a b:Nat} (h:a≠b):some a≠some b:=fun e=>h (Option.some.inj e)
theorem bL {w:World} {a:Addr} {u:Value} (h:w.cell? a=some u):a.block<w.heap.size:=World.block_lt_of_cell? _ _ h
theorem lR {n:Nat}:n<=n:=Nat.le_refl n
theorem lL {a b c:Nat} (h:a<b) (k:b<=c):a<c:=Nat.lt_of_lt_of_le h k
theorem bR {n:Nat} {w:World}:Go.RowKit.Below n w w:=Go.RowKit.Below.refl _ _
theorem aY (i:Nat) {P:Program} {ops:Array Oper} {Q:Exit->Act->World->Prop} {md:Region.Mode} {o:Oper} {fuel:Nat} {listed:Array Bool} {a:Act} {w:World} (hr:Region.ready md ops listed=[i]) (ho:ops[i]?=some o) (h:∀ K':Act->World->Prop,(∀ a w,wpAny P md ops Q fuel (listed.setIfInBounds i true) a w->K' a w)->if Region.wanted o (yielded ops a.tmps)=true then Oper.wp P o a w K' Q else K' (a.put o.dst undef) w):wpAny P md ops Q (fuel+1) listed a w:=
 wpAny_ready hr (by simp) (AllReady.cons ho h AllReady.nil)
end Go.Proofs.YtiiliobffnhpmaaGreatDoor
