import Derived.Test.YtiiliobffnhpmaaGreatDoorGaa
import Derived.Test.YtiiliobffnhpmaaGreatDoorProg
import Derived.WalkKit
import Derived.Stop.Asserts
import Derived.RowKitTokens
set_option linter.all false
set_option maxRecDepth 100000
set_option maxHeartbeats 4000000
namespace Go.Proofs.YtiiliobffnhpmaaGreatDoor.Td
open Go.RowKit Go.Extern.Stop Go.Stop Go.Extern
theorem Bv (v:Value) (h1:(#[v]:Array Value).size=1) (h2:0<1):(#[v]:Array Value).getLit 0 h1 h2=v:=rfl
theorem Dy (v x:Value) (h1:(#[v,x]:Array Value).size=2) (h2:0<2):(#[v,x]:Array Value).getLit 0 h1 h2=v:=rfl
theorem DU (v x:Value) (h1:(#[v,x]:Array Value).size=2) (h2:1<2):(#[v,x]:Array Value).getLit 1 h1 h2=x:=rfl
theorem uL (t:Addr) (w:World):(ReflectliteValue.unpack (.iface 73 (.pointer (some t)))).run Tryz.prog w
 =.ok (.agg #[.pointer (some ⟨9,73,none⟩),.pointer (some ⟨w.heap.size,0,none⟩),.int .u64 150]) (w.alloc (.cells #[.pointer (some t)] 73)):=by kernel_rfl
theorem BZ (a : Addr) (w : World) : (ReflectliteValue.methodAny (ReflectliteValue.valueError "reflectlite.Value.Type" 0) (fun t _ _ _ => ReflectliteType.toType t) #[.agg #[.pointer (some ⟨9, 73, none⟩), .pointer (some a), .int .u64 150]]).run Tryz.prog w
 =.ok (.iface 173 (.agg #[.pointer (some ⟨9,73,none⟩)])) w:=by kernel_rfl
theorem C0 (w:World):((ReflectliteType.abiMethod fun t=>(fun a:Nat=>Value.int IntKind.u8 (a:Int)) <$> Rtype.kind t) #[.pointer (some ⟨9,73,none⟩)]).run Tryz.prog w=.ok (.int .u8 22) w:=by kernel_rfl
theorem Cc (w:World):((ReflectliteType.abiMethod fun t=>(fun a:Nat=>Value.int IntKind.u8 (a:Int)) <$> Rtype.kind t) #[.pointer (some ⟨9,37,none⟩)]).run Tryz.prog w=.ok (.int .u8 2) w:=by kernel_rfl
theorem uh (a:Addr) (w:World):(ReflectliteValue.parts (.agg #[.pointer (some ⟨9,73,none⟩),.pointer (some a),.int .u64 150])).run Tryz.prog w=.ok (some (73,a,150)) w:=by kernel_rfl
theorem AL (a p:Addr) (W:World) (ha:W.cell? a=some (.pointer (some p))) :
 (ReflectliteValue.method (ReflectliteValue.valueError "reflectlite.Value.IsNil" 0) ReflectliteValue.isNil #[.agg #[.pointer (some ⟨9, 73, none⟩), .pointer (some a), .int .u64 150]]).run Tryz.prog W = .ok (.bool false) W := by
 change Sem.run Tryz.prog (bind (ReflectliteValue.parts _) _) W=_
 simp only [Bv,Sem.run_bind,uh,Result.andThen]
 simp [ReflectliteValue.isNil,loadVar,isAgg,underlying,Tryz.underlying73,ha,Result.andThen]
theorem Cx (w:World):(ReflectliteType.method ReflectliteType.elem #[.agg #[.pointer (some ⟨9,73,none⟩)]]).run Tryz.prog w=.ok (.iface 173 (.agg #[.pointer (some ⟨9,37,none⟩)])) w:=by kernel_rfl
theorem oX (w : World) : (ReflectliteType.relation "Implements" ReflectliteType.implements_ #[.agg #[.pointer (some ⟨9, 37, none⟩)], .iface 173 (.agg #[.pointer (some ⟨9, 26, none⟩)])]).run Tryz.prog w = .ok (.bool true) w := by kernel_rfl
theorem yS (v:Value) (w:World):(ReflectliteType.typeOf #[.iface 37 v]).run Tryz.prog w=.ok (.iface 173 (.agg #[.pointer (some ⟨9,37,none⟩)])) w:=by kernel_rfl
theorem oZ (w : World) : (ReflectliteType.relation "AssignableTo" ReflectliteType.assignableTo #[.agg #[.pointer (some ⟨9, 37, none⟩)], .iface 173 (.agg #[.pointer (some ⟨9, 37, none⟩)])]).run Tryz.prog w = .ok (.bool true) w := by kernel_rfl
theorem vJ (n:Int) (w:World):(ReflectliteValue.unpack (.iface 37 (.int .i64 n))).run Tryz.prog w
 =.ok (.agg #[.pointer (some ⟨9,37,none⟩),.pointer (some ⟨w.heap.size,0,none⟩),.int .u64 130]) (w.alloc (.cells #[.int .i64 n] 37)):=by kernel_rfl
theorem yB (w:World):(Rtype.elem? 73).run Tryz.prog w=.ok (some 37) w:=by kernel_rfl
theorem Ei (p:Addr) (w:World):(ReflectliteValue.mk 37 p ReflectliteValue.flagAddr).run Tryz.prog w=.ok (.agg #[.pointer (some ⟨9,37,none⟩),.pointer (some p),.int .u64 386]) w:=by kernel_rfl
theorem Bf (a p:Addr) (W:World) (ha:W.cell? a=some (.pointer (some p))) :
 (ReflectliteValue.method (ReflectliteValue.valueError "reflectlite.Value.Elem" 0) ReflectliteValue.elem #[.agg #[.pointer (some ⟨9, 73, none⟩), .pointer (some a), .int .u64 150]]).run Tryz.prog W
  =.ok (.agg #[.pointer (some ⟨9,37,none⟩),.pointer (some p),.int .u64 386]) W:=by
 change Sem.run Tryz.prog (bind (ReflectliteValue.parts _) _) W=_
 simp only [Bv,Sem.run_bind,uh,Result.andThen]
 simp [ReflectliteValue.elem,loadVar,isAgg,underlying,Tryz.underlying73,ha,Result.andThen,yB,Ei]
theorem ye (a:Addr) (w:World):(ReflectliteValue.parts (.agg #[.pointer (some ⟨9,37,none⟩),.pointer (some a),.int .u64 386])).run Tryz.prog w=.ok (some (37,a,386)) w:=by kernel_rfl
theorem AW (a:Addr) (w:World):(ReflectliteValue.parts (.agg #[.pointer (some ⟨9,37,none⟩),.pointer (some a),.int .u64 130])).run Tryz.prog w=.ok (some (37,a,130)) w:=by kernel_rfl
theorem xo (w:World):(Rtype.directlyAssignable 37 37).run Tryz.prog w=.ok true w:=by kernel_rfl
theorem DQ (ta b:Addr) (n:Int) (old:Value) (W:World) (hb:W.cell? b=some (.int .i64 n)) (ht:W.cell? ta=some old) (hf:W.frozen? ta=false) :
 (ReflectliteValue.set #[.agg #[.pointer (some ⟨9,37,none⟩),.pointer (some ta),.int .u64 386],.agg #[.pointer (some ⟨9,37,none⟩),.pointer (some b),.int .u64 130]]).run Tryz.prog W
  =.ok (.tuple #[]) (W.setCell ta (.int .i64 n)):=by
 change Sem.run Tryz.prog (bind (ReflectliteValue.parts _) _) W=_
 simp only [Dy,DU,Sem.run_bind,ye,AW,Result.andThen]
 simp [ReflectliteValue.flagAddr,loadVar,isAgg,underlying,Tryz.underlying37,hb,Result.andThen,xo,storeVar,Value.cells,storeCells,Addr.add]
 rw [run_store Tryz.prog W ta _ _ (by rfl)]
 simp [ht,hf]
theorem Dq {w wx:World} {a:Addr} {v:Value} (hb:Below w.heap.size w wx) (h:w.cell? a=some v):wx.cell? a=some v:=(hb.cell (bL h)).trans h
theorem DY (w:World) (o1:Obj):Below w.heap.size w (w.alloc o1):=bR.alloc lR _
theorem sL (h : Value) (w : World) : (Go.method 498 173 (.agg #[h]) "Kind").run Tryz.prog w = .ok (365, h) w := by kernel_rfl
theorem ti (h : Value) (w : World) : (Go.method 498 173 (.agg #[h]) "Elem").run Tryz.prog w = .ok (376, .agg #[h]) w := by kernel_rfl
theorem kt (h : Value) (w : World) : (Go.method 498 173 (.agg #[h]) "Implements").run Tryz.prog w = .ok (377, .agg #[h]) w := by kernel_rfl
theorem jw (h : Value) (w : World) : (Go.method 498 173 (.agg #[h]) "AssignableTo").run Tryz.prog w = .ok (374, .agg #[h]) w := by kernel_rfl
def Ety (w:World):Prop:=w.cell? ⟨0,0,none⟩=some (.iface 173 (.agg #[.pointer (some ⟨9,26,none⟩)]))
theorem Ety.later {w wx:World} (h:Ety w) (hb:Below w.heap.size w wx):Ety wx:=Dq hb h
theorem Ci (n:Int) (t:Addr) (old:Value) (w:World) (hg:w.cell? ⟨0,0,none⟩=some (.iface 173 (.agg #[.pointer (some ⟨9,26,none⟩)]))) (ht0:w.cell? t=some old) (hf0:w.frozen? t=false) :
 Calls Tryz.prog 24 #[.iface 37 (.int .i64 n),.iface 73 (.pointer (some t))] w fun ev w'=>ev=.returned (.bool true)/\
  w'=((((w.alloc (.cells #[.pointer (some t)] 73)).alloc (.cells #[.pointer (some ⟨9,73,none⟩),.pointer (some ⟨w.heap.size,0,none⟩),.int .u64 150] 118)).alloc (.cells #[.pointer (some ⟨9,73,none⟩),.pointer (some ⟨w.heap.size,0,none⟩),.int .u64 150] 118)).alloc (.cells #[.int .i64 n] 37)).setCell t (.int .i64 n):=by
 have h41:=@run_callFunc_extern Tryz.prog 63 _ (fun args=>ReflectliteValue.unpack (args.getD 0 (.tuple #[]))) Tryz.func63 (by kernel_rfl) (by kernel_rfl) (by kernel_rfl) (by kernel_rfl)
 have h42 := @run_callFunc_extern Tryz.prog 64 _ (ReflectliteValue.methodAny (ReflectliteValue.valueError "reflectlite.Value.Type" 0) (fun t _ _ _ => ReflectliteType.toType t)) Tryz.func64 (by kernel_rfl) (by kernel_rfl) (by kernel_rfl) (by kernel_rfl)
 have h43 := @run_callFunc_extern Tryz.prog 65 _ (ReflectliteValue.method (ReflectliteValue.valueError "reflectlite.Value.IsNil" 0) ReflectliteValue.isNil) Tryz.func65 (by kernel_rfl) (by kernel_rfl) (by kernel_rfl) (by kernel_rfl)
 have h69:=@run_callFunc_extern Tryz.prog 365 _ (ReflectliteType.abiMethod fun t=>do pure (.int .u8 (<-Rtype.kind t))) Tryz.func365 (by kernel_rfl) (by kernel_rfl) (by kernel_rfl) (by kernel_rfl)
 have h79:=@run_callFunc_extern Tryz.prog 376 _ (ReflectliteType.method ReflectliteType.elem) Tryz.func376 (by kernel_rfl) (by kernel_rfl) (by kernel_rfl) (by kernel_rfl)
 have h80 := @run_callFunc_extern Tryz.prog 377 _ (ReflectliteType.relation "Implements" ReflectliteType.implements_) Tryz.func377 (by kernel_rfl) (by kernel_rfl) (by kernel_rfl) (by kernel_rfl)
 have h47:=@run_callFunc_extern Tryz.prog 116 _ ReflectliteType.typeOf Tryz.func116 (by kernel_rfl) (by kernel_rfl) (by kernel_rfl) (by kernel_rfl)
 have h77 := @run_callFunc_extern Tryz.prog 374 _ (ReflectliteType.relation "AssignableTo" ReflectliteType.assignableTo) Tryz.func374 (by kernel_rfl) (by kernel_rfl) (by kernel_rfl) (by kernel_rfl)
 have h48 := @run_callFunc_extern Tryz.prog 117 _ (ReflectliteValue.method (ReflectliteValue.valueError "reflectlite.Value.Elem" 0) ReflectliteValue.elem) Tryz.func117 (by kernel_rfl) (by kernel_rfl) (by kernel_rfl) (by kernel_rfl)
 have h49:=@run_callFunc_extern Tryz.prog 118 _ ReflectliteValue.set Tryz.func118 (by kernel_rfl) (by kernel_rfl) (by kernel_rfl) (by kernel_rfl)
 have tO:=yS
 have mA:=jw
 have a39:=oZ
 have v39:=vJ
 have f74:=uL
 have y74:=BZ
 have mK:=sL
 have mE:=ti
 have mI:=kt
 have k74:=C0
 have k39:=Cc
 have e74:=Cx
 have i39:=oX
 have hlt:=bL hg
 have n43:=AL ⟨w.heap.size,0,none⟩ t ((w.alloc (.cells #[.pointer (some t)] 73)).alloc (.cells #[.pointer (some ⟨9,73,none⟩),.pointer (some ⟨w.heap.size,0,none⟩),.int .u64 150] 118)) (by simp)
 have hg2:((w.alloc (.cells #[.pointer (some t)] 73)).alloc (.cells #[.pointer (some ⟨9,73,none⟩),.pointer (some ⟨w.heap.size,0,none⟩),.int .u64 150] 118)).cell? ⟨0,0,none⟩=some (.iface 173 (.agg #[.pointer (some ⟨9,26,none⟩)])):=by
  rw [World.cell?_alloc_lt _ _ ⟨0,0,none⟩ (by simp),World.cell?_alloc_lt _ _ ⟨0,0,none⟩ hlt];exact hg
 have htl:=bL ht0
 have el:=Bf ⟨w.heap.size,0,none⟩ t (((w.alloc (.cells #[.pointer (some t)] 73)).alloc (.cells #[.pointer (some ⟨9,73,none⟩),.pointer (some ⟨w.heap.size,0,none⟩),.int .u64 150] 118)).alloc (.cells #[.pointer (some ⟨9,73,none⟩),.pointer (some ⟨w.heap.size,0,none⟩),.int .u64 150] 118)) (by rw [World.cell?_alloc_lt _ _ ⟨w.heap.size,0,none⟩ (by simp;omega)];simp)
 have st:=DQ t ⟨w.heap.size+1+1+1,0,none⟩ n old ((((w.alloc (.cells #[.pointer (some t)] 73)).alloc (.cells #[.pointer (some ⟨9,73,none⟩),.pointer (some ⟨w.heap.size,0,none⟩),.int .u64 150] 118)).alloc (.cells #[.pointer (some ⟨9,73,none⟩),.pointer (some ⟨w.heap.size,0,none⟩),.int .u64 150] 118)).alloc (.cells #[.int .i64 n] 37))
  (by rw [World.cell?_alloc_at _ _ _ _ (by simp)];rfl)
  (by rw [World.cell?_alloc_lt _ _ t (by simp;omega),World.cell?_alloc_lt _ _ t (by simp;omega),World.cell?_alloc_lt _ _ t (by simp;omega),World.cell?_alloc_lt _ _ t htl];exact ht0)
  (by rw [World.frozen?_alloc_old _ _ t (by simp;omega),World.frozen?_alloc_old _ _ t (by simp;omega),World.frozen?_alloc_old _ _ t (by simp;omega),World.frozen?_alloc_old _ _ t (Nat.ne_of_lt htl)];exact hf0)
 go_in
 go_wp2
 refine wp_loop_rounds 1 ?_
 rw [rounds_succ]
 go_wp2
 go_ret
 exact ⟨rfl,rfl⟩
theorem told_nil (w:World):Calls Tryz.prog 11 #[.nilIface] w fun e w'=>e=.returned (.int .i64 0)/\w'=w:=by
 go_in
 go_wp2
 go_ret
 exact ⟨rfl,rfl⟩
theorem told_errno (n:Int) (w:World) (hg:Ety w):Calls Tryz.prog 11 #[.iface 37 (.int .i64 n)] w fun e w'=>e=.returned (.int .i64 n)/\Below w.heap.size w w':=by
 have HG:Hid (Ety (w.alloc (.cells #[.int .i64 0] 37))):=hg.later (DY w _)
 go_in
 go_wp2_with fail
 refine (Ci n ⟨w.heap.size,0,none⟩ (.int .i64 0) _ HG.out (by simp) (by simp)).mono ?_
 rintro e w1 ⟨rfl,rfl⟩
 go_wp2
 go_ret
 exact ⟨rfl,((((DY w _).alloc (by simp) _).alloc (by simp;omega) _).alloc (by simp;omega) _).alloc (by simp;omega) _⟩
end Go.Proofs.YtiiliobffnhpmaaGreatDoor.Td
