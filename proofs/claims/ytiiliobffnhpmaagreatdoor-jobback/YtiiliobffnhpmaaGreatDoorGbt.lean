import Derived.Test.YtiiliobffnhpmaaGreatDoorGbf
import Derived.Sort.AtCall
set_option linter.all false
set_option maxRecDepth 100000
set_option maxHeartbeats 4000000
namespace Go.Proofs.YtiiliobffnhpmaaGreatDoor
section
open Go.RowKit
theorem gP (p:Value) (w:World):(Instr.typeAssert (.iface 286 p) 256 286 true).run Tryz.prog w=.ok (.tuple #[p,.bool true]) w:=by
 simp [Instr.typeAssert,go_sem]
 try rfl
theorem gS (p:Value) (w:World):(Instr.typeAssert (.iface 288 p) 256 286 true).run Tryz.prog w=.ok (.tuple #[(Value.agg #[Value.int IntKind.i64 0,Value.int IntKind.i64 0,Value.string ⟨#[]⟩]),.bool false]) w:=by
 simp [Instr.typeAssert,go_sem]
 try rfl
theorem hU (p:Value) (w:World):(Instr.typeAssert (.iface 297 p) 256 286 true).run Tryz.prog w=.ok (.tuple #[(Value.agg #[Value.int IntKind.i64 0,Value.int IntKind.i64 0,Value.string ⟨#[]⟩]),.bool false]) w:=by
 simp [Instr.typeAssert,go_sem]
 try rfl
theorem gT (p:Value) (w:World):(Instr.typeAssert (.iface 299 p) 256 286 true).run Tryz.prog w=.ok (.tuple #[(Value.agg #[Value.int IntKind.i64 0,Value.int IntKind.i64 0,Value.string ⟨#[]⟩]),.bool false]) w:=by
 simp [Instr.typeAssert,go_sem]
 try rfl
theorem gL (p:Value) (w:World):(Instr.typeAssert (.iface 302 p) 256 286 true).run Tryz.prog w=.ok (.tuple #[(Value.agg #[Value.int IntKind.i64 0,Value.int IntKind.i64 0,Value.string ⟨#[]⟩]),.bool false]) w:=by
 simp [Instr.typeAssert,go_sem]
 try rfl
theorem ie (p:Value) (w:World):(Instr.typeAssert (.iface 286 p) 256 288 true).run Tryz.prog w=.ok (.tuple #[(Value.agg #[Value.int IntKind.i64 0,Value.string ⟨#[]⟩]),.bool false]) w:=by
 simp [Instr.typeAssert,go_sem]
 try rfl
theorem gK (p:Value) (w:World):(Instr.typeAssert (.iface 288 p) 256 288 true).run Tryz.prog w=.ok (.tuple #[p,.bool true]) w:=by
 simp [Instr.typeAssert,go_sem]
 try rfl
theorem ik (p:Value) (w:World):(Instr.typeAssert (.iface 297 p) 256 288 true).run Tryz.prog w=.ok (.tuple #[(Value.agg #[Value.int IntKind.i64 0,Value.string ⟨#[]⟩]),.bool false]) w:=by
 simp [Instr.typeAssert,go_sem]
 try rfl
theorem gZ (p:Value) (w:World):(Instr.typeAssert (.iface 299 p) 256 288 true).run Tryz.prog w=.ok (.tuple #[(Value.agg #[Value.int IntKind.i64 0,Value.string ⟨#[]⟩]),.bool false]) w:=by
 simp [Instr.typeAssert,go_sem]
 try rfl
theorem gG (p:Value) (w:World):(Instr.typeAssert (.iface 302 p) 256 288 true).run Tryz.prog w=.ok (.tuple #[(Value.agg #[Value.int IntKind.i64 0,Value.string ⟨#[]⟩]),.bool false]) w:=by
 simp [Instr.typeAssert,go_sem]
 try rfl
theorem ig (p:Value) (w:World):(Instr.typeAssert (.iface 286 p) 256 302 true).run Tryz.prog w=.ok (.tuple #[(Value.agg #[Value.int IntKind.i64 0,Value.slice none 0 0,Value.int IntKind.i64 0,Value.nilFunc,Value.slice none 0 0,Value.string ⟨#[]⟩,Value.bool false]),.bool false]) w:=by
 simp [Instr.typeAssert,go_sem]
 try rfl
theorem gU (p:Value) (w:World):(Instr.typeAssert (.iface 288 p) 256 302 true).run Tryz.prog w=.ok (.tuple #[(Value.agg #[Value.int IntKind.i64 0,Value.slice none 0 0,Value.int IntKind.i64 0,Value.nilFunc,Value.slice none 0 0,Value.string ⟨#[]⟩,Value.bool false]),.bool false]) w:=by
 simp [Instr.typeAssert,go_sem]
 try rfl
theorem gH (p:Value) (w:World):(Instr.typeAssert (.iface 297 p) 256 302 true).run Tryz.prog w=.ok (.tuple #[(Value.agg #[Value.int IntKind.i64 0,Value.slice none 0 0,Value.int IntKind.i64 0,Value.nilFunc,Value.slice none 0 0,Value.string ⟨#[]⟩,Value.bool false]),.bool false]) w:=by
 simp [Instr.typeAssert,go_sem]
 try rfl
theorem im (p:Value) (w:World):(Instr.typeAssert (.iface 299 p) 256 302 true).run Tryz.prog w=.ok (.tuple #[(Value.agg #[Value.int IntKind.i64 0,Value.slice none 0 0,Value.int IntKind.i64 0,Value.nilFunc,Value.slice none 0 0,Value.string ⟨#[]⟩,Value.bool false]),.bool false]) w:=by
 simp [Instr.typeAssert,go_sem]
 try rfl
theorem gQ (p:Value) (w:World):(Instr.typeAssert (.iface 302 p) 256 302 true).run Tryz.prog w=.ok (.tuple #[p,.bool true]) w:=by
 simp [Instr.typeAssert,go_sem]
 try rfl
attribute [local go_sem] gP gS hU gT gL ie gK ik gZ gG fE fA fM fI fJ fL fy fN fu fF ig gU gH im gQ
theorem p8 (pl:Int) (nm:ByteArray) (w:World) :
 Calls Tryz.prog 210 #[.iface 288 (.agg #[.int .i64 pl,.string nm])] w fun e w'=>e=.returned (.string nm)/\Below w.heap.size w w':=by
 go_in
 go_wp2_with fail
 go_ret
 exact ⟨rfl,ae w _⟩
theorem rW (k n:Int) (t s:ByteArray) (w:World) (H:∀ W,Below w.heap.size w W->Calls Tryz.prog 207 #[.agg #[.int .i64 k,.int .i64 n,.string t]] W fun e w'=>e=.returned (.string s)/\Below W.heap.size W w') :
 Calls Tryz.prog 210 #[.iface 286 (.agg #[.int .i64 k,.int .i64 n,.string t])] w fun e w'=>e=.returned (.string s)/\Below w.heap.size w w':=by
 have HH:=bz H
 go_in
 go_wp2_with fail
 refine (HH.out _ (ae w _)).mono ?_
 rintro e w2 ⟨rfl,hb2⟩
 have HB2:=jg ((ae w _).trans (hb2.mono (by simp)))
 go_wp2_with fail
 go_ret
 exact ⟨rfl,HB2.out⟩
def WR (w:World) (v:Value) (s:ByteArray):Prop:=∀ W,Below w.heap.size w W->Calls Tryz.prog 210 #[v] W fun e w'=>e=.returned (.string s)/\Below W.heap.size W w'
theorem WR.later {w w':World} {v:Value} {s:ByteArray} (h:WR w v s) (hb:Below w.heap.size w w'):WR w' v s:=fun W hW=>h W (hb.trans (hW.mono hb.size))
end
section
open Go.RowKit
attribute [local go_sem] gP gS hU gT gL ie gK ik gZ gG fE fA fM fI fJ fL fy fN fu fF ig gU gH im gQ
def sr (w:World) (p:Nat) (pl:Int) (ta:Option Addr) (tn tc:Nat) (o2:Int) (fn:Nat) (fk:Array Value) (b c:Nat) (s:ByteArray) (rk:Int) (u:Value) (W:World):Prop:=
 W.cell? ⟨p,0,none⟩=some (.int .i64 pl)/\W.cell? ⟨p,1,none⟩=some (.slice ta tn tc)/\W.cell? ⟨p,2,none⟩=some (.int .i64 o2)/\W.cell? ⟨p,3,none⟩=some (.func (.func fn) #[] fk)/\W.cell? ⟨p,4,none⟩=some (.slice (some ⟨b,0,none⟩) 1 c)/\W.cell? ⟨p,5,none⟩=some (.string s)/\W.cell? ⟨p,6,none⟩=some (.int .i64 rk)/\W.cell? ⟨b,0,none⟩=some u/\Below w.heap.size w W
theorem sr.later {w:World} {p:Nat} {pl:Int} {ta:Option Addr} {tn tc:Nat} {o2:Int} {fn:Nat} {fk:Array Value} {b c:Nat} {s:ByteArray} {rk:Int} {u:Value} {W W':World} (h:sr w p pl ta tn tc o2 fn fk b c s rk u W) (hb:Below W.heap.size W W'):sr w p pl ta tn tc o2 fn fk b c s rk u W':=by
 obtain ⟨h0,h1,h2,h3,h4,h5,h6,h7,h8⟩:=h
 exact ⟨af hb h0,af hb h1,af hb h2,af hb h3,af hb h4,af hb h5,af hb h6,af hb h7,h8.trans (hb.mono h8.size)⟩
theorem qV (pl:Int) (s:ByteArray) (ta:Option Addr) (tn tc:Nat) (o2:Int) (fn:Nat) (fk:Array Value) (b c:Nat) (x:X) (u:Value) (g:Nat) (w:World) (S:ByteArray) (hu:w.cell? ⟨b,0,none⟩=some u) (hx:Nd w g x u) (hs:S.size<=1000000) (hsz:s.size<=1000) (H:WR w u S) :
 Calls Tryz.prog 210 #[.iface 297 (.agg #[.int .i64 pl,.slice ta tn tc,.int .i64 o2,.func (.func fn) #[] fk,.slice (some ⟨b,0,none⟩) 1 c,.string s,.int .i64 (az s)])] w fun e w'=>e=.returned (.string (fQ s++jI (decide (dm x<az s)) S))/\Below w.heap.size w w':=by
 obtain ⟨L,HL⟩:∃ L,Hid (fQ s=L):=⟨_,rfl⟩
 obtain ⟨R,HR⟩:∃ R,Hid (jI (decide (dm x<az s)) S=R):=⟨_,rfl⟩
 have hLs:L.size<=1001:=by
  rw [<-HL.out];unfold fQ;split
  ·rw [ByteArray.size_append];have:wH.size=1:=rfl;omega
  ·omega
 have hRs:R.size<=1000002:=by
  rw [<-HR.out];unfold jI;split
  ·rw [ByteArray.size_append,ByteArray.size_append];have:oG.size=1:=rfl;have:oR.size=1:=rfl;omega
  ·omega
 rw [HL.out,HR.out]
 have HC1:Hid (∀ W,sr w w.heap.size pl ta tn tc o2 fn fk b c s (az s) u W->Calls Tryz.prog 243 #[.agg #[.int .i64 pl,.slice ta tn tc,.int .i64 o2,.func (.func fn) #[] fk,.slice (some ⟨b,0,none⟩) 1 c,.string s,.int .i64 (az s)]] W fun e w'=>e=.returned (.string L)/\sr w w.heap.size pl ta tn tc o2 fn fk b c s (az s) u w'):=fun W hW=>by
  refine (zK s W _ _ _ _ _).mono ?_
  rintro e w' ⟨rfl,hb⟩
  exact ⟨by rw [HL.out],hW.later hb⟩
 have HC2:Hid (∀ W,sr w w.heap.size pl ta tn tc o2 fn fk b c s (az s) u W->Calls Tryz.prog 244 #[u,.int .i64 (az s)] W fun e w'=>e=.returned (.string R)/\sr w w.heap.size pl ta tn tc o2 fn fk b c s (az s) u w'):=fun W hW=>by
  refine (gY x u W g (hx.later hW.2.2.2.2.2.2.2.2) S (az s) (by omega) (H.later hW.2.2.2.2.2.2.2.2)).mono ?_
  rintro e w' ⟨rfl,hb⟩
  exact ⟨by rw [HR.out],hW.later hb⟩
 generalize az s=rk at *
 have hb0:=af (ae w (.cells #[.int .i64 pl,.slice ta tn tc,.int .i64 o2,.func (.func fn) #[] fk,.slice (some ⟨b,0,none⟩) 1 c,.string s,.int .i64 rk] 297)) hu
 have HB0:=bz (ae w (.cells #[.int .i64 pl,.slice ta tn tc,.int .i64 o2,.func (.func fn) #[] fk,.slice (some ⟨b,0,none⟩) 1 c,.string s,.int .i64 rk] 297))
 clear hx H hu HL HR
 go_in
 go_wp2_with fail
 obtain ⟨W1,hW1⟩:∃ W1,W1=w.alloc (.cells #[.int .i64 pl,.slice ta tn tc,.int .i64 o2,.func (.func fn) #[] fk,.slice (some ⟨b,0,none⟩) 1 c,.string s,.int .i64 rk] 297):=⟨_,rfl⟩
 have k0:W1.cell? ⟨w.heap.size,0,none⟩=some (.int .i64 pl):=by rw [hW1];go_simp
 have k1:W1.cell? ⟨w.heap.size,1,none⟩=some (.slice ta tn tc):=by rw [hW1];go_simp
 have k2:W1.cell? ⟨w.heap.size,2,none⟩=some (.int .i64 o2):=by rw [hW1];go_simp
 have k3:W1.cell? ⟨w.heap.size,3,none⟩=some (.func (.func fn) #[] fk):=by rw [hW1];go_simp
 have k4:W1.cell? ⟨w.heap.size,4,none⟩=some (.slice (some ⟨b,0,none⟩) 1 c):=by rw [hW1];go_simp
 have k5:W1.cell? ⟨w.heap.size,5,none⟩=some (.string s):=by rw [hW1];go_simp
 have k6:W1.cell? ⟨w.heap.size,6,none⟩=some (.int .i64 rk):=by rw [hW1];go_simp
 have k7:W1.cell? ⟨b,0,none⟩=some u:=by rw [hW1];exact hb0
 have k8:Below w.heap.size w W1:=by rw [hW1];exact HB0.out
 rw [<-hW1]
 clear hW1 hb0 HB0
 have hj:(9223372036854775807<L.size+R.size)=False:=by simp;omega
 go_region_held3 (fun W=>W.cell? ⟨w.heap.size,0,none⟩=some (.int .i64 pl)/\W.cell? ⟨w.heap.size,1,none⟩=some (.slice ta tn tc)/\W.cell? ⟨w.heap.size,2,none⟩=some (.int .i64 o2)/\W.cell? ⟨w.heap.size,3,none⟩=some (.func (.func fn) #[] fk)/\W.cell? ⟨w.heap.size,4,none⟩=some (.slice (some ⟨b,0,none⟩) 1 c)/\W.cell? ⟨w.heap.size,5,none⟩=some (.string s)/\W.cell? ⟨w.heap.size,6,none⟩=some (.int .i64 rk)/\W.cell? ⟨b,0,none⟩=some u/\Below w.heap.size w W) (first | exact ⟨k0,k1,k2,k3,k4,k5,k6,k7,k8.drew⟩ | exact hKP) (first
  | (go_at_call 243;refine (HC1.out _ (by assumption)).mono ?_;rintro e w' ⟨rfl,hKP⟩)
  | (go_at_call 244;refine (HC2.out _ (by assumption)).mono ?_;rintro e w' ⟨rfl,hKP⟩))
 all_goals
  go_wp2
  go_ret
  exact ⟨rfl,hKP.2.2.2.2.2.2.2.2⟩
end
section
open Go.RowKit
attribute [local go_sem] gP gS hU gT gL ie gK ik gZ gG fE fA fM fI fJ fL fy fN fu fF ig gU gH im gQ
theorem Ex {x:Int} (h1:-9223372036854775808<=x) (h2:x<9223372036854775808):wrap64 x=x:=by
 unfold wrap64
 omega
theorem DZ {x:Int} (h1:-9223372036854775808<=x) (h2:x<9223372036854775808):IntKind.i64.wrap x=x:=by
 simp [IntKind.wrap,IntKind.bits,IntKind.signed]
 omega
def lX (w:World) (p:Nat) (pl:Int) (ta:Option Addr) (tn tc:Nat) (o2:Int) (fn:Nat) (fk:Array Value) (b c:Nat) (s:ByteArray) (rk:Int) (u u':Value) (W:World):Prop:=
 W.cell? ⟨p,0,none⟩=some (.int .i64 pl)/\W.cell? ⟨p,1,none⟩=some (.slice ta tn tc)/\W.cell? ⟨p,2,none⟩=some (.int .i64 o2)/\W.cell? ⟨p,3,none⟩=some (.func (.func fn) #[] fk)/\W.cell? ⟨p,4,none⟩=some (.slice (some ⟨b,0,none⟩) 2 c)/\W.cell? ⟨p,5,none⟩=some (.string s)/\W.cell? ⟨p,6,none⟩=some (.int .i64 rk)/\W.cell? ⟨b,0,none⟩=some u/\W.cell? ⟨b,1,none⟩=some u'/\Below w.heap.size w W
theorem lX.later {w:World} {p:Nat} {pl:Int} {ta:Option Addr} {tn tc:Nat} {o2:Int} {fn:Nat} {fk:Array Value} {b c:Nat} {s:ByteArray} {rk:Int} {u u':Value} {W W':World} (h:lX w p pl ta tn tc o2 fn fk b c s rk u u' W) (hb:Below W.heap.size W W'):lX w p pl ta tn tc o2 fn fk b c s rk u u' W':=by
 obtain ⟨h0,h1,h2,h3,h4,h5,h6,h7,h9,h8⟩:=h
 exact ⟨af hb h0,af hb h1,af hb h2,af hb h3,af hb h4,af hb h5,af hb h6,af hb h7,af hb h9,h8.trans (hb.mono h8.size)⟩
theorem lX.bel {w:World} {p:Nat} {pl:Int} {ta:Option Addr} {tn tc:Nat} {o2:Int} {fn:Nat} {fk:Array Value} {b c:Nat} {s:ByteArray} {rk:Int} {u u':Value} {W:World} (h:lX w p pl ta tn tc o2 fn fk b c s rk u u' W):Below w.heap.size w W:=h.2.2.2.2.2.2.2.2.2
theorem iO (b:Bool) (S:ByteArray):(jI b S).size<=S.size+2:=by
 unfold jI;split
 ·rw [ByteArray.size_append,ByteArray.size_append];have:oG.size=1:=rfl;have:oR.size=1:=rfl;omega
 ·omega
theorem qv (pl:Int) (s:ByteArray) (ta:Option Addr) (tn tc:Nat) (o2:Int) (fn:Nat) (fk:Array Value) (b c:Nat) (x x':X) (u u':Value) (g:Nat) (w:World) (S S':ByteArray) (hu:w.cell? ⟨b,0,none⟩=some u) (hu':w.cell? ⟨b,1,none⟩=some u') (hx:Nd w g x u) (hx':Nd w g x' u') (hs:S.size<=1000000) (hs':S'.size<=1000000) (hsz:s.size<=1000) (H:WR w u S) (H':WR w u' S') :
 Calls Tryz.prog 210 #[.iface 299 (.agg #[.int .i64 pl,.slice ta tn tc,.int .i64 o2,.func (.func fn) #[] fk,.slice (some ⟨b,0,none⟩) 2 c,.string s,.int .i64 (bW s)])] w fun e w'=>e=.returned (.string (jI (decide (dm x<cZ s)) S++wH++s++wH++jI (decide (dm x'<bW s+1)) S'))/\Below w.heap.size w w':=by
 obtain ⟨L,HL⟩:∃ L,Hid (jI (decide (dm x<cZ s)) S=L):=⟨_,rfl⟩
 obtain ⟨R,HR⟩:∃ R,Hid (jI (decide (dm x'<bW s+1)) S'=R):=⟨_,rfl⟩
 have hLs:L.size<=1000002:=by rw [<-HL.out];have:=iO (decide (dm x<cZ s)) S;omega
 have hRs:R.size<=1000002:=by rw [<-HR.out];have:=iO (decide (dm x'<bW s+1)) S';omega
 rw [HL.out,HR.out]
 have hle:=xm s
 have HC1:Hid (∀ W,lX w w.heap.size pl ta tn tc o2 fn fk b c s (bW s) u u' W->Calls Tryz.prog 245 #[.agg #[.int .i64 pl,.slice ta tn tc,.int .i64 o2,.func (.func fn) #[] fk,.slice (some ⟨b,0,none⟩) 2 c,.string s,.int .i64 (bW s)]] W fun e w'=>e=.returned (.int .i64 (cZ s))/\lX w w.heap.size pl ta tn tc o2 fn fk b c s (bW s) u u' w'):=fun W hW=>by
  refine (yO s W _ _ _ _ _).mono ?_
  rintro e w' ⟨rfl,hb⟩
  exact ⟨rfl,hW.later hb⟩
 have HC2:Hid (∀ W,lX w w.heap.size pl ta tn tc o2 fn fk b c s (bW s) u u' W->Calls Tryz.prog 244 #[u,.int .i64 (cZ s)] W fun e w'=>e=.returned (.string L)/\lX w w.heap.size pl ta tn tc o2 fn fk b c s (bW s) u u' w'):=fun W hW=>by
  refine (gY x u W g (hx.later hW.bel) S (cZ s) (by omega) (H.later hW.bel)).mono ?_
  rintro e w' ⟨rfl,hb⟩
  exact ⟨by rw [HL.out],hW.later hb⟩
 have HC3:Hid (∀ W,lX w w.heap.size pl ta tn tc o2 fn fk b c s (bW s) u u' W->Calls Tryz.prog 244 #[u',.int .i64 (bW s+1)] W fun e w'=>e=.returned (.string R)/\lX w w.heap.size pl ta tn tc o2 fn fk b c s (bW s) u u' w'):=fun W hW=>by
  refine (gY x' u' W g (hx'.later hW.bel) S' (bW s+1) (by omega) (H'.later hW.bel)).mono ?_
  rintro e w' ⟨rfl,hb⟩
  exact ⟨by rw [HR.out],hW.later hb⟩
 generalize cZ s=lr at *
 generalize bW s=rkn at *
 have hwr:IntKind.i64.wrap ((rkn:Int)+1)=(rkn:Int)+1:=DZ (by omega) (by omega)
 have hwr2:wrap64 ((rkn:Int)+1)=(rkn:Int)+1:=Ex (by omega) (by omega)
 clear hle
 generalize (rkn:Int)=rk at *
 have hb0:=af (ae w (.cells #[.int .i64 pl,.slice ta tn tc,.int .i64 o2,.func (.func fn) #[] fk,.slice (some ⟨b,0,none⟩) 2 c,.string s,.int .i64 rk] 299)) hu
 have hb1:=af (ae w (.cells #[.int .i64 pl,.slice ta tn tc,.int .i64 o2,.func (.func fn) #[] fk,.slice (some ⟨b,0,none⟩) 2 c,.string s,.int .i64 rk] 299)) hu'
 have HB0:=bz (ae w (.cells #[.int .i64 pl,.slice ta tn tc,.int .i64 o2,.func (.func fn) #[] fk,.slice (some ⟨b,0,none⟩) 2 c,.string s,.int .i64 rk] 299))
 clear hx H hu hx' H' hu' HL HR
 go_in
 go_wp2_with fail
 obtain ⟨W1,hW1⟩:∃ W1,W1=w.alloc (.cells #[.int .i64 pl,.slice ta tn tc,.int .i64 o2,.func (.func fn) #[] fk,.slice (some ⟨b,0,none⟩) 2 c,.string s,.int .i64 rk] 299):=⟨_,rfl⟩
 have k0:W1.cell? ⟨w.heap.size,0,none⟩=some (.int .i64 pl):=by rw [hW1];go_simp
 have k1:W1.cell? ⟨w.heap.size,1,none⟩=some (.slice ta tn tc):=by rw [hW1];go_simp
 have k2:W1.cell? ⟨w.heap.size,2,none⟩=some (.int .i64 o2):=by rw [hW1];go_simp
 have k3:W1.cell? ⟨w.heap.size,3,none⟩=some (.func (.func fn) #[] fk):=by rw [hW1];go_simp
 have k4:W1.cell? ⟨w.heap.size,4,none⟩=some (.slice (some ⟨b,0,none⟩) 2 c):=by rw [hW1];go_simp
 have k5:W1.cell? ⟨w.heap.size,5,none⟩=some (.string s):=by rw [hW1];go_simp
 have k6:W1.cell? ⟨w.heap.size,6,none⟩=some (.int .i64 rk):=by rw [hW1];go_simp
 have k7:W1.cell? ⟨b,0,none⟩=some u:=by rw [hW1];exact hb0
 have k9:W1.cell? ⟨b,1,none⟩=some u':=by rw [hW1];exact hb1
 have k8:Below w.heap.size w W1:=by rw [hW1];exact HB0.out
 rw [<-hW1]
 clear hW1 hb0 hb1 HB0
 have j1:(9223372036854775807<L.size+1)=False:=by simp;omega
 have j2:(9223372036854775807<L.size+1+s.size)=False:=by simp;omega
 have j3:(9223372036854775807<L.size+1+s.size+1)=False:=by simp;omega
 have j4:(9223372036854775807<L.size+1+s.size+1+R.size)=False:=by simp;omega
 go_region_held3 (fun W=>W.cell? ⟨w.heap.size,0,none⟩=some (.int .i64 pl)/\W.cell? ⟨w.heap.size,1,none⟩=some (.slice ta tn tc)/\W.cell? ⟨w.heap.size,2,none⟩=some (.int .i64 o2)/\W.cell? ⟨w.heap.size,3,none⟩=some (.func (.func fn) #[] fk)/\W.cell? ⟨w.heap.size,4,none⟩=some (.slice (some ⟨b,0,none⟩) 2 c)/\W.cell? ⟨w.heap.size,5,none⟩=some (.string s)/\W.cell? ⟨w.heap.size,6,none⟩=some (.int .i64 rk)/\W.cell? ⟨b,0,none⟩=some u/\W.cell? ⟨b,1,none⟩=some u'/\Below w.heap.size w W) (first | exact ⟨k0,k1,k2,k3,k4,k5,k6,k7,k9,k8.drew⟩ | exact hKP) (first
  | (go_at_call 245;refine (HC1.out _ (by assumption)).mono ?_;rintro e w' ⟨rfl,hKP⟩)
  | (go_at_call_has 244 u;refine (HC2.out _ (by assumption)).mono ?_;rintro e w' ⟨rfl,hKP⟩)
  | (go_at_call_has 244 u';refine (HC3.out _ (by assumption)).mono ?_;rintro e w' ⟨rfl,hKP⟩))
 all_goals
  go_wp2
  go_ret
  exact ⟨by unfold wH;rfl,hKP.2.2.2.2.2.2.2.2.2⟩
end
section
open Go.RowKit
attribute [local go_sem] gP gS hU gT gL ie gK ik gZ gG fE fA fM fI fJ fL fy fN fu fF ig gU gH im gQ
theorem si (x:X):0<=dm x:=by
 cases x with
 | pre pl s x=>show (0:Int)<=az s;unfold az;split<;>omega
 | inf pl s l r=>show (0:Int)<=(bW s:Int);omega
 | lit k n t=>show (0:Int)<=7;omega
 | col pl nm=>show (0:Int)<=7;omega
 | app pl nm l=>show (0:Int)<=7;omega
def strs (l:List ByteArray):List Value:=l.map fun s=>.string s
theorem yN (l:List ByteArray):(strs l).length=l.length:=by unfold strs;simp
def dG (l:List ByteArray):ByteArray:=⟨(Lib.join (l.map (·.data.toList)) AE.data.toList).toArray⟩
theorem AC:(Tryz.prog.info? 9).map (fun i=>(i.zero,i.size,i.bytes))=some (some (.string ⟨#[]⟩),1,16):=by kernel_rfl
theorem pB (pl:Int) (nm:ByteArray) (ta:Option Addr) (tn tc:Nat) (gv:Int) (f:Value) (hf:f=.nilFunc\/∃ n k,f=.func (.func n) #[] k) (pa:Option Addr) (pc:Nat) (us:List Value) (ok:Bool) (g:Nat) (w:World) (hP:cK w g (.slice pa us.length pc) us) (hm:us.length<=200) (Ss:List ByteArray) (hl:Ss.length=us.length) (hc:(dG Ss).size<=100000000) (hn:nm.size<=1000) (H:∀ (i:Nat) u S,us[i]?=some u->Ss[i]?=some S->∀ W,Below w.heap.size w W->Calls Tryz.prog 244 #[u,.int .i64 0] W fun e w'=>e=.returned (.string S)/\Below W.heap.size W w') :
 Calls Tryz.prog 210 #[.iface 302 (.agg #[.int .i64 pl,.slice ta tn tc,.int .i64 gv,f,.slice pa us.length pc,.string nm,.bool ok])] w fun e w'=>e=.returned (.string (nm++oG++dG Ss++oR))/\Below w.heap.size w w':=by
 obtain ⟨i0,hi0,hz0,hz1,hz2⟩:=info_parts AC
 have hmk:∀ W:World,(Instr.makeSlice 40 (.int .i64 (us.length:Int)) (.int .i64 (us.length:Int))).run Tryz.prog W=.ok (.slice (some ⟨W.heap.size,0,none⟩) us.length us.length) (W.alloc (.cells (madeCells #[.string ⟨#[]⟩] us.length) 9)):=fun W=>by
  have:=run_make (P:=Tryz.prog) W 40 9 i0 (.string ⟨#[]⟩) Tryz.underlying40 hi0 hz0 .i64 .i64 (us.length:Int) (us.length:Int) (by omega) (by omega) (by rw [hz2];omega) (by omega)
  rw [this,hz1,Nat.mul_one]
  rw [Int.toNat_natCast]
  rfl
 clear hi0 hz0 hz1 hz2
 have HP:=bz hP
 have HH:=bz H
 have HL:=bz hl
 have HC:=bz hc
 obtain ⟨CM,HCM⟩:∃ CM,Hid (dG Ss=CM):=⟨_,rfl⟩
 rw [HCM.out]
 clear hP H hl hc
 obtain ⟨V1,hV1⟩:∃ V1,V1=w.alloc (.cells #[.int .i64 pl,.slice ta tn tc,.int .i64 gv,f,.slice pa us.length pc,.string nm,.bool ok] 302):=⟨_,rfl⟩
 have hs1:V1.heap.size=w.heap.size+1:=by rw [hV1];simp
 have HS1:Hid (aD V1 w.heap.size 302 7 [.int .i64 pl,.slice ta tn tc,.int .i64 gv,f,.slice pa us.length pc,.string nm,.bool ok]):=by
  rw [Hid,hV1];exact aD.new w 302 7 #[.int .i64 pl,.slice ta tn tc,.int .i64 gv,f,.slice pa us.length pc,.string nm,.bool ok] rfl
 have HBV:Hid (Below w.heap.size w V1):=by rw [Hid,hV1];exact ae _ _
 have HO0:Hid (aD (V1.alloc (.cells (madeCells #[.string ⟨#[]⟩] us.length) 9)) (w.heap.size+1) 9 us.length (List.replicate us.length (.string ⟨#[]⟩))):=by
  have:=aD.new V1 9 us.length (madeCells #[.string ⟨#[]⟩] us.length) (size_madeCells _ _)
  rw [EB,hs1] at this
  exact this
 have k4:V1.cell? ⟨w.heap.size,4,none⟩=some (.slice pa us.length pc):=HS1.out.cell 4 (by decide)
 rcases hf with rfl | ⟨fn,fk,rfl⟩
 all_goals
  go_in
  go_upto_region 16 with fail
  rw [<-hV1]
  clear hV1
  go_wp2_with fail
  have HS2:Hid (aD (V1.alloc (.cells (madeCells #[.string ⟨#[]⟩] us.length) 9)) w.heap.size 302 7 _):=HS1.out.later (ae _ _)
  have HB2:Hid (Below w.heap.size w (V1.alloc (.cells (madeCells #[.string ⟨#[]⟩] us.length) 9))):=HBV.out.trans ((ae _ _).mono (by omega))
  generalize V1.alloc (.cells (madeCells #[.string ⟨#[]⟩] us.length) 9)=V2 at *
  clear HS1 HBV k4 hs1 hmk
  go_loopg [75] us.length (fun gk i wr=>∃ k:Nat,gk+k=us.length/\i=.int .i64 k/\aD wr (w.heap.size+1) 9 us.length (strs (Ss.take k)++List.replicate (us.length-k) (.string ⟨#[]⟩))/\aD wr w.heap.size 302 7 _/\Below w.heap.size w wr)
  case atStart=>exact ⟨0,by omega,rfl,by simpa [strs] using HO0.out,HS2.out,HB2.out⟩
  case round=>
   obtain ⟨k,hgk,rfl,hO,hS,hB⟩:=hrel
   have HO:=bz hO
   have HS:=bz hS
   have HB:=bz hB
   clear hO hS hB HO0 HS2 HB2
   by_cases hk:k<us.length
   ·have hk':(k:Int)<(us.length:Int):=by omega
    obtain ⟨u,hu⟩:∃ u,us[k]?=some u:=⟨us[k],by simp [hk]⟩
    obtain ⟨S,hS⟩:∃ S,Ss[k]?=some S:=⟨Ss[k]'(by rw [HL.out];exact hk),by rw [List.getElem?_eq_getElem]⟩
    have hcell:∃ b,pa=some ⟨b,0,none⟩/\wr.cell? ⟨b,k,none⟩=some u:=by
     rcases HP.out with ⟨h1,h2⟩ | ⟨b,c',h1,h2,h3,h4,h5⟩
     ·rw [h2] at hk;exact absurd hk (by simp)
     ·cases h1
      refine ⟨b,rfl,af HB.out ?_⟩
      rw [h5 k hk,<-hu,List.getElem?_eq_getElem hk]
    obtain ⟨b,rfl,hc1⟩:=hcell
    have HCA:=bz (HH.out k u S hu hS)
    have HTK:Hid (Ss.take (k+1)=Ss.take k++[S]):=by
     have hkl:k<Ss.length:=by rw [HL.out];exact hk
     rw [Hid,List.take_succ_eq_append_getElem hkl]
     rw [List.getElem?_eq_getElem hkl] at hS
     rw [sI hS]
    clear hu hS
    go_wp2_with fail
    refine (HCA.out _ HB.out).mono ?_
    rintro e w2 ⟨rfl,hb2⟩
    have HO2:=bz (HO.out.later hb2)
    have HS2:=bz (HS.out.later hb2)
    have HB2:=jg (HB.out.trans (hb2.mono HB.out.size))
    have hlk:(strs (Ss.take k)).length=k:=by rw [yN,List.length_take,HL.out];omega
    have qc:w2.cell? ⟨w.heap.size+1,k,none⟩=some (.string ⟨#[]⟩):=by
     rw [HO2.out.cell _ hk,List.getElem?_append_right (by omega),hlk,Nat.sub_self,List.getElem?_replicate,if_pos (by omega)]
    have qf:w2.frozen? ⟨w.heap.size+1,k,none⟩=false:=HO2.out.soft _
    obtain ⟨p1,p2⟩:=HO2.out.put k (.string S)
    have HP1:Hid (aD (w2.setCell ⟨w.heap.size+1,k,none⟩ (.string S)) (w.heap.size+1) 9 us.length (strs (Ss.take (k+1))++List.replicate (us.length-(k+1)) (.string ⟨#[]⟩))):=by
     rw [List.set_append_right _ _ (by omega),hlk,Nat.sub_self,show us.length-k=(us.length-(k+1))+1 from by omega,List.replicate_succ,List.set_cons_zero] at p1
     rw [Hid,HTK.out]
     unfold strs at p1 ⊢
     rw [List.map_append,List.append_assoc]
     exact p1
    have HP2:=bz (HS2.out.grown p2 (by simp))
    have HP3:=jg (eE HB2.out p2 (fun n hn=>by cases hn;omega))
    clear hb2 HO HS HB p1 p2 HO2 HS2 HB2 hlk
    go_wp2
    go_roundg (gk-1)
    case measure=>omega
    case rel=>exact ⟨k+1,by omega,by go_num,HP1.out,HP2.out,HP3.out⟩
   ·have hk':¬ (k:Int)<(us.length:Int):=by omega
    obtain rfl:k=us.length:=by omega
    have hO9:=HO.out
    rw [Nat.sub_self,List.replicate_zero,List.append_nil,List.take_of_length_le (by rw [HL.out];exact lR)] at hO9
    have HO9:=bz hO9
    have q5:wr.cell? ⟨w.heap.size,5,none⟩=some (.string nm):=HS.out.cell 5 (by decide)
    have hlt:=HO.out.lt
    have HJ:Hid (∀ W,wr.cell? ⟨w.heap.size,5,none⟩=some (.string nm)->Below wr.heap.size wr W->Calls Tryz.prog 101 #[.slice (some ⟨w.heap.size+1,0,none⟩) us.length us.length,.string ⟨#[44,32]⟩] W fun e w'=>e=.returned (.string CM)/\(w'.cell? ⟨w.heap.size,5,none⟩=some (.string nm)/\Below wr.heap.size wr w')):=fun W h5 hW=>by
     have:=Tryz.strings_Join (w.heap.size+1) 0 us.length Ss ⟨#[44,32]⟩ W (fun j x hj=>by
      have hjl:j<us.length:=by rw [<-HL.out];exact (List.getElem?_eq_some_iff.1 hj).1
      rw [Nat.zero_add]
      refine af hW ?_
      rw [HO9.out.cell j hjl]
      unfold strs
      rw [List.getElem?_map,hj]
      rfl) (lL hlt hW.size) (by rw [HL.out];omega) (by rw [HL.out];exact lR) (by
       have:=HC.out
       unfold dG at this
       have h9:(⟨#[44,32]⟩:ByteArray).data.toList=AE.data.toList:=rfl
       rw [h9]
       simp only [ByteArray.size,List.size_toArray] at this
       omega)
     rw [HL.out] at this
     refine this.mono ?_
     rintro e w' ⟨rfl,hb⟩
     exact ⟨by rw [<-HCM.out];rfl,af (hW.trans (hb.mono hW.size)) h5,hW.trans (hb.mono hW.size)⟩
    have HC2:CM.size<=100000000:=by rw [<-HCM.out];exact HC.out
    clear hO9 HO9 HO HH HP HC HCM
    have HJ2:Hid (∀ W,(W.cell? ⟨w.heap.size,5,none⟩=some (.string nm)/\Below wr.heap.size wr W)->Calls Tryz.prog 101 #[.slice (some ⟨w.heap.size+1,0,none⟩) us.length us.length,.string ⟨#[44,32]⟩] W fun e w'=>e=.returned (.string CM)/\(w'.cell? ⟨w.heap.size,5,none⟩=some (.string nm)/\Below wr.heap.size wr w')):=fun W h=>HJ.out W q5 h.2
    clear HJ
    go_wp2_with fail
    have j1:(9223372036854775807<nm.size+1)=False:=by simp;omega
    have j2:(9223372036854775807<nm.size+1+CM.size)=False:=by simp;omega
    have j3:(9223372036854775807<nm.size+1+CM.size+1)=False:=by simp;omega
    have kb:Below wr.heap.size wr wr.drew:=bR.drew
    go_region_held3 (fun W=>W.cell? ⟨w.heap.size,5,none⟩=some (.string nm)/\Below wr.heap.size wr W) (first | exact ⟨q5,kb⟩ | exact hKP) (first
     | (go_at_call 101;refine (HJ2.out _ (by assumption)).mono ?_;rintro e w' ⟨rfl,hKP⟩))
    all_goals
     go_wp2
     go_ret
     exact ⟨by unfold oG oR;rfl,HB.out.trans (hKP.2.mono HB.out.size)⟩
end
section
open Go.RowKit
mutual
def LX:X->Prop
 | .lit k n t=>Vl.validB k n t=true/\-9223372036854775808<=n/\n<=9223372036854775807/\(Vl.showB k n t).size<=200
 | .col _ nm=>nm.size<=200
 | .pre _ s x=>s.size<=200/\LX x
 | .inf _ s l r=>s.size<=200/\LX l/\LX r
 | .app _ nm l=>nm.size<=200/\zO l
def zO:List X->Prop
 | []=>True
 | x::l=>LX x/\zO l
end
theorem zO.snoc {x:X} (hx:LX x):∀ {l:List X},zO l->zO (l++[x])
 | [],_=>⟨hx,trivial⟩
 | y::l,h=>⟨h.1,zO.snoc hx h.2⟩
def ML:Mode->Prop
 | .D _=>True
 | .J _ l=>LX l
 | .Z _ nm=>nm.size<=200
 | .A _ nm l=>nm.size<=200/\zO l
theorem Ps.lx {E:Nat} {m:Mode} {lev:Nat} {ts:List Tk} {o:PR} (h:Ps Dc.LV E m lev ts o) :
 (∀ t∈ts,t.tx.size<=200)->ML m->∀ x ts',o=.ok (x,ts')->LX x:=by
 induction h with
 | jend h=>intro hw hm x ts' e;cases e;exact hm
 | jok hj hp _ ih1 ih2=>
  intro hw hm x ts' e
  exact ih2 (fun t ht=>hw t (hp.suffix _ _ rfl t ht)) (ih1 hw trivial _ _ rfl) x ts' e
 | jstep hs hp _ ih1 ih2=>
  intro hw hm x ts' e
  have hw1:=fun t ht=>hw t (List.mem_cons_of_mem _ ht)
  exact ih2 (fun t ht=>hw1 t (hp.suffix _ _ rfl t ht)) ⟨hw _ (by simp),hm,ih1 hw1 trivial _ _ rfl⟩ x ts' e
 | pok hpr ht _ _ ih1=>
  intro hw hm x ts' e
  cases e
  have hw1:=fun t ht=>hw t (List.mem_cons_of_mem _ ht)
  exact ⟨hw _ (by simp),ih1 hw1 trivial _ _ rfl⟩
 | pnone _ _ _ ih1=>intro hw hm x ts' e;exact ih1 hw trivial _ _ e
 | cnone _ _ ih1=>intro hw hm x ts' e;cases e;exact ih1 hw trivial _ _ rfl
 | cok hp hs _ ih1 ih2=>
  intro hw hm x ts' e
  cases e
  have hw1:=fun t ht=>hw t (hp.suffix _ _ rfl t ht)
  exact ⟨hw1 _ (by simp),ih1 hw trivial _ _ rfl,ih2 (fun t ht=>hw1 t (List.mem_cons_of_mem _ ht)) trivial _ _ rfl⟩
 | lit hl hk=>
  intro hw hm x ts' e
  cases e
  have h1:=hw _ (List.mem_cons_self ..)
  obtain ⟨a1,a2,a3,a4⟩:=hk
  exact ⟨a1,a2,a3,by rw [a4];exact h1⟩
 | ncol=>intro hw hm x ts' e;cases e;exact hw _ (List.mem_cons_self ..)
 | zend=>intro hw hm x ts' e;cases e;exact ⟨hm,trivial⟩
 | aend=>intro hw hm x ts' e;cases e;exact hm
 | ook _ _ _ _ _ ih1=>intro hw hm x ts' e;cases e;exact ih1 (fun t ht=>hw t (List.mem_cons_of_mem _ ht)) trivial _ _ rfl
 | nargs _ _ _ _ _ _ _ _ ih1=>intro hw hm x ts' e;exact ih1 (fun t ht=>hw t (List.mem_cons_of_mem _ (List.mem_cons_of_mem _ ht))) (hw _ (List.mem_cons_self ..)) _ _ e
 | zok _ hp _ ih1 ih2=>
  intro hw hm x ts' e
  exact ih2 (fun t ht=>hw t (hp.suffix _ _ rfl t ht)) ⟨hm,ih1 hw trivial _ _ rfl,trivial⟩ x ts' e
 | aok _ hp _ ih1 ih2=>
  intro hw hm x ts' e
  have hw1:=fun t ht=>hw t (List.mem_cons_of_mem _ ht)
  exact ih2 (fun t ht=>hw1 t (hp.suffix _ _ rfl t ht)) ⟨hm.1,zO.snoc (ih1 hw1 trivial _ _ rfl) hm.2⟩ x ts' e
 | _=>intro hw hm x ts' e;cases e
mutual
def cu:X->ByteArray
 | .lit k n t=>Vl.showB k n t
 | .col _ nm=>nm
 | .pre _ s x=>fQ s++jI (decide (dm x<az s)) (cu x)
 | .inf _ s l r=>jI (decide (dm l<cZ s)) (cu l)++wH++s++wH++jI (decide (dm r<bW s+1)) (cu r)
 | .app _ nm l=>nm++oG++dG (dg l)++oR
def dg:List X->List ByteArray
 | []=>[]
 | x::l=>cu x::dg l
end
theorem rL:∀ l,(dg l).length=l.length
 | []=>rfl
 | x::l=>by rw [dg,List.length_cons,List.length_cons,rL l]
def nB:List ByteArray->Nat
 | []=>0
 | s::l=>s.size+2+nB l
theorem oJ (l:List ByteArray):(Lib.joinTail AE.data.toList (l.map (·.data.toList))).length<=nB l:=by
 induction l with
 | nil=>simp [Lib.joinTail,nB]
 | cons s l ih=>
  unfold Lib.joinTail at ih ⊢
  simp only [List.map_cons,List.flatten_cons,List.length_append,nB]
  have:AE.data.toList.length=2:=rfl
  have h2:s.data.toList.length=s.size:=Array.length_toList
  omega
theorem lj (l:List ByteArray):(dG l).size<=nB l:=by
 unfold dG
 simp only [ByteArray.size,List.size_toArray]
 cases l with
 | nil=>simp [Lib.join_nil,nB]
 | cons s l=>
  rw [List.map_cons,Lib.join_cons,List.length_append,nB]
  have:=oJ l
  have h2:s.data.toList.length=s.size:=Array.length_toList
  simp only [ByteArray.size] at h2 ⊢
  omega
mutual
theorem ed:∀ (x:X),LX x->(cu x).size+4<=220*jh x
 | .lit k n t,h=>by rw [cu,jh];have:=h.2.2.2;omega
 | .col _ nm,h=>by rw [cu,jh];have:nm.size<=200:=h;omega
 | .pre _ s x,h=>by
  rw [cu,jh]
  have h1:=ed x h.2
  have h2:=iO (decide (dm x<az s)) (cu x)
  have h3:(fQ s).size<=s.size+1:=by
   unfold fQ;split
   ·rw [ByteArray.size_append];have:wH.size=1:=rfl;omega
   ·omega
  have h4:=h.1
  rw [ByteArray.size_append]
  omega
 | .inf _ s l r,h=>by
  rw [cu,jh]
  have h1:=ed l h.2.1
  have h2:=ed r h.2.2
  have h3:=iO (decide (dm l<cZ s)) (cu l)
  have h4:=iO (decide (dm r<bW s+1)) (cu r)
  have h5:=h.1
  have:wH.size=1:=rfl
  simp only [ByteArray.size_append]
  omega
 | .app _ nm l,h=>by
  rw [cu,jh]
  have h1:=kQ l h.2
  have h2:=lj (dg l)
  have h5:=h.1
  have:oG.size=1:=rfl
  have:oR.size=1:=rfl
  simp only [ByteArray.size_append]
  omega
theorem kQ:∀ (l:List X),zO l->nB (dg l)<=220*gb l
 | [],_=>by rw [dg];simp [nB]
 | x::l,h=>by
  rw [dg,nB,gb]
  have h1:=ed x h.1
  have h2:=kQ l h.2
  have:=tZ x
  omega
end
theorem uT {k n:Int} {s:ByteArray} (h:Vl.validB k n s=true):s.size<=60:=by
 rcases Vl.valid_form h with ⟨_,_,rfl⟩ | ⟨_,rfl⟩ | ⟨_,_,rfl⟩ | ⟨_,_,rfl⟩ | ⟨_,_,h⟩
 all_goals first | exact h | decide
theorem AB {w:World} {g:Nat} {ps u:Value} (h:cK w g ps [u]):∃ b c,ps=.slice (some ⟨b,0,none⟩) 1 c/\w.cell? ⟨b,0,none⟩=some u:=by
 rcases h with ⟨_,h⟩ | ⟨b,c,h1,h2,h3,h4,h5⟩
 ·cases h
 ·exact ⟨b,c,h1,h5 0 (by simp)⟩
theorem zT {w:World} {g:Nat} {ps u u':Value} (h:cK w g ps [u,u']):∃ b c,ps=.slice (some ⟨b,0,none⟩) 2 c/\w.cell? ⟨b,0,none⟩=some u/\w.cell? ⟨b,1,none⟩=some u':=by
 rcases h with ⟨_,h⟩ | ⟨b,c,h1,h2,h3,h4,h5⟩
 ·cases h
 ·exact ⟨b,c,h1,h5 0 (by simp),h5 1 (by simp)⟩
mutual
theorem fm (w:World) (g:Nat) (ht:Vl.Tab w):∀ (x:X) (v:Value),Nd w g x v->LX x->jh x<=200->WR w v (cu x)
 | .lit k n t,v,h,hl,_=>by
  rw [Nd] at h
  subst h
  intro W hW
  have hv:=uT hl.1
  exact rW k n t _ W fun W' hW'=>Vl.show_any k n t W' (by unfold maxLen;omega) hl.2.1 hl.2.2.1 (Vl.Tab.later ht (hW.trans (hW'.mono hW.size)))
 | .col pl nm,v,h,_,_=>by
  rw [Nd] at h
  subst h
  intro W hW
  exact p8 pl nm W
 | .pre pl s x,v,h,hl,hs=>by
  rw [Nd] at h
  obtain ⟨tk,f,ps,u,h1,h2,h3,h4,h5⟩:=h
  rw [jh] at hs
  have ih:=fm w g ht x u h5 hl.2 (by omega)
  obtain ⟨ta,tn,tc,rfl⟩:=h2.form
  obtain ⟨n,k,rfl⟩:=h3.form
  obtain ⟨b,c,rfl,hc⟩:=AB h4
  subst h1
  intro W hW
  have hz:=ed x hl.2
  have hq:=hl.1
  exact qV pl s ta tn tc _ n k b c x u g W (cu x) (af hW hc) (h5.later hW) (by omega) (by omega) (ih.later hW)
 | .inf pl s l r,v,h,hl,hs=>by
  rw [Nd] at h
  obtain ⟨tk,f,ps,u,u',h1,h0,h2,h3,h4,h5,h6⟩:=h
  rw [jh] at hs
  have ih:=fm w g ht l u h5 hl.2.1 (by omega)
  have ih':=fm w g ht r u' h6 hl.2.2 (by omega)
  obtain ⟨ta,tn,tc,rfl⟩:=h2.form
  obtain ⟨n,k,rfl⟩:=h3.form
  obtain ⟨b,c,rfl,hc,hc'⟩:=zT h4
  subst h1
  intro W hW
  have hz:=ed l hl.2.1
  have hz':=ed r hl.2.2
  have hq:=hl.1
  exact qv pl s ta tn tc _ n k b c l r u u' g W (cu l) (cu r) (af hW hc) (af hW hc') (h5.later hW) (h6.later hW) (by omega) (by omega) (by omega) (ih.later hW) (ih'.later hW)
 | .app pl nm l,v,h,hl,hs=>by
  rw [Nd] at h
  obtain ⟨tk,gv,f,ps,us,h1,h2,h3,h4,⟨ta',tn',tc',e9⟩,hf9⟩:=h
  rw [jh] at hs
  have ih:=lg w g ht l us h4 hl.2 (by omega)
  obtain ⟨pa,pn,pc,rfl⟩:=h3.form
  obtain rfl:pn=us.length:=h3.len
  subst e9
  subst h1
  intro W hW
  have hlen:=h4.length
  have hz:=kQ l hl.2
  have hz2:=lj (dg l)
  have hq:=hl.1
  have hle:=mb l
  exact pB pl nm ta' tn' tc' gv f hf9 pa pc us _ g W (h3.later hW) (by omega) (dg l) (by rw [rL,hlen]) (by omega) (by omega) (fun i u S hu hS W' hW'=>ih i u S hu hS W' (hW.trans (hW'.mono hW.size)))
theorem lg (w:World) (g:Nat) (ht:Vl.Tab w):∀ (l:List X) (us:List Value),ez w g l us->zO l->gb l<=200->∀ (i:Nat) u S,us[i]?=some u->(dg l)[i]?=some S->∀ W,Below w.heap.size w W->Calls Tryz.prog 244 #[u,.int .i64 0] W fun e w'=>e=.returned (.string S)/\Below W.heap.size W w'
 | [],us,h,_,_=>by
  rw [ez] at h
  subst h
  intro i u S hu
  simp at hu
 | x::l,us,h,hl,hs=>by
  rw [ez] at h
  obtain ⟨u0,us',rfl,h2,h3⟩:=h
  rw [gb] at hs
  have ih:=fm w g ht x u0 h2 hl.1 (by omega)
  have ihs:=lg w g ht l us' h3 hl.2 (by omega)
  intro i u S hu hS W hW
  match i,hu,hS with
  | 0,hu,hS=>
   rw [dg] at hS
   simp at hu hS
   subst hu hS
   have hz:=ed x hl.1
   refine (gY x u0 W g (h2.later hW) (cu x) 0 (by omega) (ih.later hW)).mono ?_
   rintro e w' ⟨rfl,hb⟩
   refine ⟨?_,hb⟩
   have:=si x
   rw [decide_eq_false (by omega)]
   rfl
  | i+1,hu,hS=>
   rw [dg] at hS
   exact ihs i u S (by simpa using hu) (by simpa using hS) W hW
end
end
end Go.Proofs.YtiiliobffnhpmaaGreatDoor
