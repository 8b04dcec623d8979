import Derived.Test.YtiiliobffnhpmaaGreatDoorGbg
set_option linter.all false
set_option maxRecDepth 100000
set_option maxHeartbeats 4000000
namespace Go.Proofs.YtiiliobffnhpmaaGreatDoor
namespace Oo
open Go.RowKit
theorem gX {p:Prop} (h:p):Hid p:=h
theorem aG.jlater {w wx:World} {a:Option Addr} {l:List Int} (h:aG w a l) (hb:Below w.heap.size w wx):aG wx a l:=fun i hi=>by
 obtain ⟨b,off,e,h1⟩:=h i hi
 exact ⟨b,off,e,(hb.cell (bL h1)).trans h1⟩
theorem xB (ins ah:List Int) (i:Nat) (h:∀ x∈ah,0<=x/\x<=20000):0<=ja ins ah i/\ja ins ah i<=20000:=by
 unfold ja
 split
 ·rename_i x _
  split
  ·rename_i hx
   have hl:x.toNat<ah.length:=by omega
   rw [List.getD_eq_getElem?_getD,List.getElem?_eq_getElem hl]
   exact h _ (List.getElem_mem hl)
  ·omega
 ·omega
theorem vZ (k s t:Int) (hs:0<=s/\s<=1048576):0<=ct k s t/\ct k s t<=1048577:=by
 unfold ct
 split
 ·split
  ·omega
  ·rename_i h1
   have hq:0<=Int.tdiv s t/\Int.tdiv s t<=s:=by
    rw [Int.tdiv_eq_ediv_of_nonneg hs.1]
    exact ⟨Int.ediv_nonneg hs.1 (by omega),Int.ediv_le_self _ hs.1⟩
   split<;>omega
 ·omega
def lA (ins ah:List Int) (n:Nat):Int:=((List.range n).map (ja ins ah)).sum
theorem nK (ins ah:List Int) (n:Nat):lA ins ah (n+1)=lA ins ah n+ja ins ah n:=by
 unfold lA;rw [List.range_succ,List.map_append,List.sum_append];simp
theorem uJ (ins ah:List Int) (h:∀ x∈ah,0<=x/\x<=20000):∀ n,0<=lA ins ah n/\lA ins ah n<=20000*n
 | 0=>by unfold lA;simp
 | n+1=>by
  have:=uJ ins ah h n
  have:=xB ins ah n h
  rw [nK]
  omega
def dQ (k wk ws wt:Int) (ins ah:List Int):Int:=if k=1 then 100 else if k=4 then ja ins ah 0*ct wk ws wt else if k=5 then ja ins ah 0*ja ins ah 1*ct wk ws wt else lA ins ah ins.length
theorem sB (k wk ws wt:Int) (ins ah:List Int) (ia:Option Addr) (ic:Nat) (aa:Option Addr) (ac:Nat) (v0 v2 v3 v4 v5 v6 v7 v11 v12 v14 v15:Value) (w:World) (hi:aG w ia ins) (ha:aG w aa ah) (hb:∀ x∈ah,0<=x/\x<=20000) (hn:ins.length<=4096) (hs:0<=ws/\ws<=1048576) (ht:wt<=9223372036854775807) :
 Calls Tryz.prog 19 #[.agg #[v0,.int .i64 k,v2,v3,v4,v5,v6,v7,.int .i64 wk,.int .i64 ws,.int .i64 wt,v11,v12,.slice ia ins.length ic,v14,v15],.slice aa ah.length ac] w fun e w'=>e=.returned (.int .i64 (dQ k wk ws wt ins ah))/\Below w.heap.size w w':=by
 have HI:=gX hi
 have HA:=gX ha
 have HOB:=gX (fun i=>xB ins ah i hb)
 have HTB:=gX (vZ wk ws wt hs)
 have HSB:=gX (uJ ins ah hb)
 have HHS:Hid (0<=ws/\ws<=1099511627776):=⟨hs.1,by omega⟩
 have HT:=gX ht
 obtain ⟨K,hK⟩:∃ K:Obj,K=.cells #[v0,.int .i64 k,v2,v3,v4,v5,v6,v7,.int .i64 wk,.int .i64 ws,.int .i64 wt,v11,v12,.slice ia ins.length ic,v14,v15] 61:=⟨_,rfl⟩
 have HB0:Hid (Below w.heap.size w ((w.alloc (.cells #[v0,.int .i64 k,v2,v3,v4,v5,v6,v7,.int .i64 wk,.int .i64 ws,.int .i64 wt,v11,v12,.slice ia ins.length ic,v14,v15] 61)).alloc (.cells #[.slice aa ah.length ac] 31))):=(AY _ _).alloc (by simp) _
 have HC:Hid (∀ W,Below ((w.alloc (.cells #[v0,.int .i64 k,v2,v3,v4,v5,v6,v7,.int .i64 wk,.int .i64 ws,.int .i64 wt,v11,v12,.slice ia ins.length ic,v14,v15] 61)).alloc (.cells #[.slice aa ah.length ac] 31)).heap.size ((w.alloc (.cells #[v0,.int .i64 k,v2,v3,v4,v5,v6,v7,.int .i64 wk,.int .i64 ws,.int .i64 wt,v11,v12,.slice ia ins.length ic,v14,v15] 61)).alloc (.cells #[.slice aa ah.length ac] 31)) W->(W.cell? ⟨w.heap.size,8,none⟩=some (.int .i64 wk)/\W.cell? ⟨w.heap.size,9,none⟩=some (.int .i64 ws)/\W.cell? ⟨w.heap.size,10,none⟩=some (.int .i64 wt))/\W.cell? ⟨w.heap.size,13,none⟩=some (.slice ia ins.length ic)/\W.cell? ⟨w.heap.size+1,0,none⟩=some (.slice aa ah.length ac)):=fun W hW=>by
  have q:∀ j v,((w.alloc (.cells #[v0,.int .i64 k,v2,v3,v4,v5,v6,v7,.int .i64 wk,.int .i64 ws,.int .i64 wt,v11,v12,.slice ia ins.length ic,v14,v15] 61)).alloc (.cells #[.slice aa ah.length ac] 31)).cell? ⟨w.heap.size,j,none⟩=some v->W.cell? ⟨w.heap.size,j,none⟩=some v:=fun j v h=>(hW.cell (bL h)).trans h
  have q2:∀ j v,((w.alloc (.cells #[v0,.int .i64 k,v2,v3,v4,v5,v6,v7,.int .i64 wk,.int .i64 ws,.int .i64 wt,v11,v12,.slice ia ins.length ic,v14,v15] 61)).alloc (.cells #[.slice aa ah.length ac] 31)).cell? ⟨w.heap.size+1,j,none⟩=some v->W.cell? ⟨w.heap.size+1,j,none⟩=some v:=fun j v h=>(hW.cell (bL h)).trans h
  exact ⟨⟨q 8 _ (by go_simp),q 9 _ (by go_simp),q 10 _ (by go_simp)⟩,q 13 _ (by go_simp),q2 0 _ (by go_simp)⟩
 have HOF:Hid (∀ (i:Nat) W,Below ((w.alloc (.cells #[v0,.int .i64 k,v2,v3,v4,v5,v6,v7,.int .i64 wk,.int .i64 ws,.int .i64 wt,v11,v12,.slice ia ins.length ic,v14,v15] 61)).alloc (.cells #[.slice aa ah.length ac] 31)).heap.size ((w.alloc (.cells #[v0,.int .i64 k,v2,v3,v4,v5,v6,v7,.int .i64 wk,.int .i64 ws,.int .i64 wt,v11,v12,.slice ia ins.length ic,v14,v15] 61)).alloc (.cells #[.slice aa ah.length ac] 31)) W->Calls Tryz.prog 49 #[.int .i64 (i:Int),.pointer (some ⟨w.heap.size,0,none⟩),.pointer (some ⟨w.heap.size+1,0,none⟩)] W fun e w'=>e=.returned (.int .i64 (ja ins ah i))/\Below W.heap.size W w'):=fun i W hW=>z8 ins ah ia ic aa ac i w.heap.size (w.heap.size+1) W (HC.out W hW).2.1 (HC.out W hW).2.2 (HI.out.jlater (HB0.out.trans (hW.mono HB0.out.size))) (HA.out.jlater (HB0.out.trans (hW.mono HB0.out.size)))
 by_cases h1:k=1
 ·have HR:Hid (dQ k wk ws wt ins ah=100):=by unfold Hid dQ;rw [if_pos h1]
  subst h1
  go_in
  go_wp2
  go_ret
  exact ⟨by rw [HR.out];rfl,HB0.out⟩
 by_cases h4:k=4
 ·have HR:Hid (dQ k wk ws wt ins ah=ja ins ah 0*ct wk ws wt):=by unfold Hid dQ;rw [if_neg h1,if_pos h4]
  subst h4
  go_in
  go_wp2_with fail
  generalize (w.alloc (.cells #[v0,.int .i64 4,v2,v3,v4,v5,v6,v7,.int .i64 wk,.int .i64 ws,.int .i64 wt,v11,v12,.slice ia ins.length ic,v14,v15] 61)).alloc (.cells #[.slice aa ah.length ac] 31)=W0 at *
  have HST:Hid (∀ W w',(W.cell? ⟨w.heap.size,8,none⟩=some (.int .i64 wk)/\W.cell? ⟨w.heap.size,9,none⟩=some (.int .i64 ws)/\W.cell? ⟨w.heap.size,10,none⟩=some (.int .i64 wt)/\Below W0.heap.size W0 W)->Below W.heap.size W w'->w'.cell? ⟨w.heap.size,8,none⟩=some (.int .i64 wk)/\w'.cell? ⟨w.heap.size,9,none⟩=some (.int .i64 ws)/\w'.cell? ⟨w.heap.size,10,none⟩=some (.int .i64 wt)/\Below W0.heap.size W0 w'):=fun W w' h hb=>by
   have hb':=h.2.2.2.trans (hb.mono h.2.2.2.size)
   exact ⟨(HC.out w' hb').1.1,(HC.out w' hb').1.2.1,(HC.out w' hb').1.2.2,hb'⟩
  have HC0:Hid (∀ W,(W.cell? ⟨w.heap.size,8,none⟩=some (.int .i64 wk)/\W.cell? ⟨w.heap.size,9,none⟩=some (.int .i64 ws)/\W.cell? ⟨w.heap.size,10,none⟩=some (.int .i64 wt)/\Below W0.heap.size W0 W)->Calls Tryz.prog 49 #[.int .i64 0,.pointer (some ⟨w.heap.size,0,none⟩),.pointer (some ⟨w.heap.size+1,0,none⟩)] W fun e w'=>e=.returned (.int .i64 (ja ins ah 0))/\w'.cell? ⟨w.heap.size,8,none⟩=some (.int .i64 wk)/\w'.cell? ⟨w.heap.size,9,none⟩=some (.int .i64 ws)/\w'.cell? ⟨w.heap.size,10,none⟩=some (.int .i64 wt)/\Below W0.heap.size W0 w'):=fun W h=>(HOF.out 0 W h.2.2.2).mono fun e w' hh=>⟨hh.1,HST.out W w' h hh.2⟩
  have HC1:Hid (∀ W,(W.cell? ⟨w.heap.size,8,none⟩=some (.int .i64 wk)/\W.cell? ⟨w.heap.size,9,none⟩=some (.int .i64 ws)/\W.cell? ⟨w.heap.size,10,none⟩=some (.int .i64 wt)/\Below W0.heap.size W0 W)->Calls Tryz.prog 49 #[.int .i64 1,.pointer (some ⟨w.heap.size,0,none⟩),.pointer (some ⟨w.heap.size+1,0,none⟩)] W fun e w'=>e=.returned (.int .i64 (ja ins ah 1))/\w'.cell? ⟨w.heap.size,8,none⟩=some (.int .i64 wk)/\w'.cell? ⟨w.heap.size,9,none⟩=some (.int .i64 ws)/\w'.cell? ⟨w.heap.size,10,none⟩=some (.int .i64 wt)/\Below W0.heap.size W0 w'):=fun W h=>(HOF.out 1 W h.2.2.2).mono fun e w' hh=>⟨hh.1,HST.out W w' h hh.2⟩
  have HC2:Hid (∀ W,(W.cell? ⟨w.heap.size,8,none⟩=some (.int .i64 wk)/\W.cell? ⟨w.heap.size,9,none⟩=some (.int .i64 ws)/\W.cell? ⟨w.heap.size,10,none⟩=some (.int .i64 wt)/\Below W0.heap.size W0 W)->Calls Tryz.prog 50 #[.agg #[.int .i64 wk,.int .i64 ws,.int .i64 wt]] W fun e w'=>e=.returned (.int .i64 (ct wk ws wt))/\w'.cell? ⟨w.heap.size,8,none⟩=some (.int .i64 wk)/\w'.cell? ⟨w.heap.size,9,none⟩=some (.int .i64 ws)/\w'.cell? ⟨w.heap.size,10,none⟩=some (.int .i64 wt)/\Below W0.heap.size W0 w'):=fun W h=>(fP wk ws wt W HHS.out HT.out).mono fun e w' hh=>⟨hh.1,HST.out W w' h hh.2⟩
  obtain ⟨⟨k0,k1,k2⟩,-⟩:=HC.out W0 bR
  have k3:Below W0.heap.size W0 W0:=bR
  have FIN:Hid (∀ W,(W.cell? ⟨w.heap.size,8,none⟩=some (.int .i64 wk)/\W.cell? ⟨w.heap.size,9,none⟩=some (.int .i64 ws)/\W.cell? ⟨w.heap.size,10,none⟩=some (.int .i64 wt)/\Below W0.heap.size W0 W)->Below w.heap.size w W):=fun W h=>HB0.out.trans (h.2.2.2.mono HB0.out.size)
  have b0:=HOB.out 0
  have b1:=HOB.out 1
  have b2:=HTB.out
  generalize ja ins ah 0=x0 at *
  generalize ja ins ah 1=x1 at *
  generalize ct wk ws wt=x2 at *
  have hm:0<=x0*x2/\x0*x2<=20000*1048577:=⟨Int.mul_nonneg b0.1 b2.1,Int.mul_le_mul b0.2 b2.2 b2.1 (by omega)⟩
  have hw:IntKind.i64.wrap (x0*x2)=x0*x2:=Ck (by omega) (by omega)
  go_region_held3 (fun W=>W.cell? ⟨w.heap.size,8,none⟩=some (.int .i64 wk)/\W.cell? ⟨w.heap.size,9,none⟩=some (.int .i64 ws)/\W.cell? ⟨w.heap.size,10,none⟩=some (.int .i64 wt)/\Below W0.heap.size W0 W) (first | exact ⟨k0,k1,k2,k3.drew⟩ | exact hKP) (first
   | (go_at_call 49;refine (HC0.out _ (by assumption)).mono ?_;rintro e w' ⟨rfl,hKP⟩)
   | (go_at_call 50;refine (HC2.out _ (by assumption)).mono ?_;rintro e w' ⟨rfl,hKP⟩))
  all_goals
   go_wp2
   go_ret
   exact ⟨by rw [HR.out];rfl,FIN.out _ hKP⟩
 by_cases h5:k=5
 ·have HR:Hid (dQ k wk ws wt ins ah=ja ins ah 0*ja ins ah 1*ct wk ws wt):=by unfold Hid dQ;rw [if_neg h1,if_neg h4,if_pos h5]
  subst h5
  go_in
  go_wp2_with fail
  generalize (w.alloc (.cells #[v0,.int .i64 5,v2,v3,v4,v5,v6,v7,.int .i64 wk,.int .i64 ws,.int .i64 wt,v11,v12,.slice ia ins.length ic,v14,v15] 61)).alloc (.cells #[.slice aa ah.length ac] 31)=W0 at *
  have HST:Hid (∀ W w',(W.cell? ⟨w.heap.size,8,none⟩=some (.int .i64 wk)/\W.cell? ⟨w.heap.size,9,none⟩=some (.int .i64 ws)/\W.cell? ⟨w.heap.size,10,none⟩=some (.int .i64 wt)/\Below W0.heap.size W0 W)->Below W.heap.size W w'->w'.cell? ⟨w.heap.size,8,none⟩=some (.int .i64 wk)/\w'.cell? ⟨w.heap.size,9,none⟩=some (.int .i64 ws)/\w'.cell? ⟨w.heap.size,10,none⟩=some (.int .i64 wt)/\Below W0.heap.size W0 w'):=fun W w' h hb=>by
   have hb':=h.2.2.2.trans (hb.mono h.2.2.2.size)
   exact ⟨(HC.out w' hb').1.1,(HC.out w' hb').1.2.1,(HC.out w' hb').1.2.2,hb'⟩
  have HC0:Hid (∀ W,(W.cell? ⟨w.heap.size,8,none⟩=some (.int .i64 wk)/\W.cell? ⟨w.heap.size,9,none⟩=some (.int .i64 ws)/\W.cell? ⟨w.heap.size,10,none⟩=some (.int .i64 wt)/\Below W0.heap.size W0 W)->Calls Tryz.prog 49 #[.int .i64 0,.pointer (some ⟨w.heap.size,0,none⟩),.pointer (some ⟨w.heap.size+1,0,none⟩)] W fun e w'=>e=.returned (.int .i64 (ja ins ah 0))/\w'.cell? ⟨w.heap.size,8,none⟩=some (.int .i64 wk)/\w'.cell? ⟨w.heap.size,9,none⟩=some (.int .i64 ws)/\w'.cell? ⟨w.heap.size,10,none⟩=some (.int .i64 wt)/\Below W0.heap.size W0 w'):=fun W h=>(HOF.out 0 W h.2.2.2).mono fun e w' hh=>⟨hh.1,HST.out W w' h hh.2⟩
  have HC1:Hid (∀ W,(W.cell? ⟨w.heap.size,8,none⟩=some (.int .i64 wk)/\W.cell? ⟨w.heap.size,9,none⟩=some (.int .i64 ws)/\W.cell? ⟨w.heap.size,10,none⟩=some (.int .i64 wt)/\Below W0.heap.size W0 W)->Calls Tryz.prog 49 #[.int .i64 1,.pointer (some ⟨w.heap.size,0,none⟩),.pointer (some ⟨w.heap.size+1,0,none⟩)] W fun e w'=>e=.returned (.int .i64 (ja ins ah 1))/\w'.cell? ⟨w.heap.size,8,none⟩=some (.int .i64 wk)/\w'.cell? ⟨w.heap.size,9,none⟩=some (.int .i64 ws)/\w'.cell? ⟨w.heap.size,10,none⟩=some (.int .i64 wt)/\Below W0.heap.size W0 w'):=fun W h=>(HOF.out 1 W h.2.2.2).mono fun e w' hh=>⟨hh.1,HST.out W w' h hh.2⟩
  have HC2:Hid (∀ W,(W.cell? ⟨w.heap.size,8,none⟩=some (.int .i64 wk)/\W.cell? ⟨w.heap.size,9,none⟩=some (.int .i64 ws)/\W.cell? ⟨w.heap.size,10,none⟩=some (.int .i64 wt)/\Below W0.heap.size W0 W)->Calls Tryz.prog 50 #[.agg #[.int .i64 wk,.int .i64 ws,.int .i64 wt]] W fun e w'=>e=.returned (.int .i64 (ct wk ws wt))/\w'.cell? ⟨w.heap.size,8,none⟩=some (.int .i64 wk)/\w'.cell? ⟨w.heap.size,9,none⟩=some (.int .i64 ws)/\w'.cell? ⟨w.heap.size,10,none⟩=some (.int .i64 wt)/\Below W0.heap.size W0 w'):=fun W h=>(fP wk ws wt W HHS.out HT.out).mono fun e w' hh=>⟨hh.1,HST.out W w' h hh.2⟩
  obtain ⟨⟨k0,k1,k2⟩,-⟩:=HC.out W0 bR
  have k3:Below W0.heap.size W0 W0:=bR
  have FIN:Hid (∀ W,(W.cell? ⟨w.heap.size,8,none⟩=some (.int .i64 wk)/\W.cell? ⟨w.heap.size,9,none⟩=some (.int .i64 ws)/\W.cell? ⟨w.heap.size,10,none⟩=some (.int .i64 wt)/\Below W0.heap.size W0 W)->Below w.heap.size w W):=fun W h=>HB0.out.trans (h.2.2.2.mono HB0.out.size)
  have b0:=HOB.out 0
  have b1:=HOB.out 1
  have b2:=HTB.out
  generalize ja ins ah 0=x0 at *
  generalize ja ins ah 1=x1 at *
  generalize ct wk ws wt=x2 at *
  have hp:0<=x0*x1/\x0*x1<=20000*20000:=⟨Int.mul_nonneg b0.1 b1.1,Int.mul_le_mul b0.2 b1.2 b1.1 (by omega)⟩
  have hm:0<=x0*x1*x2/\x0*x1*x2<=400000000*1048577:=⟨Int.mul_nonneg hp.1 b2.1,Int.mul_le_mul (by omega) b2.2 b2.1 (by omega)⟩
  have hw0:IntKind.i64.wrap (x0*x1)=x0*x1:=Ck (by omega) (by omega)
  have hw:IntKind.i64.wrap (x0*x1*x2)=x0*x1*x2:=Ck (by omega) (by omega)
  go_region_held3 (fun W=>W.cell? ⟨w.heap.size,8,none⟩=some (.int .i64 wk)/\W.cell? ⟨w.heap.size,9,none⟩=some (.int .i64 ws)/\W.cell? ⟨w.heap.size,10,none⟩=some (.int .i64 wt)/\Below W0.heap.size W0 W) (first | exact ⟨k0,k1,k2,k3.drew⟩ | exact hKP) (first
   | (go_at_call_has 49 (Value.int .i64 0);refine (HC0.out _ (by assumption)).mono ?_;rintro e w' ⟨rfl,hKP⟩)
   | (go_at_call_has 49 (Value.int .i64 1);refine (HC1.out _ (by assumption)).mono ?_;rintro e w' ⟨rfl,hKP⟩)
   | (go_at_call 50;refine (HC2.out _ (by assumption)).mono ?_;rintro e w' ⟨rfl,hKP⟩))
  all_goals
   go_wp2
   go_ret
   exact ⟨by rw [HR.out];rfl,FIN.out _ hKP⟩
 have HR:Hid (dQ k wk ws wt ins ah=lA ins ah ins.length):=by unfold Hid dQ;rw [if_neg h1,if_neg h4,if_neg h5]
 have e1:(k==1)=false:=by simpa using h1
 have e4:(k==4)=false:=by simpa using h4
 have e5:(k==5)=false:=by simpa using h5
 go_in
 go_wp2_with fail
 generalize (w.alloc (.cells #[v0,.int .i64 k,v2,v3,v4,v5,v6,v7,.int .i64 wk,.int .i64 ws,.int .i64 wt,v11,v12,.slice ia ins.length ic,v14,v15] 61)).alloc (.cells #[.slice aa ah.length ac] 31)=W0 at *
 go_loopg [6,38] ins.length (fun gk s i wr=>∃ j:Nat,gk+j=ins.length/\i=.int .i64 j/\s=.int .i64 (lA ins ah j)/\Below W0.heap.size W0 wr)
 case atStart=>exact ⟨0,by omega,rfl,rfl,bR⟩
 case round=>
  obtain ⟨j,hj,rfl,rfl,hbr⟩:=hrel
  have HBR:=gX hbr
  by_cases hlt:j<ins.length
  ·have hji:(j:Int)<(ins.length:Int):=by omega
   have q1:=HSB.out j
   have q2:=HOB.out j
   have hw:IntKind.i64.wrap (lA ins ah j+ja ins ah j)=lA ins ah j+ja ins ah j:=Ck (by omega) (by omega)
   have HX:=jg (nK ins ah j)
   go_wp2_with fail
   refine (HOF.out j _ HBR.out).mono ?_
   rintro e w2 ⟨rfl,b2⟩
   have HB2:=gX (HBR.out.trans (b2.mono HBR.out.size))
   go_wp2_with fail
   go_roundg (gk-1)
   case measure=>omega
   case rel=>exact ⟨j+1,by omega,by go_num,by rw [HX.out],HB2.out⟩
  ·obtain rfl:j=ins.length:=by omega
   have hji:¬ ((ins.length:Nat):Int)<(ins.length:Int):=by omega
   go_wp2_with fail
   go_ret
   exact ⟨by rw [HR.out];rfl,HB0.out.trans (HBR.out.mono HB0.out.size)⟩
structure Wd where
 k:Int
 wk:Int
 ws:Int
 wt:Int
 ins:List Int
def xh (w:World) (a:Option Addr) (l:List Wd):Prop:=∀ i (h:i<l.length),∃ (b off:Nat) (nm:ByteArray) (a2:Option Addr) (n2 c2:Nat) (a3:Option Addr) (n3 c3:Nat) (a4:Option Addr) (n4 c4:Nat) (a5:Option Addr) (n5 c5:Nat) (a6:Option Addr) (n6 c6:Nat) (a7:Option Addr) (n7 c7:Nat) (a11:Option Addr) (n11 c11:Nat) (a14:Option Addr) (n14 c14:Nat) (ou:Bool) (bd:Int) (ia:Option Addr) (ic:Nat),a=some ⟨b,off,none⟩/\(∀ j v,[.string nm,.int .i64 l[i].k,.slice a2 n2 c2,.slice a3 n3 c3,.slice a4 n4 c4,.slice a5 n5 c5,.slice a6 n6 c6,.slice a7 n7 c7,.int .i64 l[i].wk,.int .i64 l[i].ws,.int .i64 l[i].wt,.slice a11 n11 c11,.bool ou,.slice ia l[i].ins.length ic,.slice a14 n14 c14,.int .i64 bd][j]?=some v->w.cell? ⟨b,off+i*16+j,none⟩=some v)/\aG w ia l[i].ins
theorem xh.later {w wx:World} {a:Option Addr} {l:List Wd} (h:xh w a l) (hb:Below w.heap.size w wx):xh wx a l:=fun i hi=>by
 obtain ⟨b,off,nm,a2,n2,c2,a3,n3,c3,a4,n4,c4,a5,n5,c5,a6,n6,c6,a7,n7,c7,a11,n11,c11,a14,n14,c14,ou,bd,ia,ic,e,h1,h2⟩:=h i hi
 exact ⟨b,off,nm,a2,n2,c2,a3,n3,c3,a4,n4,c4,a5,n5,c5,a6,n6,c6,a7,n7,c7,a11,n11,c11,a14,n14,c14,ou,bd,ia,ic,e,fun j v hj=>(hb.cell (bL (h1 j v hj))).trans (h1 j v hj),h2.jlater hb⟩
def wI (n:Wd) (ah:List Int):Int:=dQ n.k n.wk n.ws n.wt n.ins ah
def gq:List Wd->List Int->List Int
 | [],acc=>acc
 | n::l,acc=>gq l (acc++[wI n acc])
theorem qG (l:List Wd) (n:Wd) (acc:List Int):gq (l++[n]) acc=gq l acc++[wI n (gq l acc)]:=by
 induction l generalizing acc with
 | nil=>rfl
 | cons x l ih=>exact ih _
def OI (w:World) (B:Nat) (x:Value) (l:List Int):Prop:=w.ownsRow B 3 1 x l.length (l.map fun n=>Value.int .i64 n)
theorem OI.form {w:World} {B:Nat} {x:Value} {l:List Int} (h:OI w B x l):∃ a c,x=.slice a l.length c/\aG w a l:=by
 rcases h.2 with ⟨hv,h0⟩ | ⟨g,cap,cur,hv,r⟩
 ·exact ⟨none,0,by rw [hv,h0],fun i hi=>by omega⟩
 ·refine ⟨_,_,hv,fun i hi=>⟨g,0,rfl,?_⟩⟩
  subst hv
  have q:=World.ownsRow.cellAt h i (by omega)
  rw [Nat.zero_add]
  rw [q]
  simp [List.getElem?_eq_getElem hi]
theorem qL (l:List Wd) (a:Option Addr) (c:Nat) (w:World) (h:xh w a l) (hn:l.length<=4096) (hb:∀ n∈l,n.ins.length<=4096/\(0<=n.ws/\n.ws<=1048576)/\n.wt<=9223372036854775807) (hw:∀ i,i<l.length->∀ x∈gq (l.take i) [],0<=x/\x<=20000) :
 Calls Tryz.prog 7 #[.agg #[.slice a l.length c]] w fun e w'=>∃ v,e=.returned v/\OI w' w.heap.size v (gq l [])/\Below w.heap.size w w':=by
 obtain ⟨i0,hi0,hz0,hz1,hz2⟩:=info_parts Dz
 have H:=gX h
 have HBB:=gX hb
 have HW:=gX hw
 have HB0:=gX (AY w (.cells #[.slice a l.length c] 24))
 go_in
 go_wp2_with fail
 generalize w.alloc (.cells #[.slice a l.length c] 24)=W0 at *
 go_loopg [3,9] l.length (fun gk s i wr=>∃ j:Nat,gk+j=l.length/\i=.int .i64 j/\OI wr w.heap.size s (gq (l.take j) [])/\Below w.heap.size w wr)
 case atStart=>exact ⟨0,by omega,rfl,World.ownsRow_nil _ _ _ _,HB0.out⟩
 case round=>
  obtain ⟨j,hgk,rfl,hoi,hbr⟩:=hrel
  have HOI:=gX hoi
  have HBR:=gX hbr
  obtain ⟨sa,sc,hs,his⟩:=hoi.form
  subst hs
  have HIS:=gX his
  by_cases hlt:j<l.length
  ·have hji:(j:Int)<(l.length:Int):=by omega
   obtain ⟨b,off,nm,a2,n2,c2,a3,n3,c3,a4,n4,c4,a5,n5,c5,a6,n6,c6,a7,n7,c7,a11,n11,c11,a14,n14,c14,ou,bd,ia,ic,rfl,hc,hia⟩:=(H.out.later HBR.out) j hlt
   have d0:wr.cell? ⟨b,off+j*16,none⟩=some (.string nm):=hc 0 _ rfl
   have d1:=hc 1 _ rfl
   have d2:=hc 2 _ rfl
   have d3:=hc 3 _ rfl
   have d4:=hc 4 _ rfl
   have d5:=hc 5 _ rfl
   have d6:=hc 6 _ rfl
   have d7:=hc 7 _ rfl
   have d8:=hc 8 _ rfl
   have d9:=hc 9 _ rfl
   have d10:=hc 10 _ rfl
   have d11:=hc 11 _ rfl
   have d12:=hc 12 _ rfl
   have d13:=hc 13 _ rfl
   have d14:=hc 14 _ rfl
   have d15:=hc 15 _ rfl
   have HBX:=gX (AY wr (.cells #[.string nm,.int .i64 l[j].k,.slice a2 n2 c2,.slice a3 n3 c3,.slice a4 n4 c4,.slice a5 n5 c5,.slice a6 n6 c6,.slice a7 n7 c7,.int .i64 l[j].wk,.int .i64 l[j].ws,.int .i64 l[j].wt,.slice a11 n11 c11,.bool ou,.slice ia l[j].ins.length ic,.slice a14 n14 c14,.int .i64 bd] 61))
   obtain ⟨q1,q2,q3⟩:=HBB.out _ (List.getElem_mem hlt)
   have HWG:=gX (sB l[j].k l[j].wk l[j].ws l[j].wt l[j].ins (gq (l.take j) []) ia ic sa sc (.string nm) (.slice a2 n2 c2) (.slice a3 n3 c3) (.slice a4 n4 c4) (.slice a5 n5 c5) (.slice a6 n6 c6) (.slice a7 n7 c7) (.slice a11 n11 c11) (.bool ou) (.slice a14 n14 c14) (.int .i64 bd) (wr.alloc (.cells #[.string nm,.int .i64 l[j].k,.slice a2 n2 c2,.slice a3 n3 c3,.slice a4 n4 c4,.slice a5 n5 c5,.slice a6 n6 c6,.slice a7 n7 c7,.int .i64 l[j].wk,.int .i64 l[j].ws,.int .i64 l[j].wt,.slice a11 n11 c11,.bool ou,.slice ia l[j].ins.length ic,.slice a14 n14 c14,.int .i64 bd] 61)) (hia.jlater HBX.out) (HIS.out.jlater HBX.out) (HW.out j hlt) q1 q2 q3)
   have HTK:Hid (gq (l.take (j+1)) []=gq (l.take j) []++[wI l[j] (gq (l.take j) [])]):=by rw [Hid,List.take_succ_eq_append_getElem hlt,qG]
   have hlw:(gq (l.take j) []).length<=4096:=by
    have:∀ (m:List Wd) (acc:List Int),(gq m acc).length=acc.length+m.length:=by
     intro m
     induction m with
     | nil=>intro acc;simp [gq]
     | cons x m ih=>intro acc;rw [gq,ih];simp;omega
    rw [this];simp;omega
   rw [show dQ l[j].k l[j].wk l[j].ws l[j].wt l[j].ins (gq (l.take j) [])=wI l[j] (gq (l.take j) []) from rfl] at HWG
   generalize gq (l.take j) []=acc at *
   generalize wI l[j] acc=X at *
   go_wp2_with fail
   generalize wr.alloc (.cells #[.string nm,.int .i64 l[j].k,.slice a2 n2 c2,.slice a3 n3 c3,.slice a4 n4 c4,.slice a5 n5 c5,.slice a6 n6 c6,.slice a7 n7 c7,.int .i64 l[j].wk,.int .i64 l[j].ws,.int .i64 l[j].wt,.slice a11 n11 c11,.bool ou,.slice ia l[j].ins.length ic,.slice a14 n14 c14,.int .i64 bd] 61)=WX at *
   refine HWG.out.mono ?_
   rintro e w2 ⟨rfl,b2⟩
   have HB2:=gX (HBX.out.trans (b2.mono HBX.out.size))
   have HOI2:Hid (OI w2 w.heap.size (.slice sa acc.length sc) acc):=aO HOI.out HB2.out
   have HW2:=gX (HBR.out.trans (HB2.out.mono HBR.out.size))
   have hz2':=HW2.out.size
   go_wp2_with (first
    | (at_builtin;refine wpList_append_own_at _ rfl _ _ 31 rfl w.heap.size 3 i0 (.int .i64 0) 1 8 Tryz.underlying31 hi0 hz0 hz1 hz2 rfl (by decide) _ acc.length (acc.map fun n=>Value.int .i64 n) rfl (World.ownsRow.alloc HOI2.out _) ⟨w2.heap.size,0,none⟩ 1 1 [.int .i64 X] rfl rfl ?g1 ?g2 ?g3 ?g4 ?g5 ?_))
   case g1=>
    intro i u hi
    match i,hi with
    | 0,hi=>simp at hi;subst hi;simp [Addr.add]
   case g2=>intro u hu;simp at hu;subst hu;rfl
   case g3=>unfold maxLen;omega
   case g4=>omega
   case g5=>simp;omega
   intro v' w5 hown' hgrow _ hat
   have HOI5:Hid (OI w5 w.heap.size v' (acc++[X])):=by
    unfold Hid OI
    rw [List.length_append,List.map_append]
    simpa using hown'
   have HW5:=jg ((HW2.out.alloc HW2.out.size _).grown hgrow (by simp;omega) (fun k hk=>(World.ownsRow.lt HOI2.out k hk).1))
   obtain ⟨a5,c5',hv5,-⟩:=HOI5.out.form
   subst hv5
   go_wp2_with fail
   go_roundg (gk-1)
   case measure=>omega
   case rel=>exact ⟨j+1,by omega,by go_num,by rw [HTK.out];exact HOI5.out,HW5.out⟩
  ·obtain rfl:j=l.length:=by omega
   have hji:¬ ((l.length:Nat):Int)<(l.length:Int):=by omega
   rw [List.take_of_length_le lR] at HOI
   go_wp2_with fail
   go_ret
   exact ⟨.slice sa (gq l []).length sc,rfl,HOI.out,HBR.out⟩
end Oo
namespace Jp
open Go.RowKit Oo
def NL (w:World) (a:Option Addr) (ps:List (aJ × bM)):Prop:=∀ i (h:i<ps.length),∃ b off,a=some ⟨b,off,none⟩/\(∀ j v,(au ps[i].1 ps[i].2)[j]?=some v->w.cell? ⟨b,off+i*16+j,none⟩=some v)/\bw w ps[i].1 ps[i].2
theorem NL.nods {w:World} {a:Option Addr} {ps:List (aJ × bM)} (h:NL w a ps):eG w a (ps.map (·.1)):=fun i hi=>by
 rw [List.length_map] at hi
 obtain ⟨b,off,e,h1,h2⟩:=h i hi
 refine ⟨b,off,ps[i].2,e,?_,?_⟩
 ·rw [List.getElem_map];exact h1
 ·rw [List.getElem_map];exact h2
def bU (p:aJ × bM):List Value:=au p.1 p.2
theorem jy (ps:List (aJ × bM)):(ps.flatMap bU).length=ps.length*16:=by
 induction ps with
 | nil=>rfl
 | cons a l ih=>rw [List.flatMap_cons,List.length_append,ih,List.length_cons];simp [bU,au];omega
theorem gI (p:aJ × bM):∀ u∈bU p,u.oneCell'=true:=by
 intro u hu
 simp [bU,au] at hu
 rcases hu with rfl | rfl | rfl | rfl | rfl | rfl | rfl | rfl | rfl | rfl | rfl | rfl | rfl | rfl | rfl | rfl<;>rfl
theorem vM {w:World} {b off:Nat} {ps:List (aJ × bM)} (h:NL w (some ⟨b,off,none⟩) ps):∀ j u,(ps.flatMap bU)[j]?=some u->w.cell? ⟨b,off+j,none⟩=some u:=by
 intro j u hj
 have hlt:j<ps.length*16:=by
  have:=(List.getElem?_eq_some_iff.1 hj).1
  rwa [jy] at this
 have hi:j / 16<ps.length:=by omega
 have e:j=j / 16*16+j % 16:=by omega
 have hf:=eH bU 16 (fun _=>rfl) ps (j / 16) (j % 16) hi (by omega)
 rw [<-e,hj] at hf
 obtain ⟨b',off',e1,h1,-⟩:=h (j / 16) hi
 cases e1
 rw [show off+j=off+j / 16*16+j % 16 by omega]
 exact h1 _ _ hf.symm
theorem tw:(Tryz.prog.info? 61).map (fun i=>(i.zero,i.size,i.bytes))=some (some (.agg #[.string ⟨#[]⟩,.int .i64 0,.slice none 0 0,.slice none 0 0,.slice none 0 0,.slice none 0 0,.slice none 0 0,.slice none 0 0,.int .i64 0,.int .i64 0,.int .i64 0,.slice none 0 0,.bool false,.slice none 0 0,.slice none 0 0,.int .i64 0]),16,280):=by kernel_rfl
theorem yX (a:Option Addr) (ps:List (aJ × bM)) (c:Nat) (w:World) (h:NL w a ps) (hl:ps.length<=4096) :
 Calls Tryz.prog 88 #[.slice a ps.length c] w fun e w'=>∃ a' c',e=.returned (.slice a' ps.length c')/\w'.ownsRow w.heap.size 61 16 (.slice a' ps.length c') ps.length (ps.flatMap bU)/\Below w.heap.size w w':=by
 obtain ⟨i0,hi0,hz0,hz1,hz2⟩:=info_parts tw
 have q22:∀ (w:World) (a:Option Addr) (n c n' c':Nat),(binOp .eql 22 (.slice a n c) (.slice none n' c')).run Tryz.prog w=.ok (.bool a.isNone) w:=fun w a n c n' c'=>Lib.run_eql_slice_nil w _ _ a n c n' c' Tryz.underlying22
 cases a with
 | none=>
  have h0:ps=[]:=by
   cases ps with
   | nil=>rfl
   | cons v l=>obtain ⟨_,_,e,_⟩:=h 0 (by simp);cases e
  subst h0
  go_in
  go_wp2
  go_ret
  exact ⟨none,0,rfl,World.ownsRow_nil _ _ _ _,bR⟩
 | some ad=>
  have HV:=jg h
  go_in
  go_wp2_with (at_builtin;refine wpList_append_own_at _ rfl _ _ 22 rfl w.heap.size 61 i0 (.agg #[.string ⟨#[]⟩,.int .i64 0,.slice none 0 0,.slice none 0 0,.slice none 0 0,.slice none 0 0,.slice none 0 0,.slice none 0 0,.int .i64 0,.int .i64 0,.int .i64 0,.slice none 0 0,.bool false,.slice none 0 0,.slice none 0 0,.int .i64 0]) 16 280 Tryz.underlying22 hi0 hz0 hz1 hz2 rfl (by decide) _ 0 [] rfl (World.ownsRow_made w #[] 0 lR (Nat.zero_le _) (by simp)) ad ps.length c (ps.flatMap bU) rfl ?qc1 ?qc2 ?qc3 ?qc4 ?qc5 ?qc6 ?_)
  case qc1=>exact jy ps
  case qc2=>
   intro j u hj
   have hlt:=(List.getElem?_eq_some_iff.1 hj).1
   rw [jy] at hlt
   obtain ⟨b,off,e,-⟩:=HV.out 0 (by omega)
   cases e
   rw [WideShapes.add_plain]
   exact Lib.cell?_alloc_some _ (vM HV.out j u hj)
  case qc3=>intro u hu;obtain ⟨v,_,hu⟩:=List.mem_flatMap.1 hu;exact gI v u hu
  case qc4=>unfold maxLen;omega
  case qc5=>omega
  case qc6=>simp
  intro v' w1 hown hgrow hnil hat
  have hB:=((Below.refl _ w).alloc lR _).grown hgrow (by simp) (by intro k hk;simp [Value.ownBlock] at hk;omega)
  have hO:w1.ownsRow w.heap.size 61 16 v' ps.length (ps.flatMap bU):=by
   simpa using hown
  obtain ⟨a',c',rfl⟩:∃ a' c',v'=.slice a' ps.length c':=by
   rcases hO.2 with ⟨h1,h2⟩ | ⟨g,c,cur,h1,h2,h3,-⟩
   ·exact ⟨none,0,by rw [h1,h2]⟩
   ·exact ⟨_,_,h1⟩
  have HO:=jg hO
  go_wp2
  go_ret
  exact ⟨a',c',rfl,HO.out,hB⟩
theorem qn {W:World} {a:Option Addr} {l:List Co} {g j:Nat} {u:Value} {sa:Option Addr} {sn sc:Nat} (hc:ap W a l) (hv:W.cell? ⟨g,j,none⟩=some (.slice sa sn sc)):ap (W.setCell ⟨g,j,none⟩ u) a l:=fun i hi=>by
 obtain ⟨b,off,e,h1,h2⟩:=hc i hi
 refine ⟨b,off,e,?_,?_⟩
 ·rw [World.cell?_setCell_other _ _ _ _ (fun h=>by rw [h] at hv;rw [hv] at h1;cases h1)];exact h1
 ·rw [World.cell?_setCell_other _ _ _ _ (fun h=>by rw [h] at hv;rw [hv] at h2;cases h2)];exact h2
theorem tR {ck:ByteArray->Except Nat Int} {o:eJ} {l:List Co} (h:gf ck o=.ok l):bP l:=by
 unfold gf at h
 split at h
 ·split at h
  ·cases h
  ·unfold gi at h
   split at h
   ·cases h
   ·split at h
    ·cases h;assumption
    ·cases h
 ·cases h
def du (n:aJ):Wd:=⟨n.op.k,n.op.wk,n.op.ws,n.op.wt,n.ins⟩
theorem wX {W:World} {B m:Nat} {v:Value} {ps:List (aJ × bM)} (hm:m=ps.length) (h:W.ownsRow B 61 16 v m (ps.flatMap bU)) (hat:∀ p∈ps,bw W p.1 p.2):∃ a cc,v=.slice a ps.length cc/\NL W a ps:=by
 subst hm
 rcases h.2 with ⟨h1,h2⟩ | ⟨b,cap,cur,h1,h2,h3⟩
 ·exact ⟨none,0,by rw [h1,h2],fun i hi=>absurd hi (by omega)⟩
 ·subst h1
  refine ⟨_,_,rfl,fun i hi=>⟨b,0,rfl,fun j u hj=>?_,hat _ (List.getElem_mem hi)⟩⟩
  have hj16:j<16:=(List.getElem?_eq_some_iff.1 hj).1
  have:=World.ownsRow.cellAt h (i*16+j) (by omega)
  rw [eH bU 16 (fun _=>rfl) ps i j hi hj16] at this
  rw [Nat.zero_add]
  exact this.trans hj
theorem DS {W:World} {a:Option Addr} {ps:List (aJ × bM)} (h:NL W a ps):xh W a (ps.map fun p=>du p.1):=fun i hi=>by
 rw [List.length_map] at hi
 obtain ⟨b,off,e,h1,h2⟩:=h i hi
 refine ⟨b,off,ps[i].1.nm,ps[i].2.p.ea,ps[i].1.op.ex.length,ps[i].2.p.ec,ps[i].2.p.na,ps[i].1.op.nm.length,ps[i].2.p.nc,ps[i].2.p.ca,ps[i].1.op.c.length,ps[i].2.p.cc,ps[i].2.p.ra,ps[i].1.op.r.length,ps[i].2.p.rc,ps[i].2.p.ka,ps[i].1.op.ks.length,ps[i].2.p.kc,ps[i].2.p.oa,ps[i].1.op.os.length,ps[i].2.p.oc,ps[i].2.p.ga,ps[i].1.op.ag.length,ps[i].2.p.gc,ps[i].2.ka,ps[i].1.cols.length,ps[i].2.kc,ps[i].1.op.ou,ps[i].1.bd,ps[i].2.ia,ps[i].2.ic,e,?_,?_⟩
 ·simp only [List.getElem_map];exact h1
 ·simp only [List.getElem_map];exact h2.i
theorem ya {W:World} {n:aJ} {q:bM} {g:Nat} (h:aD W g 61 16 (au n q)):∀ j u,(au n q)[j]?=some u->W.cell? ((⟨g,0,none⟩:Addr).add j)=some u:=fun i u hi=>by
 rw [WideShapes.add_plain]
 have hlt:i<16:=(List.getElem?_eq_some_iff.1 hi).1
 rw [Nat.zero_add,h.cell i hlt]
 exact hi
end Jp
end Go.Proofs.YtiiliobffnhpmaaGreatDoor
