import Derived.Test.YtiiliobffnhpmaaGreatDoorGak
import Derived.Stop.Asserts
set_option linter.all false
set_option maxRecDepth 100000
set_option maxHeartbeats 4000000
namespace Go.Proofs.YtiiliobffnhpmaaGreatDoor
section
open Go.RowKit
theorem tP (b1 b2:Nat) (w:World) :
 CallsD Tryz.prog 242 #[.pointer (some ⟨b1,0,none⟩),.pointer (some ⟨b2,0,none⟩)] .returning w fun e u' w'=>e=.returned (.tuple #[])/\u'=.returning/\w'=w:=by
 refine callsD_of_wpS Tryz.func242 rfl fun c₀ cs hu=>?_
 apply wpS_seq
 apply wpS_region
 simp [wpOpsS,go_sem,recoverD,hu,Tryz.ntmps242,Exit.thenS,Array.replicate]
 refine wpS_of_wp ?_
 go_wp2
 cases c₀
 simp_all [bodyPostS,results,Tryz.results242,go_sem]
structure wN (w w':World) (b1 b2:Nat):Prop where
 os:w'.os=w.os
 tape:w'.tape=w.tape
 output:w'.output=w.output
 size:w.heap.size<=w'.heap.size
 block:∀ i,i<w.heap.size->i≠b1->i≠b2->w'.heap[i]?=w.heap[i]?
theorem wN.of {w w1 w2 w3:World} {b1 b2:Nat} (h1:w.grownBy w1 (some b1)) (h2:w1.grownBy w2 (some b2)) (h3:Below w2.heap.size w2 w3):wN w w3 b1 b2:=
 ⟨h3.os.trans (h2.os.trans h1.os),h3.tape.trans (h2.tape.trans h1.tape),h3.output.trans (h2.output.trans h1.output),Nat.le_trans h1.size (Nat.le_trans h2.size h3.size),fun i hi n1 n2=>(h3.block i (lL hi (Nat.le_trans h1.size h2.size))).trans ((h2.block i (lL hi h1.size) (fun e=>n2 (sI e))).trans (h1.block i hi (fun e=>n1 (sI e))))⟩
theorem Az (a b:Int) (w:World):(Instr.typeAssert (.iface 284 (.agg #[.int .i64 a,.int .i64 b])) 20 284 false).run Tryz.prog w=.ok (.agg #[.int .i64 a,.int .i64 b]) w:=by
 simp [Instr.typeAssert,go_sem]
 try rfl
theorem vj (b1 b2:Nat) (z:Int) (pl why:Nat) (w:World) (h1:w.cell? ⟨b1,0,none⟩=some (.int .i64 z)) (h2:w.cell? ⟨b2,0,none⟩=some .nilIface) (f1:w.frozen? ⟨b1,0,none⟩=false) (f2:w.frozen? ⟨b2,0,none⟩=false) (hne:¬ b1=b2) (hl1:b1<w.heap.size) (hl2:b2<w.heap.size) :
 CallsD Tryz.prog 242 #[.pointer (some ⟨b1,0,none⟩),.pointer (some ⟨b2,0,none⟩)] (.panicking [{ v:=df pl why,recovered:=false }]) w fun e u' w'=>e=.returned (.tuple #[])/\u'=.panicking [{ v:=df pl why,recovered:=true }]/\w'.cell? ⟨b1,0,none⟩=some (.int .i64 pl)/\w'.cell? ⟨b2,0,none⟩=some (.iface 37 (.int .i64 why))/\wN w w' b1 b2:=by
 have hta:=Az
 refine callsD_of_wpS Tryz.func242 rfl fun c₀ cs hu=>?_
 apply wpS_seq
 apply wpS_region
 simp [wpOpsS,go_sem,recoverD,hu,Tryz.ntmps242,Exit.thenS,Array.replicate]
 refine wpS_of_wp ?_
 unfold df
 go_wp2
 go_region
 have g1:=aK w ⟨b1,0,none⟩ (.int .i64 pl)
 have g2:=aK (w.setCell ⟨b1,0,none⟩ (.int .i64 pl)) ⟨b2,0,none⟩ (.iface 37 (.int .i64 why))
 have g3:=(ae ((w.setCell ⟨b1,0,none⟩ (.int .i64 pl)).setCell ⟨b2,0,none⟩ (.iface 37 (.int .i64 why))) (.cells #[.int .i64 pl,.int .i64 why] 284)).drew
 have hex:=wN.of g1 g2 g3
 have c1:(((w.setCell ⟨b1,0,none⟩ (.int .i64 pl)).setCell ⟨b2,0,none⟩ (.iface 37 (.int .i64 why))).alloc (.cells #[.int .i64 pl,.int .i64 why] 284)).drew.cell? ⟨b1,0,none⟩=some (.int .i64 pl):=by go_simp
 have c2:(((w.setCell ⟨b1,0,none⟩ (.int .i64 pl)).setCell ⟨b2,0,none⟩ (.iface 37 (.int .i64 why))).alloc (.cells #[.int .i64 pl,.int .i64 why] 284)).drew.cell? ⟨b2,0,none⟩=some (.iface 37 (.int .i64 why)):=by go_simp
 generalize (((w.setCell ⟨b1,0,none⟩ (.int .i64 pl)).setCell ⟨b2,0,none⟩ (.iface 37 (.int .i64 why))).alloc (.cells #[.int .i64 pl,.int .i64 why] 284)).drew=W at *
 show bodyPostS _ _ _ _ _ _ _ _ _
 cases c₀
 simp_all [bodyPostS,results,Tryz.results242,go_sem]
structure lp (w w1:World):Prop where
 size:w.heap.size+2<=w1.heap.size
 one:w1.heap[w.heap.size]?=some (.cells #[.int .i64 0] 3 (0,0))
 two:w1.heap[w.heap.size+1]?=some (.cells #[.nilIface] 26 (0,0))
theorem aD.ofRow {w:World} {g t:Nat} {v:Value} (h:w.heap[g]?=some (.cells #[v] t (0,0))):aD w g t 1 [v]:=
 ⟨rfl,.inr ⟨g,1,#[v],rfl,lR,h,lR,by decide,rfl,rfl⟩⟩
theorem lp.own1 {w w1:World} (h:lp w w1):aD w1 w.heap.size 3 1 [.int .i64 0]:=aD.ofRow h.one
theorem lp.own2 {w w1:World} (h:lp w w1):aD w1 (w.heap.size+1) 26 1 [.nilIface]:=aD.ofRow h.two
theorem nV (fn:Nat) (cap:Array Value) (w:World) (Q:World->Prop) (hent:∀ (a:Array Value) (W:World),(callFunc fn a).run Tryz.prog W=.ok (.enter fn a) W)
 (hD:Calls Tryz.prog fn cap ((w.alloc (.cells #[.int .i64 0] 3)).alloc (.cells #[.nilIface] 26)) fun e w'=>e=.returned (.tuple #[])/\lp w w'/\Q w') :
 Calls Tryz.prog 208 #[.func (.func fn) #[] cap] w fun e w'=>e=.returned (.tuple #[.int .i64 0,.nilIface])/\∃ w1,Q w1/\wN w1 w' w.heap.size (w.heap.size+1):=by
 have hmf:=ff
 have HD:=jg hD
 go_enter_defers Tryz.func208,Tryz.ntmps208
 go_wp2_with fail
 refine HD.out.mono ?_
 rintro e w1 ⟨rfl,hk,hq⟩
 have hO1:=hk.own1
 have hO2:=hk.own2
 have c1:=hO1.c 0 rfl
 have c2:=hO2.c 0 rfl
 have f1:=hO1.soft 0
 have f2:=hO2.soft 0
 have hl1:w.heap.size<w1.heap.size:=by have:=hk.size;omega
 have HQ:=jg hq
 go_wp2_with fail
 have hex:wN w1 ((w1.setCell ⟨w.heap.size,0,none⟩ (.int .i64 0)).setCell ⟨w.heap.size+1,0,none⟩ .nilIface) w.heap.size (w.heap.size+1):=wN.of (aK _ _ _) (aK _ _ _) bR
 have d1:((w1.setCell ⟨w.heap.size,0,none⟩ (.int .i64 0)).setCell ⟨w.heap.size+1,0,none⟩ .nilIface).cell? ⟨w.heap.size,0,none⟩=some (.int .i64 0):=by go_simp
 have d2:((w1.setCell ⟨w.heap.size,0,none⟩ (.int .i64 0)).setCell ⟨w.heap.size+1,0,none⟩ .nilIface).cell? ⟨w.heap.size+1,0,none⟩=some .nilIface:=by go_simp
 generalize ((w1.setCell ⟨w.heap.size,0,none⟩ (.int .i64 0)).setCell ⟨w.heap.size+1,0,none⟩ .nilIface)=W at *
 refine leaves_cons (f:=242) (args:=#[.pointer (some ⟨w.heap.size,0,none⟩),.pointer (some ⟨w.heap.size+1,0,none⟩)]) (by simp) (by simp [go_sem]) ?_
 refine (tP w.heap.size (w.heap.size+1) W).mono ?_
 rintro e u' w'' ⟨rfl,rfl,rfl⟩
 simp [Leaves,settle,results,Tryz.results208,go_sem,d1,d2]
 exact ⟨w1,HQ.out,hex⟩
theorem mn (fn:Nat) (cap:Array Value) (w:World) (Q:World->Prop) (pl why:Nat) (hent:∀ (a:Array Value) (W:World),(callFunc fn a).run Tryz.prog W=.ok (.enter fn a) W)
 (hD:Calls Tryz.prog fn cap ((w.alloc (.cells #[.int .i64 0] 3)).alloc (.cells #[.nilIface] 26)) fun e w'=>e=.panicked [{ v:=df pl why,recovered:=false }]/\lp w w'/\Q w') :
 Calls Tryz.prog 208 #[.func (.func fn) #[] cap] w fun e w'=>e=.returned (.tuple #[.int .i64 pl,.iface 37 (.int .i64 why)])/\∃ w1,Q w1/\wN w1 w' w.heap.size (w.heap.size+1):=by
 have hmf:=ff
 have HD:=jg hD
 go_enter_defers Tryz.func208,Tryz.ntmps208
 go_wp2_with fail
 refine HD.out.mono ?_
 rintro e w1 ⟨rfl,hk,hq⟩
 have hO1:=hk.own1
 have hO2:=hk.own2
 have c1:=hO1.c 0 rfl
 have c2:=hO2.c 0 rfl
 refine leaves_cons (f:=242) (args:=#[.pointer (some ⟨w.heap.size,0,none⟩),.pointer (some ⟨w.heap.size+1,0,none⟩)]) (by simp) (by simp [go_sem]) ?_
 refine (vj w.heap.size (w.heap.size+1) 0 pl why w1 c1 c2 (hO1.soft 0) (hO2.soft 0) (by omega) hO1.lt hO2.lt).mono ?_
 rintro e u' w'' ⟨rfl,rfl,d1,d2,hex⟩
 simp [Leaves,settle,results,Tryz.results208,go_sem,d1,d2]
 exact ⟨w1,hq,hex⟩
def iy (l:List Int):List Value:=l.map (Value.int .i64 ·)
theorem cY (l:List Int):(iy l).length=l.length:=by simp [iy]
theorem fU (l:List Int) (i:Nat) (h:i<(iy l).length):(iy l)[i]=.int .i64 (l[i]'(by simpa [iy] using h)):=by simp [iy]
theorem cK.int {w:World} {B:Nat} {a:Option Addr} {n c:Nat} {l:List Int} (h:cK w B (.slice a n c) (iy l)) (i:Nat) (hi:i<l.length):∃ b,a=some ⟨b,0,none⟩/\w.cell? ⟨b,i,none⟩=some (.int .i64 l[i]):=by
 rcases h with ⟨h1,h2⟩ | ⟨b,c',h1,h2,h3,h4,h5⟩
 ·have:=congrArg List.length h2;rw [cY,List.length_nil] at this;omega
 ·cases h1
  refine ⟨b,rfl,?_⟩
  rw [h5 i (by rw [cY];exact hi),fU]
theorem cK.len {w:World} {B:Nat} {a:Option Addr} {n c:Nat} {vs:List Value} (h:cK w B (.slice a n c) vs):n=vs.length:=by
 rcases h with ⟨h1,h2⟩ | ⟨b,c',h1,h2,h3,h4,h5⟩
 ·cases h1;rw [h2];rfl
 ·cases h1;rfl
def eW (w:World) (r:Option Int) (e:Ending) (w':World):Prop:=Below w.heap.size w w'/\
 match r with
 | some k=>e=.returned (.tuple #[.int .i64 k,.bool true])
 | none=>e=.returned (.tuple #[.int .i64 0,.bool false])
theorem rx {tl ks:List Int} {m0 m:Int} {i:Nat} (ha:i<tl.length) (hk:i<ks.length) (h:eX tl ks m0=eX (tl.drop i) (ks.drop i) m) :
 eX tl ks m0=(eY tl[i] ks[i] m).bind (eX (tl.drop (i+1)) (ks.drop (i+1))):=by
 rw [h,List.drop_eq_getElem_cons ha,List.drop_eq_getElem_cons hk]
 rfl
theorem sG (o:List Int × Int) (f:Value) (hf:f=.nilFunc\/∃ n k,f=.func (.func n) #[] k) (ta:Option Addr) (tn tc:Nat) (ka:Option Addr) (kn kc:Nat) (ks:List Int) (B B':Nat) (w:World) (hT:cK w B (.slice ta tn tc) (iy o.1)) (hK:cK w B' (.slice ka kn kc) (iy ks)) (hm:ks.length<=maxLen) (hm2:o.1.length<=3) :
 Calls Tryz.prog 388 #[.agg #[.slice ta tn tc,.int .i64 o.2,f],.slice ka kn kc] w (eW w (lE o ks)):=by
 obtain rfl:tn=o.1.length:=by rw [hT.len,cY]
 obtain rfl:kn=ks.length:=by rw [hK.len,cY]
 have HT:=jg hT
 have HK:=jg hK
 have hm':ks.length<=9223372036854775807:=hm
 by_cases hl:ks.length=o.1.length
 ·have hli:((ks.length:Int)==(o.1.length:Int))=true:=by rw [hl];simp
  have hli2:((ks.length:Int) != (o.1.length:Int))=false:=by rw [bne,hli];rfl
  have HL:=jg hl
  rcases hf with rfl | ⟨fn,fk,rfl⟩
  ·go_in
   go_wp2
   have HT2:Hid (cK (w.alloc (.cells #[.slice ta o.1.length tc,.int .i64 o.2,.nilFunc] 291)) B (.slice ta o.1.length tc) (iy o.1)):=HT.out.later (ae _ _)
   have HK2:Hid (cK (w.alloc (.cells #[.slice ta o.1.length tc,.int .i64 o.2,.nilFunc] 291)) B' (.slice ka ks.length kc) (iy ks)):=HK.out.later (ae _ _)
   have r0:(w.alloc (.cells #[.slice ta o.1.length tc,.int .i64 o.2,.nilFunc] 291)).cell? ⟨w.heap.size,0,none⟩=some (.slice ta o.1.length tc):=by go_simp
   have r1:(w.alloc (.cells #[.slice ta o.1.length tc,.int .i64 o.2,.nilFunc] 291)).cell? ⟨w.heap.size,1,none⟩=some (.int .i64 o.2):=by go_simp
   have HB:Hid (Below w.heap.size w (w.alloc (.cells #[.slice ta o.1.length tc,.int .i64 o.2,.nilFunc] 291))):=ae _ _
   generalize (w.alloc (.cells #[.slice ta o.1.length tc,.int .i64 o.2,.nilFunc] 291))=V0 at *
   go_loopw [6,18] (fun m i w'=>∃ (j:Nat) (M:Int),j<=ks.length/\i=.int .i64 j/\m=.int .i64 M/\w'=V0/\eX o.1 ks 0=eX (o.1.drop j) (ks.drop j) M) (fun _ i _=>ks.length-(intOf i).toNat)
   case atStart=>exact ⟨0,0,Nat.zero_le _,rfl,rfl,rfl,by simp⟩
   case round=>
    obtain ⟨j,M,hj,rfl,rfl,hw,hkl⟩:=hrel
    subst hw
    have HKL:=jg hkl
    by_cases hlt:j<ks.length
    ·have hji:(j:Int)<(ks.length:Int):=by omega
     have hlt2:j<o.1.length:=by rw [<-HL.out];exact hlt
     have hji2:(j:Int)<(o.1.length:Int):=by omega
     obtain ⟨b1,ea,d1⟩:=HT2.out.int j hlt2
     obtain ⟨b2,eb,d2⟩:=HK2.out.int j hlt
     have HON:=jg (rx hlt2 hlt HKL.out)
     generalize o.1[j]=A at *
     generalize ks[j]=K at *
     have BAD:Hid (eY A K M=none->eW w (lE o ks) (.returned (.tuple #[.int .i64 0,.bool false])) wr):=fun h=>by
      unfold eW lE
      rw [if_pos HL.out,HON.out,h]
      exact ⟨HB.out,rfl⟩
     have GOOD:Hid (∀ M',eY A K M=some M'->eX o.1 ks 0=eX (o.1.drop (j+1)) (ks.drop (j+1)) M'):=fun M' h=>by rw [HON.out,h];rfl
     subst ea
     subst eb
     by_cases hA:A=0
     ·have a1:(A==0)=true:=by rw [hA];rfl
      by_cases hM:M=0
      ·have m1:(M==0)=true:=by rw [hM];rfl
       have FG:=jg (GOOD.out K (by unfold eY;simp [hA,hM]))
       have kk:(K==K)=true:=by simp
       have kn:(K != K)=false:=by simp
       go_wp2_with fail
       exact ⟨⟨j+1,K,by omega,by go_num,rfl,trivial,FG.out⟩,by simp [intOf];omega⟩
      ·have m1:(M==0)=false:=by rw [beq_eq_false_iff_ne];exact hM
       by_cases hK:K=M
       ·have kn:(K != M)=false:=by rw [hK];simp
        have FG:=jg (GOOD.out M (by unfold eY;simp [hA,hM,hK]))
        have kn2:(K==M)=true:=by rw [hK];simp
        go_wp2_with fail
        exact ⟨⟨j+1,M,by omega,by go_num,rfl,trivial,FG.out⟩,by simp [intOf];omega⟩
       ·have kn:(K != M)=true:=by rw [bne_iff_ne];exact hK
        have kn2:(K==M)=false:=by rw [beq_eq_false_iff_ne];exact hK
        have FB:=jg (BAD.out (by unfold eY;simp [hA,hM,hK]))
        go_wp2_with fail
        go_ret2
        exact FB.out
     ·have a1:(A==0)=false:=by rw [beq_eq_false_iff_ne];exact hA
      by_cases hK:K=A
      ·have kn:(K != A)=false:=by rw [hK];simp
       have kn2:(K==A)=true:=by rw [hK];simp
       have FG:=jg (GOOD.out M (by unfold eY;simp [hA,hK]))
       go_wp2_with fail
       exact ⟨⟨j+1,M,by omega,by go_num,rfl,trivial,FG.out⟩,by simp [intOf];omega⟩
      ·have kn:(K != A)=true:=by rw [bne_iff_ne];exact hK
       have kn2:(K==A)=false:=by rw [beq_eq_false_iff_ne];exact hK
       have FB:=jg (BAD.out (by unfold eY;simp [hA,hK]))
       go_wp2_with fail
       go_ret2
       exact FB.out
    ·obtain rfl:j=ks.length:=by omega
     have FIN:Hid (eW w (lE o ks) (.returned (.tuple #[.int .i64 (if o.2=0 then M else o.2),.bool true])) wr):=by
      have h1:eX o.1 ks 0=some M:=by
       rw [HKL.out,List.drop_eq_nil_of_le lR]
       cases o.1.drop ks.length<;>rfl
      unfold Hid eW lE
      rw [if_pos HL.out,h1]
      exact ⟨HB.out,rfl⟩
     by_cases hg:o.2=0
     ·rw [if_pos hg] at FIN
      have g1:(o.2==0)=true:=by rw [hg];rfl
      go_wp2_with fail
      go_ret2
      exact FIN.out
     ·rw [if_neg hg] at FIN
      have g1:(o.2==0)=false:=by rw [beq_eq_false_iff_ne];exact hg
      go_wp2_with fail
      go_ret2
      exact FIN.out
  ·go_in
   go_wp2
   have HT2:Hid (cK (w.alloc (.cells #[.slice ta o.1.length tc,.int .i64 o.2,.func (.func fn) #[] fk] 291)) B (.slice ta o.1.length tc) (iy o.1)):=HT.out.later (ae _ _)
   have HK2:Hid (cK (w.alloc (.cells #[.slice ta o.1.length tc,.int .i64 o.2,.func (.func fn) #[] fk] 291)) B' (.slice ka ks.length kc) (iy ks)):=HK.out.later (ae _ _)
   have r0:(w.alloc (.cells #[.slice ta o.1.length tc,.int .i64 o.2,.func (.func fn) #[] fk] 291)).cell? ⟨w.heap.size,0,none⟩=some (.slice ta o.1.length tc):=by go_simp
   have r1:(w.alloc (.cells #[.slice ta o.1.length tc,.int .i64 o.2,.func (.func fn) #[] fk] 291)).cell? ⟨w.heap.size,1,none⟩=some (.int .i64 o.2):=by go_simp
   have HB:Hid (Below w.heap.size w (w.alloc (.cells #[.slice ta o.1.length tc,.int .i64 o.2,.func (.func fn) #[] fk] 291))):=ae _ _
   generalize (w.alloc (.cells #[.slice ta o.1.length tc,.int .i64 o.2,.func (.func fn) #[] fk] 291))=V0 at *
   go_loopw [6,18] (fun m i w'=>∃ (j:Nat) (M:Int),j<=ks.length/\i=.int .i64 j/\m=.int .i64 M/\w'=V0/\eX o.1 ks 0=eX (o.1.drop j) (ks.drop j) M) (fun _ i _=>ks.length-(intOf i).toNat)
   case atStart=>exact ⟨0,0,Nat.zero_le _,rfl,rfl,rfl,by simp⟩
   case round=>
    obtain ⟨j,M,hj,rfl,rfl,hw,hkl⟩:=hrel
    subst hw
    have HKL:=jg hkl
    by_cases hlt:j<ks.length
    ·have hji:(j:Int)<(ks.length:Int):=by omega
     have hlt2:j<o.1.length:=by rw [<-HL.out];exact hlt
     have hji2:(j:Int)<(o.1.length:Int):=by omega
     obtain ⟨b1,ea,d1⟩:=HT2.out.int j hlt2
     obtain ⟨b2,eb,d2⟩:=HK2.out.int j hlt
     have HON:=jg (rx hlt2 hlt HKL.out)
     generalize o.1[j]=A at *
     generalize ks[j]=K at *
     have BAD:Hid (eY A K M=none->eW w (lE o ks) (.returned (.tuple #[.int .i64 0,.bool false])) wr):=fun h=>by
      unfold eW lE
      rw [if_pos HL.out,HON.out,h]
      exact ⟨HB.out,rfl⟩
     have GOOD:Hid (∀ M',eY A K M=some M'->eX o.1 ks 0=eX (o.1.drop (j+1)) (ks.drop (j+1)) M'):=fun M' h=>by rw [HON.out,h];rfl
     subst ea
     subst eb
     by_cases hA:A=0
     ·have a1:(A==0)=true:=by rw [hA];rfl
      by_cases hM:M=0
      ·have m1:(M==0)=true:=by rw [hM];rfl
       have FG:=jg (GOOD.out K (by unfold eY;simp [hA,hM]))
       have kk:(K==K)=true:=by simp
       have kn:(K != K)=false:=by simp
       go_wp2_with fail
       exact ⟨⟨j+1,K,by omega,by go_num,rfl,trivial,FG.out⟩,by simp [intOf];omega⟩
      ·have m1:(M==0)=false:=by rw [beq_eq_false_iff_ne];exact hM
       by_cases hK:K=M
       ·have kn:(K != M)=false:=by rw [hK];simp
        have FG:=jg (GOOD.out M (by unfold eY;simp [hA,hM,hK]))
        have kn2:(K==M)=true:=by rw [hK];simp
        go_wp2_with fail
        exact ⟨⟨j+1,M,by omega,by go_num,rfl,trivial,FG.out⟩,by simp [intOf];omega⟩
       ·have kn:(K != M)=true:=by rw [bne_iff_ne];exact hK
        have kn2:(K==M)=false:=by rw [beq_eq_false_iff_ne];exact hK
        have FB:=jg (BAD.out (by unfold eY;simp [hA,hM,hK]))
        go_wp2_with fail
        go_ret2
        exact FB.out
     ·have a1:(A==0)=false:=by rw [beq_eq_false_iff_ne];exact hA
      by_cases hK:K=A
      ·have kn:(K != A)=false:=by rw [hK];simp
       have kn2:(K==A)=true:=by rw [hK];simp
       have FG:=jg (GOOD.out M (by unfold eY;simp [hA,hK]))
       go_wp2_with fail
       exact ⟨⟨j+1,M,by omega,by go_num,rfl,trivial,FG.out⟩,by simp [intOf];omega⟩
      ·have kn:(K != A)=true:=by rw [bne_iff_ne];exact hK
       have kn2:(K==A)=false:=by rw [beq_eq_false_iff_ne];exact hK
       have FB:=jg (BAD.out (by unfold eY;simp [hA,hK]))
       go_wp2_with fail
       go_ret2
       exact FB.out
    ·obtain rfl:j=ks.length:=by omega
     have FIN:Hid (eW w (lE o ks) (.returned (.tuple #[.int .i64 (if o.2=0 then M else o.2),.bool true])) wr):=by
      have h1:eX o.1 ks 0=some M:=by
       rw [HKL.out,List.drop_eq_nil_of_le lR]
       cases o.1.drop ks.length<;>rfl
      unfold Hid eW lE
      rw [if_pos HL.out,h1]
      exact ⟨HB.out,rfl⟩
     by_cases hg:o.2=0
     ·rw [if_pos hg] at FIN
      have g1:(o.2==0)=true:=by rw [hg];rfl
      go_wp2_with fail
      go_ret2
      exact FIN.out
     ·rw [if_neg hg] at FIN
      have g1:(o.2==0)=false:=by rw [beq_eq_false_iff_ne];exact hg
      go_wp2_with fail
      go_ret2
      exact FIN.out
 ·have hli:((ks.length:Int)==(o.1.length:Int))=false:=by rw [beq_eq_false_iff_ne];omega
  have hli2:((ks.length:Int) != (o.1.length:Int))=true:=by rw [bne,hli];rfl
  have FIN:Hid (∀ w',Below w.heap.size w w'->eW w (lE o ks) (.returned (.tuple #[.int .i64 0,.bool false])) w'):=fun w' hb=>by
   unfold eW lE
   rw [if_neg hl]
   exact ⟨hb,rfl⟩
  rcases hf with rfl | ⟨fn,fk,rfl⟩
  all_goals
   go_in
   go_wp2
   go_ret2
   exact FIN.out _ (ae _ _)
def ej (w:World) (r:Except jK Int) (e:Ending) (w':World):Prop:=Below w.heap.size w w'/\
 match r with
 | .ok k=>e=.returned (.int .i64 k)
 | .error f=>e=px f.pl f.why
theorem yT (c:List Co) (k n:Int) (t:ByteArray) (x:Value) (w:World) :
 Calls Tryz.prog 384 #[.agg #[.int .i64 k,.int .i64 n,.string t],x] w (ej w (bY c (.lit k n t))):=by
 rw [bY]
 unfold ej
 go_in
 go_wp2_with fail
 go_ret
 exact ⟨by repeat (first | exact ae _ _ | exact bR),rfl⟩
theorem xK (c:List Co) (pl:Nat) (nm:ByteArray) (a:Option Addr) (cc:Nat) (w:World) (hc:ap w a c) (hm:c.length<=maxLen) :
 Calls Tryz.prog 386 #[.agg #[.int .i64 pl,.string nm],.slice a c.length cc] w (ej w (bY c (.col pl nm))):=by
 have HP:Hid (∀ W,Below w.heap.size w W->Calls Tryz.prog 188 #[.slice a c.length cc,.string nm] W fun e w'=>e=.returned (.int .i64 (lN (ch c nm)))/\Below W.heap.size W w'):=fun W hW=>dC nm a cc c W (hc.later hW) hm
 have HC:=jg hc
 have hm':c.length<=9223372036854775807:=hm
 have hmf:=ff
 have r0:∀ W,Below w.heap.size w W->True:=fun _ _=>trivial
 cases hx:ch c nm with
 | none=>
  have FIN:Hid (∀ W,Below w.heap.size w W->ej w (bY c (.col pl nm)) (.panicked [{ v:=df pl 2,recovered:=false }]) W):=fun W hW=>by
   rw [bY,hx]
   simp
   exact ⟨hW,rfl⟩
  rw [hx] at HP
  have hix:lN none=-1:=rfl
  rw [hix] at HP
  go_in
  go_wp2_with fail
  refine (HP.out _ (ae _ _)).mono ?_
  rintro e w2 ⟨rfl,hb2⟩
  have q0:=af (a:=⟨w.heap.size,0,none⟩) (v:=.int .i64 pl) hb2 (by go_simp)
  have HB:=jg ((ae w _).trans (hb2.mono (by simp)))
  have F2:=FIN.out w2 HB.out
  have F3:=jg F2
  go_wp2_with fail
  exact ⟨rfl,F3.out⟩
 | some j=>
  have hj:j<c.length:=by
   unfold ch at hx
   rw [List.findIdx?_eq_some_iff_getElem] at hx
   exact hx.1
  have hji:(j:Int)<(c.length:Int):=by omega
  have FIN:Hid (∀ W,Below w.heap.size w W->ej w (bY c (.col pl nm)) (.returned (.int .i64 c[j].k)) W):=fun W hW=>by
   rw [bY,hx]
   simp [hj]
   exact ⟨hW,rfl⟩
  rw [hx] at HP
  have hix:lN (some j)=(j:Int):=rfl
  rw [hix] at HP
  obtain ⟨b,off,rfl,h1,h2⟩:=HC.out j hj
  generalize c[j].k=Kj at *
  generalize c[j].nm=Nj at *
  go_in
  go_wp2_with fail
  refine (HP.out _ (ae _ _)).mono ?_
  rintro e w2 ⟨rfl,hb2⟩
  have HB:=jg ((ae w _).trans (hb2.mono (by simp)))
  have q1:=af HB.out h1
  have q2:=af HB.out h2
  have F3:=jg (FIN.out w2 HB.out)
  go_wp2_with fail
  go_ret
  exact F3.out
theorem xD:(Tryz.prog.info? 93).map (fun i=>(i.zero,i.size,i.bytes))=some (some (.int .i64 0),1,8):=by kernel_rfl
def KD (w : World) (v cv : Value) (r : Except jK Int) : Prop := ∃ t p fn rc, v = .iface t p ∧ (∀ W, (method 498 t p "streamwright/expr.kindOver").run Tryz.prog W = .ok (fn, rc) W) ∧ (∀ W, (nilAhead 498 t p "streamwright/expr.kindOver").run Tryz.prog W = .ok (some false) W) ∧ (∀ (a : Array Value) (W : World), (callFunc fn a).run Tryz.prog W = .ok (.enter fn a) W) ∧ ∀ W, Below w.heap.size w W → Calls Tryz.prog fn #[rc, cv] W (ej W r)
def fO:List (Except jK Int)->Except jK (List Int)
 | []=>.ok []
 | r::rs=>r.bind fun k=>(fO rs).bind fun ks=>.ok (k::ks)
theorem t6:∀ (rs:List (Except jK Int)) (ks:List Int),(∀ i (h:i<rs.length),∃ h':i<ks.length,rs[i]=.ok ks[i])->rs.length=ks.length->fO rs=.ok ks
 | [],[],_,_=>rfl
 | r::rs,k::ks,h,hl=>by
  obtain ⟨h1,h2⟩:=h 0 (by simp)
  have h2':r=.ok k:=h2
  rw [fO,h2',t6 rs ks (fun i hi=>by
   obtain ⟨h3,h4⟩:=h (i+1) (by simpa using hi)
   exact ⟨by simpa using h3,by simpa using h4⟩) (by simpa using hl)]
  rfl
theorem qD:∀ (rs:List (Except jK Int)) (ks:List Int) (f:jK),(∀ i (h:i<ks.length),∃ h':i<rs.length,rs[i]=.ok ks[i])->(∃ h:ks.length<rs.length,rs[ks.length]=.error f)->fO rs=.error f
 | r::rs,[],f,_,⟨h,h2⟩=>by
  have h2':r=.error f:=h2
  rw [fO,h2'];rfl
 | r::rs,k::ks,f,h,⟨h5,h6⟩=>by
  obtain ⟨h1,h2⟩:=h 0 (by simp)
  have h2':r=.ok k:=h2
  rw [fO,h2',show (Except.bind (Except.ok k) fun k=>(fO rs).bind fun ks=>Except.ok (k::ks):Except jK (List Int))=(fO rs).bind fun ks=>.ok (k::ks) from rfl,qD rs ks f (fun i hi=>by
   obtain ⟨h3,h4⟩:=h (i+1) (by simpa using hi)
   exact ⟨by simpa using h3,by simpa using h4⟩) ⟨by simpa using h5,by simpa using h6⟩]
  rfl
theorem EB (z:Value) (n:Nat):(madeCells #[z] n).toList=List.replicate n z:=by
 unfold madeCells
 refine List.ext_getElem (by simp) (fun i h1 h2=>?_)
 simp [Nat.mod_one]
theorem l7 (pl:Nat) (o:List Int × Int) (fn:Nat) (fk:Array Value) (ta:Option Addr) (tn tc:Nat) (pa:Option Addr) (pn pc:Nat) (us:List Value) (cv:Value) (B:Nat) (w:World) (hT:cK w B (.slice ta tn tc) (iy o.1)) (hP:cK w B (.slice pa pn pc) us) (hm:us.length<=200) (hm2:o.1.length<=3) (rs:List (Except jK Int)) (hl:rs.length=us.length)
 (hk:∀ i (h:i<us.length),KD w us[i] cv (rs[i]'(by rw [hl];exact h))) :
 Calls Tryz.prog 389 #[.agg #[.int .i64 pl,.slice ta tn tc,.int .i64 o.2,.func (.func fn) #[] fk,.slice pa pn pc],cv] w (ej w ((fO rs).bind fun ks=>iR pl (lE o ks))):=by
 obtain rfl:pn=us.length:=hP.len
 obtain ⟨i0,hi0,hz0,hz1,hz2⟩:=info_parts xD
 have HP:=jg hP
 have hmk:∀ W:World,(Instr.makeSlice 266 (.int .i64 (us.length:Int)) (.int .i64 (us.length:Int))).run Tryz.prog W=.ok (.slice (some ⟨W.heap.size,0,none⟩) us.length us.length) (W.alloc (.cells (madeCells #[.int .i64 0] us.length) 93)):=fun W=>by
  have:=run_make (P:=Tryz.prog) W 266 93 i0 (.int .i64 0) Tryz.underlying266 hi0 hz0 .i64 .i64 (us.length:Int) (us.length:Int) (by omega) (by omega) (by rw [hz2];omega) (by omega)
  rw [this,hz1,Nat.mul_one]
  rw [Int.toNat_natCast]
  rfl
 have hm':=hm
 have HT:=jg hT
 have HKD:Hid (∀ i (h:i<us.length) (h':i<rs.length),KD w us[i] cv rs[i]):=fun i h _=>hk i h
 have HL:=jg hl
 have HO0:Hid (aD ((w.alloc (.cells #[.int .i64 pl,.slice ta tn tc,.int .i64 o.2,.func (.func fn) #[] fk,.slice pa us.length pc] 294)).alloc (.cells (madeCells #[.int .i64 0] us.length) 93)) (w.heap.size+1) 93 us.length (List.replicate us.length (.int .i64 0))):=by
  have:=aD.new (w.alloc (.cells #[.int .i64 pl,.slice ta tn tc,.int .i64 o.2,.func (.func fn) #[] fk,.slice pa us.length pc] 294)) 93 us.length (madeCells #[.int .i64 0] us.length) (by simp [madeCells])
  rw [EB,show (w.alloc (.cells #[.int .i64 pl,.slice ta tn tc,.int .i64 o.2,.func (.func fn) #[] fk,.slice pa us.length pc] 294)).heap.size=w.heap.size+1 from by simp] at this
  exact this
 have HO1:Hid (aD ((w.alloc (.cells #[.int .i64 pl,.slice ta tn tc,.int .i64 o.2,.func (.func fn) #[] fk,.slice pa us.length pc] 294)).alloc (.cells (madeCells #[.int .i64 0] us.length) 93)) w.heap.size 294 5 [.int .i64 pl,.slice ta tn tc,.int .i64 o.2,.func (.func fn) #[] fk,.slice pa us.length pc]):=
  (aD.new w 294 5 #[.int .i64 pl,.slice ta tn tc,.int .i64 o.2,.func (.func fn) #[] fk,.slice pa us.length pc] rfl).later (ae _ _)
 have HB0:Hid (Below w.heap.size w ((w.alloc (.cells #[.int .i64 pl,.slice ta tn tc,.int .i64 o.2,.func (.func fn) #[] fk,.slice pa us.length pc] 294)).alloc (.cells (madeCells #[.int .i64 0] us.length) 93))):=(ae w _).alloc (by simp) _
 go_in
 go_wp2_with fail
 generalize ((w.alloc (.cells #[.int .i64 pl,.slice ta tn tc,.int .i64 o.2,.func (.func fn) #[] fk,.slice pa us.length pc] 294)).alloc (.cells (madeCells #[.int .i64 0] us.length) 93))=V0 at *
 go_loopw [17] (fun i w'=>∃ (ks:List Int),ks.length<=us.length/\i=.int .i64 (ks.length:Nat)/\aD w' (w.heap.size+1) 93 us.length (iy ks++List.replicate (us.length-ks.length) (.int .i64 0))/\aD w' w.heap.size 294 5 [.int .i64 pl,.slice ta tn tc,.int .i64 o.2,.func (.func fn) #[] fk,.slice pa us.length pc]/\Below w.heap.size w w'/\(∀ i (h:i<ks.length),∃ h':i<rs.length,rs[i]=.ok ks[i])) (fun i _=>us.length-(intOf i).toNat)
 case atStart=>exact ⟨[],Nat.zero_le _,rfl,by simpa [iy] using HO0.out,HO1.out,HB0.out,fun i h=>absurd h (by simp)⟩
 case round=>
  obtain ⟨ks,hk,rfl,hO,hS,hB,hR⟩:=hrel
  have HO:=jg hO
  have HS:=jg hS
  have HB:=jg hB
  have HR:=jg hR
  by_cases hlt:ks.length<us.length
  ·have hki:(ks.length:Int)<(us.length:Int):=by omega
   obtain ⟨t,p,g1,rc,hu,hme,hna,hent,hca⟩:=HKD.out ks.length hlt (by rw [HL.out];exact hlt)
   have hcell:∃ b,pa=some ⟨b,0,none⟩/\wr.cell? ⟨b,ks.length,none⟩=some (.iface t p):=by
    rcases HP.out with ⟨h1,h2⟩ | ⟨b,c',h1,h2,h3,h4,h5⟩
    ·rw [h2] at hlt;exact absurd hlt (by simp)
    ·cases h1
     exact ⟨b,rfl,by rw [<-hu];exact af HB.out (h5 _ hlt)⟩
   obtain ⟨b,rfl,hc1⟩:=hcell
   have HCA:=jg hca
   go_wp2_with fail
   have hrl:ks.length<rs.length:=by rw [HL.out];exact hlt
   cases hres:rs[ks.length] with
   | error f=>
    have HC:Hid (∀ W,Below w.heap.size w W->Calls Tryz.prog g1 #[rc,cv] W fun e w'=>Below W.heap.size W w'/\e=.panicked [{ v:=df f.pl f.why,recovered:=false }]):=fun W hW=>by
     refine (HCA.out W hW).mono ?_
     rintro e w' h
     rw [hres] at h
     exact h
    have FIN:Hid (∀ w',Below w.heap.size w w'->ej w ((fO rs).bind fun ks=>iR pl (lE o ks)) (.panicked [{ v:=df f.pl f.why,recovered:=false }]) w'):=fun w' h=>by
     rw [qD rs ks f HR.out ⟨hrl,hres⟩]
     exact ⟨h,rfl⟩
    refine (HC.out _ HB.out).mono ?_
    rintro e w2 ⟨hb2,rfl⟩
    exact ⟨rfl,FIN.out w2 (HB.out.trans (hb2.mono HB.out.size))⟩
   | ok k=>
    have HC:Hid (∀ W,Below w.heap.size w W->Calls Tryz.prog g1 #[rc,cv] W fun e w'=>Below W.heap.size W w'/\e=.returned (.int .i64 k)):=fun W hW=>by
     refine (HCA.out W hW).mono ?_
     rintro e w' h
     rw [hres] at h
     exact h
    have HRS:=jg hres
    refine (HC.out _ HB.out).mono ?_
    rintro e w2 ⟨hb2,rfl⟩
    have HO2:=jg (HO.out.later hb2)
    have HS2:=jg (HS.out.later hb2)
    have HB2:=jg (HB.out.trans (hb2.mono HB.out.size))
    have qc:w2.cell? ⟨w.heap.size+1,ks.length,none⟩=some (.int .i64 0):=by
     rw [HO2.out.cell _ hlt,List.getElem?_append_right (by rw [cY];exact lR),cY,List.getElem?_replicate]
     simp;omega
    have qf:w2.frozen? ⟨w.heap.size+1,ks.length,none⟩=false:=HO2.out.soft _
    go_wp2_with fail
    refine ⟨⟨ks++[k],by first | (simp;done) | (simp;omega),by first | rfl | (simp;done) | (simp;omega),?_,?_,?_,?_⟩,by simp [intOf];omega⟩
    ·have:=(HO2.out.put ks.length (.int .i64 k)).1
     rw [List.set_append_right _ _ (by rw [cY];exact lR),cY,Nat.sub_self,show us.length-ks.length=(us.length-(ks.length+1))+1 from by omega,List.replicate_succ,List.set_cons_zero] at this
     simpa [iy] using this
    ·exact HS2.out.grown (HO2.out.put ks.length (.int .i64 k)).2 (by simp)
    ·exact eE HB2.out (HO2.out.put ks.length (.int .i64 k)).2 (fun n hn=>by cases hn;omega)
    ·intro i hi
     rw [List.length_append,List.length_singleton] at hi
     rcases Nat.lt_or_ge i ks.length with h | h
     ·obtain ⟨h1,h2⟩:=HR.out i h
      exact ⟨h1,by rw [h2,List.getElem_append_left h]⟩
     ·have:i=ks.length:=by omega
      subst this
      exact ⟨hrl,by rw [HRS.out];simp⟩
  ·have hke:ks.length=us.length:=by omega
   have hnl:¬ (ks.length:Int)<(us.length:Int):=by omega
   have hks:fO rs=.ok ks:=t6 rs ks (fun i hi=>by
    have hi':i<ks.length:=by rw [hke,<-HL.out];exact hi
    obtain ⟨h1,h2⟩:=HR.out i hi'
    exact ⟨hi',h2⟩) (by rw [HL.out,hke])
   have qa0:wr.cell? ⟨w.heap.size,0,none⟩=some (.int .i64 pl):=HS.out.cell 0 (by decide)
   have qa1:wr.cell? ⟨w.heap.size,1,none⟩=some (.slice ta tn tc):=HS.out.cell 1 (by decide)
   have qa2:wr.cell? ⟨w.heap.size,2,none⟩=some (.int .i64 o.2):=HS.out.cell 2 (by decide)
   have qa3:wr.cell? ⟨w.heap.size,3,none⟩=some (.func (.func fn) #[] fk):=HS.out.cell 3 (by decide)
   have qa4:wr.cell? ⟨w.heap.size,4,none⟩=some (.slice pa us.length pc):=HS.out.cell 4 (by decide)
   have HLK:Hid (cK wr w.heap.size (.slice (some ⟨w.heap.size+1,0,none⟩) us.length us.length) (iy ks)):=by
    refine .inr ⟨w.heap.size+1,us.length,by rw [cY,hke],by omega,by rw [cY,hke];exact lR,by unfold maxLen;omega,fun i hi=>?_⟩
    rw [cY] at hi
    rw [HO.out.cell i (by omega),List.getElem?_append_left (by rw [cY];exact hi),List.getElem?_eq_getElem]
   have HKO:Hid (∀ W,Below wr.heap.size wr W->Calls Tryz.prog 388 #[.agg #[.slice ta tn tc,.int .i64 o.2,.func (.func fn) #[] fk],.slice (some ⟨w.heap.size+1,0,none⟩) us.length us.length] W (eW W (lE o ks))):=fun W hW=>
    sG o _ (.inr ⟨fn,fk,rfl⟩) ta tn tc _ _ _ ks B w.heap.size W ((HT.out.later HB.out).later hW) (HLK.out.later hW) (by unfold maxLen;omega) hm2
   have hlt':=HS.out.lt
   have FIN:Hid (∀ e w',Below w.heap.size w w'->(match iR pl (lE o ks) with | .ok k=>e=.returned (.int .i64 k) | .error f=>e=px f.pl f.why)->ej w ((fO rs).bind fun ks=>iR pl (lE o ks)) e w'):=fun e w' h1 h2=>by
    rw [hks]
    exact ⟨h1,h2⟩
   go_wp2_with fail
   refine (HKO.out _ bR).mono ?_
   rintro e w2 ⟨hb2,h2⟩
   have qb0:=af hb2 qa0
   have HB2:=jg (HB.out.trans (hb2.mono HB.out.size))
   cases hko:lE o ks with
   | none=>
    rw [hko] at h2 FIN
    subst h2
    have F3:=FIN.out (.panicked [{ v:=df pl 3,recovered:=false }]) w2 HB2.out rfl
    have F4:=jg F3
    go_wp2_with fail
    exact ⟨rfl,F4.out⟩
   | some k=>
    rw [hko] at h2 FIN
    subst h2
    have F3:=FIN.out (.returned (.int .i64 k)) w2 HB2.out rfl
    have F4:=jg F3
    go_wp2_with fail
    go_ret
    exact F4.out
end
section
mutual
def jh:X->Nat
 | .lit _ _ _=>1
 | .col _ _=>1
 | .pre _ _ x=>1+jh x
 | .inf _ _ l r=>1+jh l+jh r
 | .app _ _ l=>1+gb l
def gb:List X->Nat
 | []=>0
 | x::l=>jh x+gb l
end
theorem tZ (x:X):0<jh x:=by cases x<;>rw [jh]<;>omega
theorem mb:∀ l,l.length<=gb l
 | []=>by simp
 | x::l=>by have:=mb l;have:=tZ x;rw [gb,List.length_cons];omega
theorem lm:∀ l l',gb (l++l')=gb l+gb l'
 | [],l'=>by rw [List.nil_append,gb,Nat.zero_add]
 | x::l,l'=>by rw [List.cons_append,gb,gb,lm l l',Nat.add_assoc]
def rZ:Mode->Nat
 | .J _ l=>jh l
 | .A _ _ l=>1+gb l
 | .Z _ _=>1
 | .D _=>0
theorem Ps.size {L:ByteArray->Int->Int->ByteArray->Prop} {E:Nat} {m:Mode} {lev:Nat} {ts:List Tk} {o:PR} (h:Ps L E m lev ts o) :
 ∀ x ts',o=.ok (x,ts')->jh x+ts'.length<=rZ m+ts.length:=by
 induction h with
 | jend h=>intro x ts' e;cases e;exact lR
 | jok _ _ _ ih1 ih2=>
  intro x ts' e
  have h1:=ih1 _ _ rfl
  have h2:=ih2 _ _ e
  simp only [rZ] at *
  omega
 | jstep _ _ _ ih1 ih2=>
  intro x ts' e
  have h1:=ih1 _ _ rfl
  have h2:=ih2 _ _ e
  simp only [rZ,jh,List.length_cons] at *
  omega
 | pok _ _ _ _ ih1=>
  intro x ts' e
  cases e
  have h1:=ih1 _ _ rfl
  simp only [rZ,jh,List.length_cons] at *
  omega
 | pnone _ _ _ ih1=>
  intro x ts' e
  have h1:=ih1 _ _ e
  simp only [rZ] at *
  omega
 | cnone _ _ ih1=>
  intro x ts' e
  cases e
  have h1:=ih1 _ _ rfl
  simp only [rZ] at *
  omega
 | cok _ _ _ ih1 ih2=>
  intro x ts' e
  cases e
  have h1:=ih1 _ _ rfl
  have h2:=ih2 _ _ rfl
  simp only [rZ,jh,List.length_cons] at *
  omega
 | lit _ _=>intro x ts' e;cases e;simp only [rZ,jh,List.length_cons];omega
 | ook _ _ _ _ _ ih1=>
  intro x ts' e
  cases e
  have h1:=ih1 _ _ rfl
  simp only [rZ,jh,List.length_cons] at *
  omega
 | ncol _ _ _ _ _ _=>intro x ts' e;cases e;simp only [rZ,jh,List.length_cons];omega
 | nargs _ _ _ _ _ _ _ _ ih1=>
  intro x ts' e
  have h1:=ih1 _ _ e
  simp only [rZ,jh,List.length_cons] at *
  omega
 | zend _=>intro x ts' e;cases e;simp only [rZ,jh,gb,List.length_cons];omega
 | zok _ _ _ ih1 ih2=>
  intro x ts' e
  have h1:=ih1 _ _ rfl
  have h2:=ih2 _ _ e
  simp only [rZ,jh,gb,List.length_cons] at *
  omega
 | aok _ _ _ ih1 ih2=>
  intro x ts' e
  have h1:=ih1 _ _ rfl
  have h2:=ih2 _ _ e
  simp only [rZ,jh,gb,lm,List.length_cons] at *
  omega
 | aend _=>intro x ts' e;cases e;simp only [rZ,jh,gb,List.length_cons];omega
 | _=>intro x ts' e;cases e
end
section
open Go.RowKit
theorem nr (pl:Nat) (tk:Option Addr) (tn tc:Nat) (gv:Int) (f:Value) (hf:f=.nilFunc\/∃ n k,f=.func (.func n) #[] k) (pa:Option Addr) (pn pc:Nat) (nm:ByteArray) (cv:Value) (w:World) :
 Calls Tryz.prog 391 #[.agg #[.int .i64 pl,.slice tk tn tc,.int .i64 gv,f,.slice pa pn pc,.string nm,.bool false],cv] w (ej w (.error ⟨pl,2⟩)):=by
 have FIN:Hid (∀ w',Below w.heap.size w w'->ej w (.error ⟨pl,2⟩) (.panicked [{ v:=df pl 2,recovered:=false }]) w'):=fun w' h=>⟨h,rfl⟩
 rcases hf with rfl | ⟨n,k,rfl⟩
 ·go_in
  go_wp2_with fail
  exact ⟨rfl,FIN.out _ (ae _ _)⟩
 ·go_in
  go_wp2_with fail
  exact ⟨rfl,FIN.out _ (ae _ _)⟩
theorem pI (pl:Nat) (ta:Option Addr) (tn tc:Nat) (gv:Int) (n:Nat) (k:Array Value) (pa:Option Addr) (pn pc:Nat) (nm:ByteArray) (cv:Value) (w:World) (r:Except jK Int)
 (h:∀ W,Below w.heap.size w W->Calls Tryz.prog 389 #[.agg #[.int .i64 pl,.slice ta tn tc,.int .i64 gv,.func (.func n) #[] k,.slice pa pn pc],cv] W (ej W r)) :
 Calls Tryz.prog 391 #[.agg #[.int .i64 pl,.slice ta tn tc,.int .i64 gv,.func (.func n) #[] k,.slice pa pn pc,.string nm,.bool true],cv] w (ej w r):=by
 have HH:=jg h
 go_in
 go_wp2_with fail
 refine (HH.out _ (ae _ _)).mono ?_
 rintro e w2 ⟨hb2,h2⟩
 have FIN:Hid (∀ e,(match r with | .ok k=>e=.returned (.int .i64 k) | .error f=>e=px f.pl f.why)->ej w r e w2):=fun e h=>⟨(ae w _).trans (hb2.mono (by simp)),h⟩
 cases r with
 | ok k=>
  have h2':=h2
  subst h2'
  have F3:=jg (FIN.out _ rfl)
  go_wp2_with fail
  go_ret
  exact F3.out
 | error f=>
  have h2':e=.panicked [{ v:=df f.pl f.why,recovered:=false }]:=h2
  subst h2'
  first | exact FIN.out _ rfl | exact ⟨rfl,FIN.out _ rfl⟩
theorem KD.later {w w':World} {v cv:Value} {r:Except jK Int} (h:KD w v cv r) (hb:Below w.heap.size w w'):KD w' v cv r:=by
 obtain ⟨t,p,fn,rc,h1,h2,h3,h4,h5⟩:=h
 exact ⟨t,p,fn,rc,h1,h2,h3,h4,fun W hW=>h5 W (hb.trans (hW.mono hb.size))⟩
theorem xL (a:Array Value) (W:World):(callFunc 384 a).run Tryz.prog W=.ok (.enter 384 a) W:=eP Tryz.func384 (by kernel_rfl) (by rfl) a W
theorem xc (a:Array Value) (W:World):(callFunc 386 a).run Tryz.prog W=.ok (.enter 386 a) W:=eP Tryz.func386 (by kernel_rfl) (by rfl) a W
theorem ri (a:Array Value) (W:World):(callFunc 389 a).run Tryz.prog W=.ok (.enter 389 a) W:=eP Tryz.func389 (by kernel_rfl) (by rfl) a W
theorem n9 (a:Array Value) (W:World):(callFunc 391 a).run Tryz.prog W=.ok (.enter 391 a) W:=eP Tryz.func391 (by kernel_rfl) (by rfl) a W
theorem uM (s:ByteArray):(bj s).1.length<=3:=by unfold bj;split<;>simp
theorem vA (s:ByteArray):(aQ s).1.length<=3:=by unfold aQ;(repeat' split)<;>simp
theorem vn (s:ByteArray) (o:List Int × Int) (h:eQ s=some o):o.1.length<=3:=by
 unfold eQ at h
 repeat' split at h
 all_goals first | (cases h;simp;done) | cases h
mutual
theorem jU (c:List Co) (a:Option Addr) (cc:Nat) (hm:c.length<=maxLen) (w:World) (g:Nat) (hc:ap w a c):∀ (x:X) (v:Value),Nd w g x v->jh x<=200->KD w v (.slice a c.length cc) (bY c x)
 | .lit k n t,v,h,_=>by
  rw [Nd] at h
  exact ⟨_,_,_,_,h,fun W=>by kernel_rfl,fun W=>by kernel_rfl,xL,fun W hW=>yT c k n t _ W⟩
 | .col pl nm,v,h,_=>by
  rw [Nd] at h
  exact ⟨_,_,_,_,h,fun W=>by kernel_rfl,fun W=>by kernel_rfl,xc,fun W hW=>xK c pl nm a cc W (hc.later hW) hm⟩
 | .pre pl s x,v,h,hs=>by
  rw [Nd] at h
  obtain ⟨tk,f,ps,u,h1,h2,h3,h4,h5⟩:=h
  rw [jh] at hs
  have ih:=jU c a cc hm w g hc x u h5 (by omega)
  obtain ⟨ta,tn,tc,rfl⟩:=h2.form
  obtain ⟨pa,pn,pc,rfl⟩:=h4.form
  obtain ⟨n,k,rfl⟩:=h3.form
  refine ⟨_,_,_,.agg #[.int .i64 pl,.slice ta tn tc,.int .i64 (bj s).2,.func (.func n) #[] k,.slice pa pn pc],h1,fun W=>by kernel_rfl,fun W=>by kernel_rfl,ri,fun W hW=>?_⟩
  have:=l7 pl (bj s) n k ta _ tc pa _ pc [u] (.slice a c.length cc) g W (h2.later hW) (h4.later hW) (by simp) (uM s) [bY c x] rfl (fun i hi=>by
   obtain rfl:i=0:=by simp at hi;exact hi
   exact ih.later hW)
  rw [bY]
  refine this.mono ?_
  intro e w' h
  have e1:((fO [bY c x]).bind fun ks=>iR pl (lE (bj s) ks))=(bY c x).bind fun k=>iR pl (lE (bj s) [k]):=by
   rw [fO,fO]
   cases bY c x<;>rfl
  rw [e1] at h
  exact h
 | .inf pl s l r,v,h,hs=>by
  rw [Nd] at h
  obtain ⟨tk,f,ps,u,u',h1,h0,h2,h3,h4,h5,h6⟩:=h
  rw [jh] at hs
  have ih:=jU c a cc hm w g hc l u h5 (by omega)
  have ih':=jU c a cc hm w g hc r u' h6 (by omega)
  obtain ⟨ta,tn,tc,rfl⟩:=h2.form
  obtain ⟨pa,pn,pc,rfl⟩:=h4.form
  obtain ⟨n,k,rfl⟩:=h3.form
  refine ⟨_,_,_,.agg #[.int .i64 pl,.slice ta tn tc,.int .i64 (aQ s).2,.func (.func n) #[] k,.slice pa pn pc],h1,fun W=>by kernel_rfl,fun W=>by kernel_rfl,ri,fun W hW=>?_⟩
  have:=l7 pl (aQ s) n k ta _ tc pa _ pc [u,u'] (.slice a c.length cc) g W (h2.later hW) (h4.later hW) (by simp) (vA s) [bY c l,bY c r] rfl (fun i hi=>by
   match i,hi with
   | 0,_=>exact ih.later hW
   | 1,_=>exact ih'.later hW
   | i+2,h=>exact absurd h (by simp))
  rw [bY]
  refine this.mono ?_
  intro e w' h
  have e1:((fO [bY c l,bY c r]).bind fun ks=>iR pl (lE (aQ s) ks))=(bY c l).bind fun k=>(bY c r).bind fun k'=>iR pl (lE (aQ s) [k,k']):=by
   rw [fO,fO,fO]
   cases bY c l<;>cases bY c r<;>rfl
  rw [e1] at h
  exact h
 | .app pl nm l,v,h,hs=>by
  rw [Nd] at h
  obtain ⟨tk,gv,f,ps,us,h1,h2,h3,h4,⟨ta',tn',tc',e9⟩,hf9⟩:=h
  rw [jh] at hs
  obtain ⟨pa,pn,pc,rfl⟩:=h3.form
  cases ho:eQ nm with
  | none=>
   rw [ho] at h1
   subst e9
   refine ⟨_,_,_,.agg #[.int .i64 pl,.slice ta' tn' tc',.int .i64 gv,f,.slice pa pn pc,.string nm,.bool false],h1,fun W=>?_,fun W=>?_,n9,fun W hW=>?_⟩
   ·rcases hf9 with rfl | ⟨n,k,rfl⟩<;>kernel_rfl
   ·rcases hf9 with rfl | ⟨n,k,rfl⟩<;>kernel_rfl
   ·rw [bY,ho]
    exact nr pl ta' tn' tc' gv f hf9 pa pn pc nm _ W
  | some o=>
   obtain ⟨rs,hl,hall,hi⟩:=qw c a cc hm w g hc l us h4 (by omega)
   obtain ⟨rfl,h5,h6⟩:=h2 o ho
   obtain ⟨ta,tn,tc,rfl⟩:=h5.form
   obtain ⟨n,k,rfl⟩:=h6.form
   rw [ho] at h1
   have hlen:=h4.length
   have hsz:=mb l
   refine ⟨_,_,_,.agg #[.int .i64 pl,.slice ta tn tc,.int .i64 o.2,.func (.func n) #[] k,.slice pa pn pc,.string nm,.bool true],h1,fun W=>by kernel_rfl,fun W=>by kernel_rfl,n9,fun W hW=>?_⟩
   refine pI pl ta _ tc o.2 n k pa _ pc nm (.slice a c.length cc) W _ (fun W' hW'=>?_)
   have hb:=hW.trans (hW'.mono hW.size)
   have:=l7 pl o n k ta _ tc pa _ pc us (.slice a c.length cc) g W' (h5.later hb) (h3.later hb) (by omega) (vn nm o ho) rs hl (fun i h=>(hi i h).later hb)
   rw [bY,ho]
   rw [hall] at this
   exact this
theorem qw (c:List Co) (a:Option Addr) (cc:Nat) (hm:c.length<=maxLen) (w:World) (g:Nat) (hc:ap w a c):∀ (l:List X) (us:List Value),ez w g l us->gb l<=200->∃ rs:List (Except jK Int),∃ hl:rs.length=us.length,fO rs=mT c l/\∀ i (h:i<us.length),KD w us[i] (.slice a c.length cc) (rs[i]'(by rw [hl];exact h))
 | [],us,h,_=>by
  rw [ez] at h
  subst h
  exact ⟨[],rfl,by rw [fO,mT],fun i h=>absurd h (by simp)⟩
 | x::l,us,h,hs=>by
  rw [ez] at h
  obtain ⟨u,us',rfl,h2,h3⟩:=h
  rw [gb] at hs
  have ih:=jU c a cc hm w g hc x u h2 (by omega)
  obtain ⟨rs,hl,hall,hi⟩:=qw c a cc hm w g hc l us' h3 (by omega)
  refine ⟨bY c x::rs,by simp [hl],by rw [fO,mT,hall],fun i h=>?_⟩
  match i,h with
  | 0,_=>exact ih
  | i+1,h=>exact hi i (by simpa using h)
end
end
end Go.Proofs.YtiiliobffnhpmaaGreatDoor
