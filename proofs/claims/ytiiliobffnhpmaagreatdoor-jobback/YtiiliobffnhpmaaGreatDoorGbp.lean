import Derived.Test.YtiiliobffnhpmaaGreatDoorGbo
set_option linter.all false
set_option maxRecDepth 100000
set_option maxHeartbeats 4000000
namespace Go.Proofs.YtiiliobffnhpmaaGreatDoor.Jp
open Go.RowKit Oo
theorem uC:(Tryz.prog.info? 59).map (·.size)=some 12:=by kernel_rfl
theorem iE {ps:List (aJ × bM)} {i:Nat} (h:i<ps.length):cg (ps.map (·.1)) (i:Int)=ps[i].1.nm:=by
 unfold cg
 rw [Int.toNat_natCast,List.getElem?_map,List.getElem?_eq_getElem h]
 rfl
theorem il {k s t:Int} (hs:-9223372036854775808<=s/\s<=9223372036854775807) (ht:-9223372036854775808<=t/\t<=9223372036854775807):(bQ k s t).size<=5000:=by
 have hw:=dT (ws:=bE) (by decide) k
 have q1:=gB hs
 have q2:=gB ht
 have q3:ma.size=2:=rfl
 have q4:gh.size=5:=rfl
 have h1:=aV (M:=100) [ma,aL bE k] (fun y hy=>by simp at hy;rcases hy with rfl | rfl<;>omega)
 simp at h1
 unfold bQ
 split
 ·omega
 ·split
  ·have:=aV (M:=300) [aE [ma,aL bE k],gy s,gh,gy t] (fun y hy=>by simp at hy;rcases hy with rfl | rfl | rfl | rfl<;>omega)
   simp at this;omega
  ·have:=aV (M:=300) [aE [ma,aL bE k],gy s] (fun y hy=>by simp at hy;rcases hy with rfl | rfl<;>omega)
   simp at this;omega
theorem jA {l:List (ByteArray × ByteArray)} (hn:l.length<=4096) (hs:∀ p∈l,p.1.size<=300/\p.2.size<=300):(cE l).size<=5000000:=by
 have:=dP (M:=1000) eL (l.map fun q:ByteArray × ByteArray=>aE [q.1,Jp.bAs,q.2]) (fun y hy=>by
  obtain ⟨q,hq,rfl⟩:=List.mem_map.1 hy
  obtain ⟨q1,q2⟩:=hs q hq
  have q3:Jp.bAs.size=2:=rfl
  have:=aV (M:=300) [q.1,Jp.bAs,q.2] (fun z hz=>by simp at hz;rcases hz with rfl | rfl | rfl<;>omega)
  simp at this;omega)
 have h2:eL.size=2:=rfl
 rw [List.length_map,h2] at this
 have h3:l.length*1002<=4096*1002:=Nat.mul_le_mul_right _ hn
 exact Nat.le_trans this (by omega)
theorem le {c:List Co} {ks:List Int} (hn:ks.length<=4096) (hs:∀ x∈c,x.nm.size<=12):(co c ks).size<=5000000:=by
 unfold co
 split
 ·decide
 ·have:=dP (M:=12) eL (ks.map (dO c)) (fun y hy=>by
   obtain ⟨i,hi,rfl⟩:=List.mem_map.1 hy
   exact dL hs i)
  have h2:eL.size=2:=rfl
  rw [List.length_map,h2] at this
  have h3:ks.length*14<=4096*14:=Nat.mul_le_mul_right _ hn
  omega
theorem li {c:List Co} {ag:List Oo.Ag} {nm:List ByteArray} (hn:ag.length<=4096) (hs:∀ x∈c,x.nm.size<=12) (hm:∀ x∈nm,x.size<=12):(cU c ag nm).size<=20000000:=by
 unfold cU
 split
 ·decide
 ·have h1:=jA (l:=(ag.map (aS c)).zip nm) (by rw [List.length_zip,List.length_map];omega) (fun q hq=>by
   obtain ⟨m1,m2⟩:=List.of_mem_zip hq
   obtain ⟨a,_,e⟩:=List.mem_map.1 m1
   have h2:=hm _ m2
   have h3:=lk hs a
   rw [e] at h3
   exact ⟨h3,by omega⟩)
  have q3:eK.size=4:=rfl
  have:=aV (M:=5000000) [eK,cE ((ag.map (aS c)).zip nm)] (fun y hy=>by simp at hy;rcases hy with rfl | rfl<;>omega)
  simp at this;omega
theorem jN {c r:List Co} {l:List (Int × Int)} (hn:l.length<=4096) (hs:∀ x∈c,x.nm.size<=12) (hs2:∀ x∈r,x.nm.size<=12):(cG c r l).size<=5000000:=by
 have:=dP (M:=100) Au (l.map fun q:Int × Int=>aE [dO c q.1,aH,dO r q.2]) (fun y hy=>by
  obtain ⟨q,hq,rfl⟩:=List.mem_map.1 hy
  have q1:=dL hs q.1
  have q2:=dL hs2 q.2
  have q3:aH.size=1:=rfl
  have:=aV (M:=12) [dO c q.1,aH,dO r q.2] (fun z hz=>by simp at hz;rcases hz with rfl | rfl | rfl<;>omega)
  simp at this;omega)
 have h2:Au.size=5:=rfl
 rw [List.length_map,h2] at this
 have h3:l.length*105<=4096*105:=Nat.mul_le_mul_right _ hn
 exact Nat.le_trans this (by omega)
theorem lf {l:List Co} (hn:l.length<=4096) (hs:∀ x∈l,x.nm.size<=12):(cy l).size<=5000000:=by
 have:=dP (M:=100) eL (l.map fun c=>aE [c.nm,aL bF c.k]) (fun y hy=>by
  obtain ⟨x,hx,rfl⟩:=List.mem_map.1 hy
  have h1:=hs x hx
  have h2:=dT (ws:=bF) (by decide) x.k
  have:=aV (M:=12) [x.nm,aL bF x.k] (fun z hz=>by simp at hz;rcases hz with rfl | rfl<;>omega)
  simp at this;omega)
 have h2:eL.size=2:=rfl
 rw [List.length_map,h2] at this
 have h3:l.length*102<=4096*102:=Nat.mul_le_mul_right _ hn
 exact Nat.le_trans this (by omega)
theorem ke {n:Int} (h:-9223372036854775808<=n/\n<=9223372036854775807):(cC n).size<=300:=by
 unfold cC
 split
 ·decide
 ·have q1:=gB h
  have q3:dJ.size=4:=rfl
  have:=aV (M:=30) [dJ,gy n] (fun y hy=>by simp at hy;rcases hy with rfl | rfl<;>omega)
  simp at this;omega
theorem qB {M:Nat} (l:List ByteArray) (h:∀ x∈l,x.size<=100000000) (hl:l.length<=10):(aE l).size<=140737488355328:=by
 have h1:=aV (M:=100000000) l h
 have h2:l.length*(100000000+1)<=10*(100000000+1):=Nat.mul_le_mul_right _ hl
 exact Nat.le_trans h1 (Nat.le_trans h2 (by decide))
theorem zY (ps:List (aJ × bM)) (a:Option Addr) (cN nb:Nat) (i:Int) (hi:xM ps.length i) (hn:ps.length<=4096) (W:World) (h3:W.cell? ⟨nb,0,none⟩=some (.slice a ps.length cN)) (hc:NL W a ps) :
 Calls Tryz.prog 60 #[.int .i64 i,.pointer (some ⟨nb,0,none⟩)] W fun e w'=>e=.returned (.string (cg (ps.map (·.1)) i))/\Below W.heap.size W w':=by
 obtain ⟨j,rfl,hj⟩:=hi
 obtain ⟨b,off,rfl,d,-⟩:=hc j hj
 have d0:W.cell? ⟨b,off+j*16,none⟩=some (.string ps[j].1.nm):=d 0 _ rfl
 have hji:(j:Int)<(ps.length:Int):=by omega
 have hob:=bL h3
 have hbl:=bL d0
 rw [iE hj]
 generalize ps[j].1.nm=X at *
 go_in
 go_wp2_with fail
 go_ret
 exact ⟨rfl,bR⟩
theorem AZ (a:Array Value) (W:World):(callFunc 60 a).run Tryz.prog W=.ok (.enter 60 a) W:=eP Tryz.func60 (by kernel_rfl) (by rfl) a W
inductive Cp (nmN N0:ByteArray) (ex nm:List ByteArray) (c r:List Co) (ks os:List Int) (wk ws wt:Int) (ag:List Oo.Ag) (ou:Bool) (ins:List Int) (ic:Nat) (ps:List (aJ × bM)):Int->ByteArray->Prop
 | sink:Cp nmN N0 ex nm c r ks os wk ws wt ag ou ins ic ps 7 (aE [cA,aE [nmN,aH,N0]])
 | wher (x:ByteArray) (hx:0<ex.length) (hx0:ex[0]=x) (hxs:x.size<=300):Cp nmN N0 ex nm c r ks os wk ws wt ag ou ins ic ps 2 (aE [aE [nmN,aH,N0],ey,x])
 | sel (TT:ByteArray) (HTT:Hid (cE (ex.zip nm)=TT)) (HEL:Hid (nm.length=ex.length)) (hen:ex.length<=4096) (hes:∀ x∈ex,x.size<=300) (hns:∀ x∈nm,x.size<=300):Cp nmN N0 ex nm c r ks os wk ws wt ag ou ins ic ps 3 (aE [aE [nmN,aH,N0],dl,TT])
 | wind (KS WN AG:ByteArray) (HKS:Hid (co c ks=KS)) (HWE:Hid (bQ wk ws wt=WN)) (HAE:Hid (cU c ag nm=AG)) (hwk:wk=1\/wk=2\/wk=3\/wk=4) (hws:-9223372036854775808<=ws/\ws<=9223372036854775807) (hwt:-9223372036854775808<=wt/\wt<=9223372036854775807) (hk:∀ i∈ks,xM c.length i) (hcn:c.length<=4096) (hks:ks.length<=4096) (hcs:∀ x∈c,x.nm.size<=12) (hg:∀ x∈ag,Dw c.length x) (hgl:ag.length<=4096) (HNL2:Hid (nm.length=ag.length)) (hns:∀ x∈nm,x.size<=12):Cp nmN N0 ex nm c r ks os wk ws wt ag ou ins ic ps 4 (aE [aE [nmN,aH,N0],pR,KS,WN,AG])
 | union (JJ:ByteArray) (HJJ:Hid (jn eL (ins.tail.map (cg (ps.map (·.1))))=JJ)) (hi2:2<=ins.length) (hic:ins.length<=ic) (hin:ins.length<=4096) (hip:∀ i∈ins.tail,xM ps.length i):Cp nmN N0 ex nm c r ks os wk ws wt ag ou ins ic ps 6 (aE [aE [nmN,aH,N0],eh,JJ])
 | join (j0:Nat) (PR WN OU N1:ByteArray) (hj1:1<ins.length) (hj2:j0<ps.length) (HJ0:Hid (ins[1]=(j0:Int))) (HN1:Hid (ps[j0].1.nm=N1)) (HPE:Hid (cG c r (ks.zip os)=PR)) (HWE:Hid (bQ wk ws wt=WN)) (HOE:Hid (dF ou=OU)) (hwk:wk=1\/wk=2\/wk=3\/wk=4) (hws:-9223372036854775808<=ws/\ws<=9223372036854775807) (hwt:-9223372036854775808<=wt/\wt<=9223372036854775807) (hk:∀ i∈ks,xM c.length i) (hos:∀ i∈os,xM r.length i) (HOL:Hid (os.length=ks.length)) (hcn:c.length<=4096) (hrn:r.length<=4096) (hks:ks.length<=4096) (hcs:∀ x∈c,x.nm.size<=12) (hrs:∀ x∈r,x.nm.size<=12):Cp nmN N0 ex nm c r ks os wk ws wt ag ou ins ic ps 5 (aE [aE [nmN,aH,N0],OU,eN,N1,rX,PR,WN])
theorem kJ (K:Int) (hK:K≠1) (R N0:ByteArray) (nmN:ByteArray) (ex nm:List ByteArray) (c r:List Co) (ks os:List Int) (wk ws wt:Int) (ag:List Oo.Ag) (ou:Bool) (ins:List Int) (cols:List Co) (bd:Int) (ea:Option Addr) (ec:Nat) (na:Option Addr) (nc:Nat) (ca:Option Addr) (cc:Nat) (ra:Option Addr) (rc:Nat) (ka:Option Addr) (kc:Nat) (oa:Option Addr) (oc:Nat) (ga:Option Addr) (gc:Nat) (ia:Option Addr) (ic:Nat) (kq:Option Addr) (kqc:Nat) (ps:List (aJ × bM)) (a:Option Addr) (cN:Nat) (w:World)
 (hnd:bw w ⟨nmN,⟨K,ex,nm,c,r,ks,os,wk,ws,wt,ag,ou⟩,ins,cols,bd⟩ ⟨⟨ea,ec,na,nc,ca,cc,ra,rc,ka,kc,oa,oc,ga,gc⟩,ia,ic,kq,kqc⟩) (hNL:NL w a ps) (hT:Vl.Tab w) (hpl:ps.length<=4096) (hnm:nmN.size<=12) (hpn:∀ q∈ps,q.1.nm.size<=12) (i0:Nat) (hi0:0<ins.length) (hi1:i0<ps.length) (h0:ins[0]=(i0:Int)) (HN0:Hid (ps[i0].1.nm=N0)) (HC:Hid (Cp nmN N0 ex nm c r ks os wk ws wt ag ou ins ic ps K R)) :
 Calls Tryz.prog 21 #[.agg #[.string nmN,.int .i64 K,.slice ea ex.length ec,.slice na nm.length nc,.slice ca c.length cc,.slice ra r.length rc,.slice ka ks.length kc,.slice oa os.length oc,.int .i64 wk,.int .i64 ws,.int .i64 wt,.slice ga ag.length gc,.bool ou,.slice ia ins.length ic,.slice kq cols.length kqc,.int .i64 bd],.slice a ps.length cN] w fun e w'=>e=.returned (.string (R))/\Below w.heap.size w w':=by
 have hK1:(K=1)=False:=by simp [hK]
 have hK2:decide (K=1)=false:=by simp [hK]
 have hB2:Below w.heap.size w ((w.alloc (.cells #[.string nmN,.int .i64 K,.slice ea ex.length ec,.slice na nm.length nc,.slice ca c.length cc,.slice ra r.length rc,.slice ka ks.length kc,.slice oa os.length oc,.int .i64 wk,.int .i64 ws,.int .i64 wt,.slice ga ag.length gc,.bool ou,.slice ia ins.length ic,.slice kq cols.length kqc,.int .i64 bd] 61)).alloc (.cells #[.slice a ps.length cN] 22)):=(ae w _).trans ((ae _ _).mono (ae w _).size)
 have HO0:Hid (aD ((w.alloc (.cells #[.string nmN,.int .i64 K,.slice ea ex.length ec,.slice na nm.length nc,.slice ca c.length cc,.slice ra r.length rc,.slice ka ks.length kc,.slice oa os.length oc,.int .i64 wk,.int .i64 ws,.int .i64 wt,.slice ga ag.length gc,.bool ou,.slice ia ins.length ic,.slice kq cols.length kqc,.int .i64 bd] 61)).alloc (.cells #[.slice a ps.length cN] 22)) w.heap.size 61 16 [.string nmN,.int .i64 K,.slice ea ex.length ec,.slice na nm.length nc,.slice ca c.length cc,.slice ra r.length rc,.slice ka ks.length kc,.slice oa os.length oc,.int .i64 wk,.int .i64 ws,.int .i64 wt,.slice ga ag.length gc,.bool ou,.slice ia ins.length ic,.slice kq cols.length kqc,.int .i64 bd]):=(aD.new w 61 16 #[.string nmN,.int .i64 K,.slice ea ex.length ec,.slice na nm.length nc,.slice ca c.length cc,.slice ra r.length rc,.slice ka ks.length kc,.slice oa os.length oc,.int .i64 wk,.int .i64 ws,.int .i64 wt,.slice ga ag.length gc,.bool ou,.slice ia ins.length ic,.slice kq cols.length kqc,.int .i64 bd] rfl).later (ae _ _)
 have HO1:Hid (aD ((w.alloc (.cells #[.string nmN,.int .i64 K,.slice ea ex.length ec,.slice na nm.length nc,.slice ca c.length cc,.slice ra r.length rc,.slice ka ks.length kc,.slice oa os.length oc,.int .i64 wk,.int .i64 ws,.int .i64 wt,.slice ga ag.length gc,.bool ou,.slice ia ins.length ic,.slice kq cols.length kqc,.int .i64 bd] 61)).alloc (.cells #[.slice a ps.length cN] 22)) (w.heap.size+1) 22 1 [.slice a ps.length cN]):=by
  have:=aD.new (w.alloc (.cells #[.string nmN,.int .i64 K,.slice ea ex.length ec,.slice na nm.length nc,.slice ca c.length cc,.slice ra r.length rc,.slice ka ks.length kc,.slice oa os.length oc,.int .i64 wk,.int .i64 ws,.int .i64 wt,.slice ga ag.length gc,.bool ou,.slice ia ins.length ic,.slice kq cols.length kqc,.int .i64 bd] 61)) 22 1 #[.slice a ps.length cN] rfl
  rw [show (w.alloc (.cells #[.string nmN,.int .i64 K,.slice ea ex.length ec,.slice na nm.length nc,.slice ca c.length cc,.slice ra r.length rc,.slice ka ks.length kc,.slice oa os.length oc,.int .i64 wk,.int .i64 ws,.int .i64 wt,.slice ga ag.length gc,.bool ou,.slice ia ins.length ic,.slice kq cols.length kqc,.int .i64 bd] 61)).heap.size=w.heap.size+1 by simp] at this
  exact this
 have HND:=jg (hnd.later hB2)
 have HNL:=jg (hNL.later hB2)
 have HTB:=jg (Vl.Tab.later hT hB2)
 have HB2:=jg hB2
 go_in
 go_upto_region 1 with fail
 generalize ((w.alloc (.cells #[.string nmN,.int .i64 K,.slice ea ex.length ec,.slice na nm.length nc,.slice ca c.length cc,.slice ra r.length rc,.slice ka ks.length kc,.slice oa os.length oc,.int .i64 wk,.int .i64 ws,.int .i64 wt,.slice ga ag.length gc,.bool ou,.slice ia ins.length ic,.slice kq cols.length kqc,.int .i64 bd] 61)).alloc (.cells #[.slice a ps.length cN] 22))=W2 at *
 have m1:=HO0.out.c 1 rfl
 have m2:=HO0.out.c 2 rfl
 have m3:=HO0.out.c 3 rfl
 have m4:=HO0.out.c 4 rfl
 have m5:=HO0.out.c 5 rfl
 have m6:=HO0.out.c 6 rfl
 have m7:=HO0.out.c 7 rfl
 have m8:=HO0.out.c 8 rfl
 have m9:=HO0.out.c 9 rfl
 have m10:=HO0.out.c 10 rfl
 have m11:=HO0.out.c 11 rfl
 have m12:=HO0.out.c 12 rfl
 have hlw:=HO0.out.lt
 have HOZ:=jg (aD.new W2 59 12 #[.int .i64 0,.slice none 0 0,.slice none 0 0,.slice none 0 0,.slice none 0 0,.slice none 0 0,.slice none 0 0,.int .i64 0,.int .i64 0,.int .i64 0,.slice none 0 0,.bool false] rfl)
 have HR2:=jg HOZ.out.row
 have HI3:Hid ((Tryz.prog.info? 59).map (·.size)=some (#[.int .i64 K,.slice ea ex.length ec,.slice na nm.length nc,.slice ca c.length cc,.slice ra r.length rc,.slice ka ks.length kc,.slice oa os.length oc,.int .i64 wk,.int .i64 ws,.int .i64 wt,.slice ga ag.length gc,.bool ou]:Array Value).size):=uC
 have ho1:Hid ((#[.int .i64 K,.slice ea ex.length ec,.slice na nm.length nc,.slice ca c.length cc,.slice ra r.length rc,.slice ka ks.length kc,.slice oa os.length oc,.int .i64 wk,.int .i64 ws,.int .i64 wt,.slice ga ag.length gc,.bool ou]:Array Value).all (·.oneCell')=true):=by unfold Hid;simp [Value.oneCell']
 have HSZ:Hid ((#[.int .i64 0,.slice none 0 0,.slice none 0 0,.slice none 0 0,.slice none 0 0,.slice none 0 0,.slice none 0 0,.int .i64 0,.int .i64 0,.int .i64 0,.slice none 0 0,.bool false]:Array Value).size=(#[.int .i64 K,.slice ea ex.length ec,.slice na nm.length nc,.slice ca c.length cc,.slice ra r.length rc,.slice ka ks.length kc,.slice oa os.length oc,.int .i64 wk,.int .i64 ws,.int .i64 wt,.slice ga ag.length gc,.bool ou]:Array Value).size):=rfl
 go_upto_region 2 with (first
  | (refine wpList_store_row rfl 59 _ _ rfl W2.heap.size #[.int .i64 K,.slice ea ex.length ec,.slice na nm.length nc,.slice ca c.length cc,.slice ra r.length rc,.slice ka ks.length kc,.slice oa os.length oc,.int .i64 wk,.int .i64 ws,.int .i64 wt,.slice ga ag.length gc,.bool ou] rfl rfl 59 #[.int .i64 0,.slice none 0 0,.slice none 0 0,.slice none 0 0,.slice none 0 0,.slice none 0 0,.slice none 0 0,.int .i64 0,.int .i64 0,.int .i64 0,.slice none 0 0,.bool false] HR2.out HI3.out HSZ.out ho1.out ?_))
 have hG:=iq (W2.alloc (.cells #[.int .i64 0,.slice none 0 0,.slice none 0 0,.slice none 0 0,.slice none 0 0,.slice none 0 0,.slice none 0 0,.int .i64 0,.int .i64 0,.int .i64 0,.slice none 0 0,.bool false] 59)) W2.heap.size #[.int .i64 K,.slice ea ex.length ec,.slice na nm.length nc,.slice ca c.length cc,.slice ra r.length rc,.slice ka ks.length kc,.slice oa os.length oc,.int .i64 wk,.int .i64 ws,.int .i64 wt,.slice ga ag.length gc,.bool ou]
 have HB3:=jg ((ae W2 _).grown hG (by simp) (fun k hk=>by have:=sI hk;omega))
 have HO2:=jg (pt (n:=12) (setRow_heap _ _ _ #[.int .i64 K,.slice ea ex.length ec,.slice na nm.length nc,.slice ca c.length cc,.slice ra r.length rc,.slice ka ks.length kc,.slice oa os.length oc,.int .i64 wk,.int .i64 ws,.int .i64 wt,.slice ga ag.length gc,.bool ou] _ _ HR2.out) rfl)
 generalize (W2.alloc (.cells #[.int .i64 0,.slice none 0 0,.slice none 0 0,.slice none 0 0,.slice none 0 0,.slice none 0 0,.slice none 0 0,.int .i64 0,.int .i64 0,.int .i64 0,.slice none 0 0,.bool false] 59)).setRow W2.heap.size #[.int .i64 K,.slice ea ex.length ec,.slice na nm.length nc,.slice ca c.length cc,.slice ra r.length rc,.slice ka ks.length kc,.slice oa os.length oc,.int .i64 wk,.int .i64 ws,.int .i64 wt,.slice ga ag.length gc,.bool ou]=wU at *
 have HBU:=jg (HB2.out.trans (HB3.out.mono HB2.out.size))
 have HNDU:=jg (HND.out.later HB3.out)
 have HNLU:=jg (HNL.out.later HB3.out)
 have HTU:=jg (Vl.Tab.later HTB.out HB3.out)
 have c0:=(HO0.out.later HB3.out).c 0 rfl
 have c13:=(HO0.out.later HB3.out).c 13 rfl
 have c15:=(HO0.out.later HB3.out).c 15 rfl
 have cB:=(HO1.out.later HB3.out).c 0 rfl
 have hl0:=(HO0.out.later HB3.out).lt
 have hl1:=(HO1.out.later HB3.out).lt
 have hl2:=HO2.out.lt
 have o0:=HO2.out.c 0 rfl
 have o1:=HO2.out.c 1 rfl
 have o2:=HO2.out.c 2 rfl
 have o3:=HO2.out.c 3 rfl
 have o4:=HO2.out.c 4 rfl
 have o5:=HO2.out.c 5 rfl
 have o6:=HO2.out.c 6 rfl
 have o7:=HO2.out.c 7 rfl
 have o8:=HO2.out.c 8 rfl
 have o9:=HO2.out.c 9 rfl
 have o10:=HO2.out.c 10 rfl
 have o11:=HO2.out.c 11 rfl
 generalize W2.heap.size=OB at *
 obtain ⟨bi,oi,hia,di⟩:=HNDU.out.i 0 hi0
 simp only at hia di
 obtain ⟨bn,on,hna,dn,-⟩:=HNLU.out i0 hi1
 have dn0:wU.cell? ⟨bn,on+i0*16,none⟩=some (.string ps[i0].1.nm):=dn 0 _ rfl
 rw [h0,Nat.add_zero] at di
 have hbi:=bL di
 have hbn:=bL dn0
 have hN0:=hpn _ (List.getElem_mem hi1)
 subst hna
 subst hia
 have hi0i:(0:Int)<(ins.length:Int):=by omega
 have hi1i:(i0:Int)<(ps.length:Int):=by omega
 rw [HN0.out] at dn0 hN0
 have hzh:(aE [nmN,⟨#[61]⟩,N0]).size<=140737488355328:=qB (M:=0) _ (fun x hx=>by
  have q3:(⟨#[61]⟩:ByteArray).size=1:=rfl
  simp at hx;rcases hx with rfl | rfl | rfl<;>omega) (by simp)
 have hHD:(aE [nmN,⟨#[61]⟩,N0]).size<=1000:=by
  have:=aV (M:=12) [nmN,⟨#[61]⟩,N0] (fun x hx=>by
   have q3:(⟨#[61]⟩:ByteArray).size=1:=rfl
   simp at hx;rcases hx with rfl | rfl | rfl<;>omega)
  simp at this;omega
 go_upto_region 4 with fail
 have HBz0:Hid (Below wU.heap.size wU wU.drew):=aA
 refine Go.wp_region_held (S:=fun W=>Below wU.heap.size wU W) (by kernel_rfl) ?_
 change Go.wpAnyH _ _ _ _ _ _ _ _ (World.drew _)
 refine tk 0 (.pointer (some ⟨w.heap.size,0,none⟩)) rfl (by kernel_rfl) (by rfl) (fun _ _ _ h=>h) HBz0.out (fun W hW=>?_) ?_
 ·have hl9:=lL hl0 hW.size
  go_simp
 refine tk 1 (.string nmN) rfl (by kernel_rfl) (by rfl) (fun _ _ _ h=>h) HBz0.out (fun W hW=>?_) ?_
 ·have d:=af hW c0
  go_simp
 refine tk 2 (.slice (some ⟨bn,on,none⟩) ps.length cN) rfl (by kernel_rfl) (by rfl) (fun _ _ _ h=>h) HBz0.out (fun W hW=>?_) ?_
 ·have d:=af hW cB
  go_simp
 refine tk 3 (.pointer (some ⟨w.heap.size,13,none⟩)) rfl (by kernel_rfl) (by rfl) (fun _ _ _ h=>h) HBz0.out (fun W hW=>?_) ?_
 ·have hl9:=lL hl0 hW.size
  go_simp
 refine tk 4 (.slice (some ⟨bi,oi,none⟩) ins.length ic) rfl (by kernel_rfl) (by rfl) (fun _ _ _ h=>h) HBz0.out (fun W hW=>?_) ?_
 ·have d:=af hW c13
  go_simp
 refine tk 5 (.pointer (some ⟨bi,oi,none⟩)) rfl (by kernel_rfl) (by rfl) (fun _ _ _ h=>h) HBz0.out (fun W hW=>?_) ?_
 ·have d:=af hW di
  go_simp
 refine tk 6 (.int .i64 (i0:Int)) rfl (by kernel_rfl) (by rfl) (fun _ _ _ h=>h) HBz0.out (fun W hW=>?_) ?_
 ·have d:=af hW di
  go_simp
 refine tk 7 (.pointer (some ⟨bn,on+i0*16,none⟩)) rfl (by kernel_rfl) (by rfl) (fun _ _ _ h=>h) HBz0.out (fun W hW=>?_) ?_
 ·have d:=af hW dn0
  go_simp
 refine tk 8 (.pointer (some ⟨bn,on+i0*16,none⟩)) rfl (by kernel_rfl) (by rfl) (fun _ _ _ h=>h) HBz0.out (fun W hW=>?_) ?_
 ·have d:=af hW dn0
  have hl9:=lL hbn hW.size
  go_simp
 refine tk 9 (.string N0) rfl (by kernel_rfl) (by rfl) (fun _ _ _ h=>h) HBz0.out (fun W hW=>?_) ?_
 ·have d:=af hW dn0
  go_simp
 refine bH 10 (by kernel_rfl) rfl (fun K hK=>?_)
 go_simp
 have HBz1:Hid (Below wU.heap.size wU (wU.drew.alloc (.cells #[.string nmN,.string ⟨#[61]⟩,.string N0] 9))):=HBz0.out.trans ((ae wU.drew _).mono HBz0.out.size)
 refine hK _ _ ⟨HBz1.out,?_⟩
 refine bH 11 (by kernel_rfl) rfl (fun K hK=>?_)
 go_simp
 refine (bq [nmN,⟨#[61]⟩,N0] (show 3<=4096 by decide) (hzh) wU.drew).mono ?_
 rintro e wz2 ⟨rfl,hb⟩
 have HBz2:=jg (HBz0.out.trans (hb.mono HBz0.out.size))
 refine hK _ _ ⟨HBz2.out,?_⟩
 refine bH 12 (by kernel_rfl) rfl (fun K hK=>?_)
 go_simp
 refine hK _ _ ⟨HBz2.out,?_⟩
 refine Go.wpAnyH_done (by kernel_rfl) ?_ _
 have HBV:=jg (HBU.out.trans (HBz2.out.mono HBU.out.size))
 have HNDV:=jg (HNDU.out.later HBz2.out)
 have HNLV:=jg (HNLU.out.later HBz2.out)
 have HTV:=jg (Vl.Tab.later HTU.out HBz2.out)
 have v13:=af HBz2.out c13
 have vB:=af HBz2.out cB
 have vl0:=lL hl0 HBz2.out.size
 have vl1:=lL hl1 HBz2.out.size
 have vl2:=lL hl2 HBz2.out.size
 have vo0:=af HBz2.out o0
 have vo1:=af HBz2.out o1
 have vo2:=af HBz2.out o2
 have vo3:=af HBz2.out o3
 have vo4:=af HBz2.out o4
 have vo5:=af HBz2.out o5
 have vo6:=af HBz2.out o6
 have vo7:=af HBz2.out o7
 have vo8:=af HBz2.out o8
 have vo9:=af HBz2.out o9
 have vo10:=af HBz2.out o10
 have vo11:=af HBz2.out o11
 generalize hHDe:aE [nmN,⟨#[61]⟩,N0]=HD at *
 have HHD:=jg hHDe
 generalize wz2=wV at *
 have hC:=HC.out
 cases hC with
 | sink=>
  go_wp2_with fail
  refine (bq [⟨#[115,105,110,107]⟩,HD] (show 2<=4096 by decide) (qB (M:=0) _ (fun x hx=>by
   have q3:(⟨#[115,105,110,107]⟩:ByteArray).size=4:=rfl
   simp at hx;rcases hx with rfl | rfl<;>omega) (by simp)) wV).mono ?_
  rintro e w9 ⟨rfl,hb⟩
  have HB9:=jg (HBV.out.trans (hb.mono HBV.out.size))
  go_wp2_with fail
  go_ret
  exact ⟨by rw [<-HHD.out];rfl,HB9.out⟩
 | wher x hx hx0 hxs=>
  obtain ⟨be,oe,hea,de⟩:=HNDV.out.o.e 0 hx
  simp only at hea de
  rw [hx0,Nat.add_zero] at de
  subst hea
  have hxi:(0:Int)<(ex.length:Int):=by omega
  have hbe:=bL de
  go_wp2_with fail
  refine (bq [HD,⟨#[119,104,101,114,101]⟩,x] (show 3<=4096 by decide) (qB (M:=0) _ (fun x hx=>by
   have q3:(⟨#[119,104,101,114,101]⟩:ByteArray).size=5:=rfl
   simp at hx;rcases hx with rfl | rfl | rfl<;>omega) (by simp)) wV).mono ?_
  rintro e w9 ⟨rfl,hb⟩
  have HB9:=jg (HBV.out.trans (hb.mono HBV.out.size))
  go_wp2_with fail
  go_ret
  exact ⟨by rw [<-HHD.out];rfl,HB9.out⟩
 | sel TT HTT HEL hen hes hns=>
  have hzl:(ex.zip nm).length=ex.length:=by rw [List.length_zip,HEL.out];omega
  have hzs:∀ q∈ex.zip nm,q.1.size<=300/\q.2.size<=300:=fun q hq=>by
   obtain ⟨m1,m2⟩:=List.of_mem_zip hq
   exact ⟨hes _ m1,hns _ m2⟩
  have htz:=jA (l:=ex.zip nm) (by omega) hzs
  rw [HTT.out] at htz
  have HT1:Hid (Calls Tryz.prog 55 #[.slice ea ex.length ec,.slice na nm.length nc] wV fun e w'=>e=.returned (.string TT)/\Below wV.heap.size wV w'):=by
   have:=mc (ex.zip nm) ea na ec nc wV (by rw [List.map_fst_zip (by have:=HEL.out;omega)];exact HNDV.out.o.e) (by rw [List.map_snd_zip (by have:=HEL.out;omega)];exact HNDV.out.o.n) (by omega) hzs
   rw [hzl,HTT.out] at this
   rw [HEL.out]
   exact this
  go_wp2_with fail
  refine HT1.out.mono ?_
  rintro e w8 ⟨rfl,hb⟩
  have HB8:=jg (HBV.out.trans (hb.mono HBV.out.size))
  go_wp2_with fail
  refine (bq [HD,⟨#[115,101,108,101,99,116]⟩,TT] (show 3<=4096 by decide) (qB (M:=0) _ (fun x hx=>by
   have q3:(⟨#[115,101,108,101,99,116]⟩:ByteArray).size=6:=rfl
   simp at hx;rcases hx with rfl | rfl | rfl<;>omega) (by simp)) w8).mono ?_
  rintro e w9 ⟨rfl,hb⟩
  have HB9:=jg (HB8.out.trans (hb.mono HB8.out.size))
  go_wp2_with fail
  go_ret
  exact ⟨by rw [<-HHD.out];rfl,HB9.out⟩
 | wind KS WN AG HKS HWE HAE hwk hws hwt hk hcn hks hcs hg hgl HNL2 hns=>
  have s1:=le hks hcs
  have s2:=il (k:=wk) hws hwt
  have s3:=li hgl hcs hns
  rw [HKS.out] at s1
  rw [HWE.out] at s2
  rw [HAE.out] at s3
  have HK:Hid (∀ W,iw W ⟨4,ex,nm,c,r,ks,os,wk,ws,wt,ag,ou⟩ ⟨ea,ec,na,nc,ca,cc,ra,rc,ka,kc,oa,oc,ga,gc⟩->Calls Tryz.prog 56 #[.agg #[.int .i64 4,.slice ea ex.length ec,.slice na nm.length nc,.slice ca c.length cc,.slice ra r.length rc,.slice ka ks.length kc,.slice oa os.length oc,.int .i64 wk,.int .i64 ws,.int .i64 wt,.slice ga ag.length gc,.bool ou]] W fun e w'=>e=.returned (.string KS)/\Below W.heap.size W w'):=fun W hW=>HKS.out▸yl ⟨4,ex,nm,c,r,ks,os,wk,ws,wt,ag,ou⟩ ⟨ea,ec,na,nc,ca,cc,ra,rc,ka,kc,oa,oc,ga,gc⟩ W hW hk hcn hks hcs
  have HWN:Hid (∀ W,Vl.Tab W->Calls Tryz.prog 57 #[.agg #[.int .i64 wk,.int .i64 ws,.int .i64 wt]] W fun e w'=>e=.returned (.string WN)/\Below W.heap.size W w'):=fun W hW=>HWE.out▸qy wk ws wt hwk hws hwt W hW
  have HAG:Hid (∀ W,iw W ⟨4,ex,nm,c,r,ks,os,wk,ws,wt,ag,ou⟩ ⟨ea,ec,na,nc,ca,cc,ra,rc,ka,kc,oa,oc,ga,gc⟩->Calls Tryz.prog 58 #[.agg #[.int .i64 4,.slice ea ex.length ec,.slice na nm.length nc,.slice ca c.length cc,.slice ra r.length rc,.slice ka ks.length kc,.slice oa os.length oc,.int .i64 wk,.int .i64 ws,.int .i64 wt,.slice ga ag.length gc,.bool ou]] W fun e w'=>e=.returned (.string AG)/\Below W.heap.size W w'):=fun W hW=>HAE.out▸zt ⟨4,ex,nm,c,r,ks,os,wk,ws,wt,ag,ou⟩ ⟨ea,ec,na,nc,ca,cc,ra,rc,ka,kc,oa,oc,ga,gc⟩ W hW hg hcn hgl HNL2.out hcs hns
  have hzz:(aE [HD,⟨#[98,121]⟩,KS,WN,AG]).size<=140737488355328:=qB (M:=0) _ (fun x hx=>by
   have q3:(⟨#[98,121]⟩:ByteArray).size=2:=rfl
   simp at hx;rcases hx with rfl | rfl | rfl | rfl | rfl<;>omega) (by simp)
  go_upto_region 13 with fail
  have HBy0:Hid (Below wV.heap.size wV wV.drew):=aA
  refine Go.wp_region_held (S:=fun W=>Below wV.heap.size wV W) (by kernel_rfl) ?_
  change Go.wpAnyH _ _ _ _ _ _ _ _ (World.drew _)
  refine tk 0 (.string HD) rfl (by kernel_rfl) (by rfl) (fun _ _ _ h=>h) HBy0.out (fun W hW=>?_) ?_
  ·go_simp
  refine tk 1 (.agg #[.int .i64 4,.slice ea ex.length ec,.slice na nm.length nc,.slice ca c.length cc,.slice ra r.length rc,.slice ka ks.length kc,.slice oa os.length oc,.int .i64 wk,.int .i64 ws,.int .i64 wt,.slice ga ag.length gc,.bool ou]) rfl (by kernel_rfl) (by rfl) (fun _ _ _ h=>h) HBy0.out (fun W hW=>?_) ?_
  ·have d0:=af hW vo0
   have d1:=af hW vo1
   have d2:=af hW vo2
   have d3:=af hW vo3
   have d4:=af hW vo4
   have d5:=af hW vo5
   have d6:=af hW vo6
   have d7:=af hW vo7
   have d8:=af hW vo8
   have d9:=af hW vo9
   have d10:=af hW vo10
   have d11:=af hW vo11
   have hl9:=lL vl2 hW.size
   go_simp
  refine tk 3 (.pointer (some ⟨OB,7,none⟩)) rfl (by kernel_rfl) (by rfl) (fun _ _ _ h=>h) HBy0.out (fun W hW=>?_) ?_
  ·have hl9:=lL vl2 hW.size
   go_simp
  refine tk 4 (.agg #[.int .i64 wk,.int .i64 ws,.int .i64 wt]) rfl (by kernel_rfl) (by rfl) (fun _ _ _ h=>h) HBy0.out (fun W hW=>?_) ?_
  ·have d0:=af hW vo7
   have d1:=af hW vo8
   have d2:=af hW vo9
   have hl9:=lL vl2 hW.size
   go_simp
  refine tk 6 (.agg #[.int .i64 4,.slice ea ex.length ec,.slice na nm.length nc,.slice ca c.length cc,.slice ra r.length rc,.slice ka ks.length kc,.slice oa os.length oc,.int .i64 wk,.int .i64 ws,.int .i64 wt,.slice ga ag.length gc,.bool ou]) rfl (by kernel_rfl) (by rfl) (fun _ _ _ h=>h) HBy0.out (fun W hW=>?_) ?_
  ·have d0:=af hW vo0
   have d1:=af hW vo1
   have d2:=af hW vo2
   have d3:=af hW vo3
   have d4:=af hW vo4
   have d5:=af hW vo5
   have d6:=af hW vo6
   have d7:=af hW vo7
   have d8:=af hW vo8
   have d9:=af hW vo9
   have d10:=af hW vo10
   have d11:=af hW vo11
   have hl9:=lL vl2 hW.size
   go_simp
  refine bH 2 (by kernel_rfl) rfl (fun K hK=>?_)
  go_simp
  refine (HK.out _ (HNDV.out.o.later HBy0.out)).mono ?_
  rintro e wy1 ⟨rfl,hb⟩
  have HBy1:=jg (HBy0.out.trans (hb.mono HBy0.out.size))
  refine hK _ _ ⟨HBy1.out,?_⟩
  refine bH 5 (by kernel_rfl) rfl (fun K hK=>?_)
  go_simp
  refine (HWN.out _ (Vl.Tab.later HTV.out HBy1.out)).mono ?_
  rintro e wy2 ⟨rfl,hb⟩
  have HBy2:=jg (HBy1.out.trans (hb.mono HBy1.out.size))
  refine hK _ _ ⟨HBy2.out,?_⟩
  refine bH 7 (by kernel_rfl) rfl (fun K hK=>?_)
  go_simp
  refine (HAG.out _ (HNDV.out.o.later HBy2.out)).mono ?_
  rintro e wy3 ⟨rfl,hb⟩
  have HBy3:=jg (HBy2.out.trans (hb.mono HBy2.out.size))
  refine hK _ _ ⟨HBy3.out,?_⟩
  refine bH 8 (by kernel_rfl) rfl (fun K hK=>?_)
  go_simp
  have HBy4:Hid (Below wV.heap.size wV (wy3.alloc (.cells #[.string HD,.string ⟨#[98,121]⟩,.string KS,.string WN,.string AG] 9))):=HBy3.out.trans ((ae wy3 _).mono HBy3.out.size)
  refine hK _ _ ⟨HBy4.out,?_⟩
  refine bH 9 (by kernel_rfl) rfl (fun K hK=>?_)
  go_simp
  refine (bq [HD,⟨#[98,121]⟩,KS,WN,AG] (show 5<=4096 by decide) (hzz) wy3).mono ?_
  rintro e wy5 ⟨rfl,hb⟩
  have HBy5:=jg (HBy3.out.trans (hb.mono HBy3.out.size))
  refine hK _ _ ⟨HBy5.out,?_⟩
  refine bH 10 (by kernel_rfl) rfl (fun K hK=>?_)
  go_simp
  refine hK _ _ ⟨HBy5.out,?_⟩
  refine Go.wpAnyH_done (by kernel_rfl) ?_ _
  go_wp2_with fail
  go_ret
  exact ⟨by rw [<-HHD.out];rfl,HBV.out.trans (HBy5.out.mono HBV.out.size)⟩
 | union JJ HJJ hi2 hic hin hip=>
  have hjz:JJ.size<=60000:=by
   have:=dP (M:=12) eL (ins.tail.map (cg (ps.map (·.1)))) (fun y hy=>by
    obtain ⟨i,hi,rfl⟩:=List.mem_map.1 hy
    unfold cg
    cases hh:(ps.map (·.1))[i.toNat]? with
    | none=>decide
    | some x=>
     obtain ⟨q,hq,rfl⟩:=List.mem_map.1 (List.mem_of_getElem? hh)
     exact hpn q hq)
   have h2:eL.size=2:=rfl
   rw [HJJ.out,List.length_map,h2,List.length_tail] at this
   have h3:(ins.length-1)*14<=4096*14:=Nat.mul_le_mul_right _ (by omega)
   omega
  have HC1:Hid (Calls Tryz.prog 59 #[.slice (some ⟨bi,oi+1,none⟩) (ins.length-1) (ic-1),.func (.func 60) #[] #[.pointer (some ⟨w.heap.size+1,0,none⟩)]] wV fun e w'=>e=.returned (.string JJ)/\Below wV.heap.size wV w'):=by
   have:=mO 60 #[.pointer (some ⟨w.heap.size+1,0,none⟩)] AZ (cg (ps.map (·.1))) ins.tail (some ⟨bi,oi+1,none⟩) (ic-1) wV (fun j hj=>by
    rw [List.length_tail] at hj
    obtain ⟨b,off,e,d⟩:=HNDV.out.i (j+1) (by simp only;omega)
    cases e
    refine ⟨bi,oi+1,rfl,?_⟩
    rw [List.getElem_tail,show oi+1+j=oi+(j+1) by omega]
    exact d) (by rw [List.length_tail];omega) (fun i hi W' hW'=>zY ps _ cN (w.heap.size+1) i (hip i hi) hpl W' (af hW' vB) (HNLV.out.later hW')) (by rw [HJJ.out];omega)
   rw [List.length_tail,HJJ.out] at this
   exact this
  have hic1:(ic=1)=False:=by simp;omega
  have hl1i:(1:Int)<=(ins.length:Int):=by omega
  go_wp2_with fail
  refine HC1.out.mono ?_
  rintro e w8 ⟨rfl,hb⟩
  have HB8:=jg (HBV.out.trans (hb.mono HBV.out.size))
  go_wp2_with fail
  refine (bq [HD,⟨#[117,110,105,111,110]⟩,JJ] (show 3<=4096 by decide) (qB (M:=0) _ (fun x hx=>by
   have q3:(⟨#[117,110,105,111,110]⟩:ByteArray).size=5:=rfl
   simp at hx;rcases hx with rfl | rfl | rfl<;>omega) (by simp)) w8).mono ?_
  rintro e w9 ⟨rfl,hb⟩
  have HB9:=jg (HB8.out.trans (hb.mono HB8.out.size))
  go_wp2_with fail
  go_ret
  exact ⟨by rw [<-HHD.out];rfl,HB9.out⟩
 | join j0 PR WN OU N1 hj1 hj2 HJ0 HN1 HPE HWE HOE hwk hws hwt hk hos HOL hcn hrn hks hcs hrs=>
  have s1:=jN (c:=c) (r:=r) (l:=ks.zip os) (by rw [List.length_zip];omega) hcs hrs
  have s2:=il (k:=wk) hws hwt
  have s3:(dF ou).size<=5:=by cases ou<;>decide
  rw [HPE.out] at s1
  rw [HWE.out] at s2
  rw [HOE.out] at s3
  have HPR:Hid (∀ W,iw W ⟨5,ex,nm,c,r,ks,os,wk,ws,wt,ag,ou⟩ ⟨ea,ec,na,nc,ca,cc,ra,rc,ka,kc,oa,oc,ga,gc⟩->Calls Tryz.prog 62 #[.agg #[.int .i64 5,.slice ea ex.length ec,.slice na nm.length nc,.slice ca c.length cc,.slice ra r.length rc,.slice ka ks.length kc,.slice oa os.length oc,.int .i64 wk,.int .i64 ws,.int .i64 wt,.slice ga ag.length gc,.bool ou]] W fun e w'=>e=.returned (.string PR)/\Below W.heap.size W w'):=fun W hW=>HPE.out▸vL ⟨5,ex,nm,c,r,ks,os,wk,ws,wt,ag,ou⟩ ⟨ea,ec,na,nc,ca,cc,ra,rc,ka,kc,oa,oc,ga,gc⟩ W hW hk hos HOL.out hcn hrn hks hcs hrs
  have HWN:Hid (∀ W,Vl.Tab W->Calls Tryz.prog 57 #[.agg #[.int .i64 wk,.int .i64 ws,.int .i64 wt]] W fun e w'=>e=.returned (.string WN)/\Below W.heap.size W w'):=fun W hW=>HWE.out▸qy wk ws wt hwk hws hwt W hW
  have HOU:=jg (fun W=>uX ou W)
  rw [HOE.out] at HOU
  have hN1:=hpn _ (List.getElem_mem hj2)
  obtain ⟨b',o',e',dj⟩:=HNDV.out.i 1 hj1
  simp only at e' dj
  cases e'
  rw [HJ0.out] at dj
  obtain ⟨b',o',e',dn,-⟩:=HNLV.out j0 hj2
  cases e'
  have dn0:wV.cell? ⟨bn,on+j0*16,none⟩=some (.string ps[j0].1.nm):=dn 0 _ rfl
  have hbi:=bL dj
  have hbn:=bL dn0
  have hj1i:(1:Int)<(ins.length:Int):=by omega
  have hj2i:(j0:Int)<(ps.length:Int):=by omega
  rw [HN1.out] at dn0 hN1
  have hzz:(aE [HD,OU,⟨#[106,111,105,110]⟩,N1,⟨#[111,110]⟩,PR,WN]).size<=140737488355328:=qB (M:=0) _ (fun x hx=>by
   have q3:(⟨#[106,111,105,110]⟩:ByteArray).size=4:=rfl
   have q4:(⟨#[111,110]⟩:ByteArray).size=2:=rfl
   simp at hx;rcases hx with rfl | rfl | rfl | rfl | rfl | rfl | rfl<;>omega) (by simp)
  go_upto_region 17 with fail
  have HBy0:Hid (Below wV.heap.size wV wV.drew):=aA
  refine Go.wp_region_held (S:=fun W=>Below wV.heap.size wV W) (by kernel_rfl) ?_
  change Go.wpAnyH _ _ _ _ _ _ _ _ (World.drew _)
  refine tk 0 (.string HD) rfl (by kernel_rfl) (by rfl) (fun _ _ _ h=>h) HBy0.out (fun W hW=>?_) ?_
  ·go_simp
  refine tk 1 (.pointer (some ⟨OB,11,none⟩)) rfl (by kernel_rfl) (by rfl) (fun _ _ _ h=>h) HBy0.out (fun W hW=>?_) ?_
  ·have hl9:=lL vl2 hW.size
   go_simp
  refine tk 2 (.bool ou) rfl (by kernel_rfl) (by rfl) (fun _ _ _ h=>h) HBy0.out (fun W hW=>?_) ?_
  ·have d:=af hW vo11
   go_simp
  refine tk 4 (.slice (some ⟨bn,on,none⟩) ps.length cN) rfl (by kernel_rfl) (by rfl) (fun _ _ _ h=>h) HBy0.out (fun W hW=>?_) ?_
  ·have d:=af hW vB
   go_simp
  refine tk 5 (.pointer (some ⟨w.heap.size,13,none⟩)) rfl (by kernel_rfl) (by rfl) (fun _ _ _ h=>h) HBy0.out (fun W hW=>?_) ?_
  ·have hl9:=lL vl0 hW.size
   go_simp
  refine tk 6 (.slice (some ⟨bi,oi,none⟩) ins.length ic) rfl (by kernel_rfl) (by rfl) (fun _ _ _ h=>h) HBy0.out (fun W hW=>?_) ?_
  ·have d:=af hW v13
   go_simp
  refine tk 7 (.pointer (some ⟨bi,oi+1,none⟩)) rfl (by kernel_rfl) (by rfl) (fun _ _ _ h=>h) HBy0.out (fun W hW=>?_) ?_
  ·have d:=af hW dj
   go_simp
  refine tk 8 (.int .i64 (j0:Int)) rfl (by kernel_rfl) (by rfl) (fun _ _ _ h=>h) HBy0.out (fun W hW=>?_) ?_
  ·have d:=af hW dj
   go_simp
  refine tk 9 (.pointer (some ⟨bn,on+j0*16,none⟩)) rfl (by kernel_rfl) (by rfl) (fun _ _ _ h=>h) HBy0.out (fun W hW=>?_) ?_
  ·have d:=af hW dn0
   go_simp
  refine tk 10 (.pointer (some ⟨bn,on+j0*16,none⟩)) rfl (by kernel_rfl) (by rfl) (fun _ _ _ h=>h) HBy0.out (fun W hW=>?_) ?_
  ·have d:=af hW dn0
   have hl9:=lL hbn hW.size
   go_simp
  refine tk 11 (.string N1) rfl (by kernel_rfl) (by rfl) (fun _ _ _ h=>h) HBy0.out (fun W hW=>?_) ?_
  ·have d:=af hW dn0
   go_simp
  refine tk 12 (.agg #[.int .i64 5,.slice ea ex.length ec,.slice na nm.length nc,.slice ca c.length cc,.slice ra r.length rc,.slice ka ks.length kc,.slice oa os.length oc,.int .i64 wk,.int .i64 ws,.int .i64 wt,.slice ga ag.length gc,.bool ou]) rfl (by kernel_rfl) (by rfl) (fun _ _ _ h=>h) HBy0.out (fun W hW=>?_) ?_
  ·have d0:=af hW vo0
   have d1:=af hW vo1
   have d2:=af hW vo2
   have d3:=af hW vo3
   have d4:=af hW vo4
   have d5:=af hW vo5
   have d6:=af hW vo6
   have d7:=af hW vo7
   have d8:=af hW vo8
   have d9:=af hW vo9
   have d10:=af hW vo10
   have d11:=af hW vo11
   have hl9:=lL vl2 hW.size
   go_simp
  refine tk 14 (.pointer (some ⟨OB,7,none⟩)) rfl (by kernel_rfl) (by rfl) (fun _ _ _ h=>h) HBy0.out (fun W hW=>?_) ?_
  ·have hl9:=lL vl2 hW.size
   go_simp
  refine tk 15 (.agg #[.int .i64 wk,.int .i64 ws,.int .i64 wt]) rfl (by kernel_rfl) (by rfl) (fun _ _ _ h=>h) HBy0.out (fun W hW=>?_) ?_
  ·have d0:=af hW vo7
   have d1:=af hW vo8
   have d2:=af hW vo9
   have hl9:=lL vl2 hW.size
   go_simp
  refine bH 3 (by kernel_rfl) rfl (fun K hK=>?_)
  go_simp
  refine (HOU.out _).mono ?_
  rintro e wy1 ⟨rfl,hb⟩
  have HBy1:=jg (HBy0.out.trans (hb.mono HBy0.out.size))
  refine hK _ _ ⟨HBy1.out,?_⟩
  refine bH 13 (by kernel_rfl) rfl (fun K hK=>?_)
  go_simp
  refine (HPR.out _ (HNDV.out.o.later HBy1.out)).mono ?_
  rintro e wy2 ⟨rfl,hb⟩
  have HBy2:=jg (HBy1.out.trans (hb.mono HBy1.out.size))
  refine hK _ _ ⟨HBy2.out,?_⟩
  refine bH 16 (by kernel_rfl) rfl (fun K hK=>?_)
  go_simp
  refine (HWN.out _ (Vl.Tab.later HTV.out HBy2.out)).mono ?_
  rintro e wy3 ⟨rfl,hb⟩
  have HBy3:=jg (HBy2.out.trans (hb.mono HBy2.out.size))
  refine hK _ _ ⟨HBy3.out,?_⟩
  refine bH 17 (by kernel_rfl) rfl (fun K hK=>?_)
  go_simp
  have HBy4:Hid (Below wV.heap.size wV (wy3.alloc (.cells #[.string HD,.string OU,.string ⟨#[106,111,105,110]⟩,.string N1,.string ⟨#[111,110]⟩,.string PR,.string WN] 9))):=HBy3.out.trans ((ae wy3 _).mono HBy3.out.size)
  refine hK _ _ ⟨HBy4.out,?_⟩
  refine bH 18 (by kernel_rfl) rfl (fun K hK=>?_)
  go_simp
  refine (bq [HD,OU,⟨#[106,111,105,110]⟩,N1,⟨#[111,110]⟩,PR,WN] (show 7<=4096 by decide) (hzz) wy3).mono ?_
  rintro e wy5 ⟨rfl,hb⟩
  have HBy5:=jg (HBy3.out.trans (hb.mono HBy3.out.size))
  refine hK _ _ ⟨HBy5.out,?_⟩
  refine bH 19 (by kernel_rfl) rfl (fun K hK=>?_)
  go_simp
  refine hK _ _ ⟨HBy5.out,?_⟩
  refine Go.wpAnyH_done (by kernel_rfl) ?_ _
  go_wp2_with fail
  go_ret
  exact ⟨by rw [<-HHD.out];rfl,HBV.out.trans (HBy5.out.mono HBV.out.size)⟩
end Go.Proofs.YtiiliobffnhpmaaGreatDoor.Jp
