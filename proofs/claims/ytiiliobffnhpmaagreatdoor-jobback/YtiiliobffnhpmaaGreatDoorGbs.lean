import Derived.Test.YtiiliobffnhpmaaGreatDoorGbq
import Derived.Test.YtiiliobffnhpmaaGreatDoorGbr
set_option linter.all false
set_option maxRecDepth 100000
set_option maxHeartbeats 4000000
namespace Go.Proofs.YtiiliobffnhpmaaGreatDoor.Jp
open Go.RowKit Oo
inductive Jb (rd:R1) (pf:P1) (ckF:List Co->ByteArray->Except Nat Int):List aJ->Prop
 | nil:Jb rd pf ckF []
 | snoc (pre:List aJ) (n0 n:aJ):Jb rd pf ckF pre->jV rd pf pre n0->ix (ckF n0.op.c) pre n0=.ok n->Jb rd pf ckF (pre++[n])
theorem xx {rd:R1} {pf:P1} {ckF:List Co->ByteArray->Except Nat Int} (hr:wT rd) {nodes:List aJ} (h:Jb rd pf ckF nodes):Gd nodes:=by
 induction h with
 | nil=>exact xF
 | snoc pre n0 n _ h1 h2 ih=>exact uH hr ih h1 h2
theorem rR {rd:R1} {pf:P1} {ckF:List Co->ByteArray->Except Nat Int}:∀ (ls:List ByteArray) (nodes nodes':List aJ) (i:Nat),(∀ l∈ls,l.size<=3000)->Jb rd pf ckF nodes->da rd pf ckF ls nodes i=.ok nodes'->Jb rd pf ckF nodes'
 | [],nodes,nodes',i,_,hj,h=>by cases h;exact hj
 | l::ls,nodes,nodes',i,hl,hj,h=>by
  rw [da] at h
  cases hq:dM rd pf ckF nodes (dH l) with
  | error k=>rw [hq] at h;cases h
  | ok n1=>
   rw [hq] at h
   refine rR ls n1 nodes' (i+1) (fun x hx=>hl x (by simp [hx])) ?_ h
   rcases rM (by have:=oq l;have:=hl l (by simp);omega) hq with rfl | ⟨n,n',h1,h2,rfl⟩
   ·exact hj
   ·exact .snoc nodes n n' hj h1 h2
theorem Bh {rd:R1} {pf:P1} {ckF:List Co->ByteArray->Except Nat Int} {s:ByteArray} {nodes:List aJ} (h:bV rd pf ckF s=.ok nodes):Jb rd pf ckF nodes:=by
 unfold bV at h
 split at h
 ·cases h
 ·exact rR _ _ _ 0 (fun l hl=>by have:=mt zM _ s l hl;omega) .nil h
theorem nT {rd:R1} {pf:P1} {ckF:List Co->ByteArray->Except Nat Int} {nodes:List aJ} (h:Jb rd pf ckF nodes):∀ i (hi:i<nodes.length),∃ n0,jV rd pf (nodes.take i) n0/\ix (ckF n0.op.c) (nodes.take i) n0=.ok nodes[i]/\Jb rd pf ckF (nodes.take i):=by
 induction h with
 | nil=>intro i hi;simp at hi
 | snoc pre n0 n hp h1 h2 ih=>
  intro i hi
  rw [List.length_append,List.length_singleton] at hi
  by_cases hlt:i<pre.length
  ·obtain ⟨m,a1,a2,a3⟩:=ih i hlt
   refine ⟨m,?_⟩
   rw [List.take_append_of_le_length (by omega),List.getElem_append_left hlt]
   exact ⟨a1,a2,a3⟩
  ·have:i=pre.length:=by omega
   subst this
   refine ⟨n0,?_⟩
   rw [List.take_left,List.getElem_append_right lR]
   simp only [Nat.sub_self,List.getElem_cons_zero]
   exact ⟨h1,h2,hp⟩
theorem fR {pre l:List aJ} {i:Int} (h:fC pre i):cg (pre++l) i=cg pre i:=by
 obtain ⟨j,s,rfl,_,h2,_⟩:=h
 unfold dN at h2
 rw [List.findIdx?_eq_some_iff_getElem] at h2
 unfold cg
 rw [Int.toNat_natCast,List.getElem?_append_left h2.1]
theorem t7 {rd:R1} {pf:P1} {pre L:List aJ} {n:aJ} (h:jV rd pf pre n):cH (pre++L) n=cH pre n:=by
 have hm:∀ (is:List Int),(∀ j∈is,fC pre j)->is.map (cg (pre++L))=is.map (cg pre):=fun is his=>List.map_congr_left fun j hj=>fR (his j hj)
 cases h with
 | stream nm cs bd h1 h2 h3 h4 h5=>rfl
 | sink nm i h1 h2=>
  have e1:cH pre ⟨nm,{ aB with k:=7,c:=ak pre i },[i],[],0⟩=aE [cA,aE [nm,aH,cg pre i]]:=rfl
  have e2:cH (pre++L) ⟨nm,{ aB with k:=7,c:=ak pre i },[i],[],0⟩=aE [cA,aE [nm,aH,cg (pre++L) i]]:=rfl
  rw [e1,e2,fR h2]
 | wher nm i x h1 h2 h3=>
  have e1:cH pre ⟨nm,{ aB with k:=2,c:=ak pre i,ex:=[x] },[i],[],0⟩=aE [aE [nm,aH,cg pre i],ey,x]:=rfl
  have e2:cH (pre++L) ⟨nm,{ aB with k:=2,c:=ak pre i,ex:=[x] },[i],[],0⟩=aE [aE [nm,aH,cg (pre++L) i],ey,x]:=rfl
  rw [e1,e2,fR h2]
 | selct nm i l h1 h2 h3 h4 h5=>
  have e1:cH pre ⟨nm,{ aB with k:=3,c:=ak pre i,ex:=l.map (·.2),nm:=l.map (·.1) },[i],[],0⟩=aE [aE [nm,aH,cg pre i],dl,cE ((l.map (·.2)).zip (l.map (·.1)))]:=rfl
  have e2:cH (pre++L) ⟨nm,{ aB with k:=3,c:=ak pre i,ex:=l.map (·.2),nm:=l.map (·.1) },[i],[],0⟩=aE [aE [nm,aH,cg (pre++L) i],dl,cE ((l.map (·.2)).zip (l.map (·.1)))]:=rfl
  rw [e1,e2,fR h2]
 | wind nm i ks v l h1 h2 h3 h4 h5 h6 h7=>
  have e1:cH pre ⟨nm,{ aB with k:=4,c:=ak pre i,nm:=l.map (·.1),ks:=ks,wk:=v.1,ws:=v.2.1,wt:=v.2.2,ag:=l.map (·.2) },[i],[],0⟩=aE [aE [nm,aH,cg pre i],pR,co (ak pre i) ks,bQ v.1 v.2.1 v.2.2,cU (ak pre i) (l.map (·.2)) (l.map (·.1))]:=rfl
  have e2:cH (pre++L) ⟨nm,{ aB with k:=4,c:=ak pre i,nm:=l.map (·.1),ks:=ks,wk:=v.1,ws:=v.2.1,wt:=v.2.2,ag:=l.map (·.2) },[i],[],0⟩=aE [aE [nm,aH,cg (pre++L) i],pR,co (ak pre i) ks,bQ v.1 v.2.1 v.2.2,cU (ak pre i) (l.map (·.2)) (l.map (·.1))]:=rfl
  rw [e1,e2,fR h2]
 | union nm i l h1 h2 h3 h4 h5 h6=>
  have e1:cH pre ⟨nm,{ aB with k:=6,c:=ak pre i },i::l,[],0⟩=aE [aE [nm,aH,cg pre i],eh,jn eL (l.map (cg pre))]:=rfl
  have e2:cH (pre++L) ⟨nm,{ aB with k:=6,c:=ak pre i },i::l,[],0⟩=aE [aE [nm,aH,cg (pre++L) i],eh,jn eL (l.map (cg (pre++L)))]:=rfl
  rw [e1,e2,fR h2,hm l h5]
 | join nm i j ou l v h1 h2 h3 h4 h5 h6 h7=>
  have e1:cH pre ⟨nm,{ aB with k:=5,c:=ak pre i,r:=ak pre j,ks:=l.map (·.1),os:=l.map (·.2),wk:=v.1,ws:=v.2.1,wt:=v.2.2,ou:=ou },[i,j],[],0⟩=aE [aE [nm,aH,cg pre i],dF ou,eN,cg pre j,rX,cG (ak pre i) (ak pre j) ((l.map (·.1)).zip (l.map (·.2))),bQ v.1 v.2.1 v.2.2]:=rfl
  have e2:cH (pre++L) ⟨nm,{ aB with k:=5,c:=ak pre i,r:=ak pre j,ks:=l.map (·.1),os:=l.map (·.2),wk:=v.1,ws:=v.2.1,wt:=v.2.2,ou:=ou },[i,j],[],0⟩=aE [aE [nm,aH,cg (pre++L) i],dF ou,eN,cg (pre++L) j,rX,cG (ak pre i) (ak pre j) ((l.map (·.1)).zip (l.map (·.2))),bQ v.1 v.2.1 v.2.2]:=rfl
  rw [e1,e2,fR h2,fR h3]
theorem mM (nodes:List aJ) (n:aJ) (cs:List Co):cH nodes { n with cols:=cs }=cH nodes n:=rfl
theorem kS {rd:R1} {pf:P1} {ckF:List Co->ByteArray->Except Nat Int} (hN:AF rd) (hX:Br pf) {pre:List aJ} {n0 n:aJ} (h:jV rd pf pre n0) (hs:ix (ckF n0.op.c) pre n0=.ok n):dM rd pf ckF pre (cH pre n0)=.ok (pre++[n]):=by
 obtain ⟨ts,h1,h2⟩:=(AX hN hX h).line
 unfold dM
 rw [h1]
 cases ts with
 | nil=>
  exfalso
  have:dx rd pf pre (cH pre n0) []=.error 1:=by
   unfold dx
   have e1:cq (cH pre n0).size aX []=(false,[]):=eZ (by show (⟨#[]⟩:ByteArray)≠aX;decide)
   have e2:cq (cH pre n0).size cA []=(false,[]):=eZ (by show (⟨#[]⟩:ByteArray)≠cA;decide)
   rw [e1]
   simp only
   rw [e2]
   simp only
   have e3:bm (cH pre n0).size []=.error 1:=by
    unfold bm
    rw [if_neg (by rintro ⟨h,_⟩;exact absurd (show (0:Nat)=1 from h) (by decide)),if_neg (by rintro ⟨h,_⟩;exact absurd (show pg ⟨#[]⟩=true from h) (by decide))]
   rw [e3]
   rfl
  rw [this] at h2
  cases h2
 | cons t ts=>
  simp only
  rw [h2]
  simp only [bnd]
  have hw:aM (cH pre n0).size [⟨#[]⟩] []=.ok (⟨#[]⟩,[]):=by
   unfold aM
   rw [if_pos (show nx (hd (cH pre n0).size []).tx [⟨#[]⟩]=true from (fq _ _).2 (by simp [hd]))]
   rfl
  rw [hw]
  simp only
  rw [hs]
theorem jx {rd:R1} {pf:P1} {ckF:List Co->ByteArray->Except Nat Int} (hN:AF rd) (hX:Br pf) (hNC:BC rd) (hXC:CW pf) {nodes:List aJ} (h:Jb rd pf ckF nodes) (tl:List ByteArray):∀ i,i<=nodes.length->da rd pf ckF ((nodes.drop (nodes.length-i)).map (cH nodes)++tl) (nodes.take (nodes.length-i)) (nodes.length-i)=da rd pf ckF tl nodes nodes.length
 | 0,_=>by simp
 | i+1,hi=>by
  have ih:=jx hN hX hNC hXC h tl i (by omega)
  have hlt:nodes.length-(i+1)<nodes.length:=by omega
  obtain ⟨n0,a1,a2,a3⟩:=nT h _ hlt
  have e1:nodes.length-(i+1)+1=nodes.length-i:=by omega
  rw [List.drop_eq_getElem_cons hlt,List.map_cons,List.cons_append,da,e1]
  obtain ⟨_,cs,_,hn,_⟩:=fd a2
  have e2:cH nodes nodes[nodes.length-(i+1)]=cH (nodes.take (nodes.length-(i+1))) n0:=by
   rw [hn,mM]
   conv=>lhs;rw [<-List.take_append_drop (nodes.length-(i+1)) nodes]
   exact t7 a1
  rw [e2,kh (BL hNC hXC a1),kS hN hX a1 a2]
  simp only
  rw [List.take_append_getElem hlt,e1]
  exact ih
theorem ru {nodes:List aJ} {tl:List UInt8} (ht:∀ x∈tl,x≠10):∀ l:List aJ,(∀ n∈l,eV (cH nodes n))->iF (j8 nodes l++tl)=l.map (fun n=>(cH nodes n).data.toList)++[tl]
 | [],_=>ij ht
 | n::l,h=>by
  rw [j8,List.append_assoc,List.cons_append,iP (fun x hx=>(h n (by simp) x hx).1),ru ht l (fun m hm=>h m (by simp [hm]))]
  rfl
theorem Bm {rd:R1} {pf:P1} {ckF:List Co->ByteArray->Except Nat Int} (hNC:BC rd) (hXC:CW pf) {nodes:List aJ} (h:Jb rd pf ckF nodes):∀ n∈nodes,eV (cH nodes n):=fun n hn=>by
 obtain ⟨i,hi,rfl⟩:=List.getElem_of_mem hn
 obtain ⟨n0,a1,a2,a3⟩:=nT h _ hi
 obtain ⟨_,cs,_,hn,_⟩:=fd a2
 rw [hn,mM]
 have:cH nodes n0=cH (nodes.take i) n0:=by
  conv=>lhs;rw [<-List.take_append_drop i nodes]
  exact t7 a1
 rw [this]
 exact BL hNC hXC a1
theorem ud {nodes:List aJ} {tl:ByteArray} (ht:∀ x∈tl.data.toList,x≠10) (hc:∀ n∈nodes,eV (cH nodes n)) {s:ByteArray} (hs:s.data.toList=j8 nodes nodes++tl.data.toList):bZ s=nodes.map (cH nodes)++[tl]:=by
 have h1:=ju s
 rw [hs,ru ht nodes hc] at h1
 have inj:∀ a b:List ByteArray,a.map (·.data.toList)=b.map (·.data.toList)->a=b:=by
  intro a
  induction a with
  | nil=>intro b hb;cases b with
   | nil=>rfl
   | cons y b=>simp at hb
  | cons x a ih=>intro b hb;cases b with
   | nil=>simp at hb
   | cons y b=>
    simp only [List.map_cons,List.cons.injEq] at hb
    rw [ih b hb.2]
    congr 1
    apply ByteArray.ext
    exact Array.toList_inj.1 hb.1
 apply inj
 rw [h1,List.map_append,List.map_map]
 rfl
theorem zF {rd:R1} {pf:P1} {ckF:List Co->ByteArray->Except Nat Int} (hN:AF rd) (hX:Br pf) (hNC:BC rd) (hXC:CW pf) {nodes:List aJ} (h:Jb rd pf ckF nodes) {s:ByteArray} (hs:s.data.toList=j8 nodes nodes) (hz:s.size<=2900):bV rd pf ckF s=.ok nodes:=by
 have hl:=ud (nodes:=nodes) (tl:=⟨#[]⟩) (fun x hx=>by cases hx) (Bm hNC hXC h) (s:=s) (by rw [hs];simp)
 unfold bV
 rw [if_neg (by omega),hl]
 have:=jx hN hX hNC hXC h [⟨#[]⟩] nodes.length lR
 rw [Nat.sub_self,List.drop_zero,List.take_zero] at this
 rw [this,da]
 have e:dM rd pf ckF nodes (dH ⟨#[]⟩)=.ok nodes:=by
  have:dH ⟨#[]⟩=⟨#[]⟩:=kh gN
  rw [this]
  rfl
 rw [e]
 rfl
theorem wi {rd:R1} {pf:P1} {ckF:List Co->ByteArray->Except Nat Int} (nodes:List aJ):dM rd pf ckF nodes ⟨#[115,105,110,107,32,61,32,51]⟩=.error 1:=by
 have h:Rd (⟨#[115,105,110,107,32,61,32,51]⟩:ByteArray).data.toList (fun line u=>∃ q1 q2 u',u=⟨q1,1,cA⟩::⟨q2,4,aH⟩::u'):=by
  have:=(Rd.one oy).two ((Rd.one gJ).two (Rd.one (show Bp.TkOk 2 ⟨#[51]⟩ from bS (c:=51) (r:=[]) rfl (by decide) (by decide))))
  refine Rd.mono (Φ:=_) this fun line u hu=>?_
  obtain ⟨u1,u2,rfl,⟨q,rfl⟩,u3,u4,rfl,⟨q3,rfl⟩,q4,rfl⟩:=hu
  exact ⟨q,q3,_,rfl⟩
 obtain ⟨ts,h1,q1,q2,u',rfl⟩:=h.line
 unfold dM
 rw [h1]
 simp only
 have e:dx rd pf nodes ⟨#[115,105,110,107,32,61,32,51]⟩ (⟨q1,1,cA⟩::⟨q2,4,aH⟩::u')=.error 1:=by
  unfold dx
  rw [eZ (by show cA≠aX;decide)]
  simp only
  rw [gw]
  simp only
  have e3:bm (⟨#[115,105,110,107,32,61,32,51]⟩:ByteArray).size (⟨q2,4,aH⟩::u')=.error 1:=by
   unfold bm
   rw [if_neg (by rintro ⟨h,_⟩;exact absurd (show (4:Nat)=1 from h) (by decide)),if_neg (by rintro ⟨h,_⟩;exact absurd (show pg aH=true from h) (by decide))]
  rw [e3]
  rfl
 rw [e]
 rfl
theorem Ao {rd:R1} {pf:P1} {ckF:List Co->ByteArray->Except Nat Int} (hN:AF rd) (hX:Br pf) (hNC:BC rd) (hXC:CW pf) {nodes:List aJ} (h:Jb rd pf ckF nodes) {s:ByteArray} (hs:s.data.toList=j8 nodes nodes++[115,105,110,107,32,61,32,51]) (hz:s.size<=2908):bV rd pf ckF s=.error (nodes.length+1,1):=by
 have hl:=ud (nodes:=nodes) (tl:=⟨#[115,105,110,107,32,61,32,51]⟩) (by decide) (Bm hNC hXC h) (s:=s) hs
 unfold bV
 rw [if_neg (by omega),hl]
 have:=jx hN hX hNC hXC h [⟨#[115,105,110,107,32,61,32,51]⟩] nodes.length lR
 rw [Nat.sub_self,List.drop_zero,List.take_zero] at this
 rw [this,da]
 have e:dH ⟨#[115,105,110,107,32,61,32,51]⟩=⟨#[115,105,110,107,32,61,32,51]⟩:=kh (by decide)
 rw [e,wi]
theorem qY (nodes:List aJ) (n:aJ):∀ l:List aJ,j8 nodes (l++[n])=j8 nodes l++((cH nodes n).data.toList++[10])
 | []=>by simp [j8]
 | m::l=>by rw [List.cons_append,j8,j8,qY nodes n l];simp
theorem sA {l:List ByteArray} (hl:l.length<=8) (h:∀ x∈l,x.size<=100000000):(aE l).size<=1000000000:=by
 have h1:=aV (M:=100000000) l h
 have h2:l.length*(100000000+1)<=8*(100000000+1):=Nat.mul_le_mul_right _ hl
 exact Nat.le_trans h1 (Nat.le_trans h2 (by decide))
theorem zj {rd:R1} {pf:P1} (hr:wT rd) {pre:List aJ} {n0:aJ} (h:jV rd pf pre n0) (hg:∀ m∈pre,bP m.cols) {nodes:List aJ} (hn:∀ i,(cg nodes i).size<=12):(cH nodes n0).size<=1000000000:=by
 have hh:∀ {nm:ByteArray} {i:Int},iX nm->(aE [nm,aH,cg nodes i]).size<=1000:=fun {nm i} h1=>by
  have q1:=bD h1
  have q2:=hn i
  have q3:aH.size=1:=rfl
  have:=aV (M:=12) [nm,aH,cg nodes i] (fun x hx=>by simp at hx;rcases hx with rfl | rfl | rfl<;>omega)
  simp at this;omega
 cases h with
 | stream nm cs bd h1 h2 h3 h4 h5=>
  have e:cH nodes ⟨nm,{ aB with k:=1,c:=cs },[],[],bd⟩=aE [aX,nm,jb++cy cs++ii,cC bd]:=rfl
  rw [e]
  refine sA (by simp) fun x hx=>?_
  have q0:=bD h1
  have q1:=lf (l:=cs) (by omega) (fun x hx=>bD (h4 x hx).1)
  have hb:-9223372036854775808<=bd/\bd<=9223372036854775807:=by
   rcases h5 with rfl | h5
   ·decide
   ·exact lV hr h5
  have q2:=ke hb
  have q3:aX.size=6:=rfl
  have q4:(jb++cy cs++ii).size=1+(cy cs).size+1:=by rw [ByteArray.size_append,ByteArray.size_append];rfl
  simp only [List.mem_cons,List.not_mem_nil,or_false] at hx
  rcases hx with rfl | rfl | rfl | rfl
  ·omega
  ·omega
  ·rw [q4];omega
  ·omega
 | sink nm i h1 h2=>
  have e:cH nodes ⟨nm,{ aB with k:=7,c:=ak pre i },[i],[],0⟩=aE [cA,aE [nm,aH,cg nodes i]]:=rfl
  rw [e]
  have q1:=hh (i:=i) h1
  have q3:cA.size=4:=rfl
  exact sA (by simp) fun x hx=>by simp at hx;rcases hx with rfl | rfl<;>omega
 | wher nm i x h1 h2 h3=>
  have e:cH nodes ⟨nm,{ aB with k:=2,c:=ak pre i,ex:=[x] },[i],[],0⟩=aE [aE [nm,aH,cg nodes i],ey,x]:=rfl
  rw [e]
  obtain ⟨_,_,_,hx⟩:=h3
  have q1:=hh (i:=i) h1
  have q3:ey.size=5:=rfl
  exact sA (by simp) fun x hx=>by simp at hx;rcases hx with rfl | rfl | rfl<;>omega
 | selct nm i l h1 h2 h3 h4 h5=>
  have e:cH nodes ⟨nm,{ aB with k:=3,c:=ak pre i,ex:=l.map (·.2),nm:=l.map (·.1) },[i],[],0⟩=aE [aE [nm,aH,cg nodes i],dl,cE ((l.map (·.2)).zip (l.map (·.1)))]:=rfl
  rw [e,oY]
  have q1:=hh (i:=i) h1
  have q2:=jA (l:=l.map fun p=>(p.2,p.1)) (by simp;omega) (fun p hp=>by
   obtain ⟨r,hr',rfl⟩:=List.mem_map.1 hp
   obtain ⟨_,_,_,hx⟩:=(h5 r hr').2
   have:=bD (h5 r hr').1
   exact ⟨by show r.2.size<=300;omega,by show r.1.size<=300;omega⟩)
  have q3:dl.size=6:=rfl
  exact sA (by simp) fun x hx=>by simp at hx;rcases hx with rfl | rfl | rfl<;>omega
 | wind nm i ks v l h1 h2 h3 h4 h5 h6 h7=>
  have e:cH nodes ⟨nm,{ aB with k:=4,c:=ak pre i,nm:=l.map (·.1),ks:=ks,wk:=v.1,ws:=v.2.1,wt:=v.2.2,ag:=l.map (·.2) },[i],[],0⟩=aE [aE [nm,aH,cg nodes i],pR,co (ak pre i) ks,bQ v.1 v.2.1 v.2.2,cU (ak pre i) (l.map (·.2)) (l.map (·.1))]:=rfl
  rw [e]
  obtain ⟨x1,x2⟩:=bB hg i
  have q1:=hh (i:=i) h1
  have q2:=le (c:=ak pre i) (ks:=ks) (by omega) x2
  have q4:=il (k:=v.1) (eI hr h6).1 (eI hr h6).2
  have q5:=li (c:=ak pre i) (ag:=l.map fun p=>p.2) (nm:=l.map fun p=>p.1) (by simp;omega) x2 (fun x hx=>by
   obtain ⟨p,hp,rfl⟩:=List.mem_map.1 hx
   exact bD (h7 p hp).1)
  have q3:pR.size=2:=rfl
  exact sA (by simp) fun x hx=>by simp at hx;rcases hx with rfl | rfl | rfl | rfl | rfl<;>omega
 | union nm i l h1 h2 h3 h4 h5 h6=>
  have e:cH nodes ⟨nm,{ aB with k:=6,c:=ak pre i },i::l,[],0⟩=aE [aE [nm,aH,cg nodes i],eh,jn eL (l.map (cg nodes))]:=rfl
  rw [e]
  have q1:=hh (i:=i) h1
  have q2:(jn eL (l.map (cg nodes))).size<=100000:=by
   have:=dP (M:=12) eL (l.map (cg nodes)) (fun y hy=>by
    obtain ⟨i,hi,rfl⟩:=List.mem_map.1 hy
    exact hn i)
   have h2:eL.size=2:=rfl
   rw [List.length_map,h2] at this
   have h3:l.length*14<=3002*14:=Nat.mul_le_mul_right _ (by omega)
   omega
  have q3:eh.size=5:=rfl
  exact sA (by simp) fun x hx=>by simp at hx;rcases hx with rfl | rfl | rfl<;>omega
 | join nm i j ou l v h1 h2 h3 h4 h5 h6 h7=>
  have e:cH nodes ⟨nm,{ aB with k:=5,c:=ak pre i,r:=ak pre j,ks:=l.map (·.1),os:=l.map (·.2),wk:=v.1,ws:=v.2.1,wt:=v.2.2,ou:=ou },[i,j],[],0⟩=aE [aE [nm,aH,cg nodes i],dF ou,eN,cg nodes j,rX,cG (ak pre i) (ak pre j) ((l.map (·.1)).zip (l.map (·.2))),bQ v.1 v.2.1 v.2.2]:=rfl
  rw [e,oM]
  obtain ⟨x1,x2⟩:=bB hg i
  obtain ⟨y1,y2⟩:=bB hg j
  have q1:=hh (i:=i) h1
  have q2:=jN (c:=ak pre i) (r:=ak pre j) (l:=l) (by omega) x2 y2
  have q4:=il (k:=v.1) (eI hr h7).1 (eI hr h7).2
  have q5:(dF ou).size<=5:=by cases ou<;>decide
  have q6:=hn j
  have q3:eN.size=4:=rfl
  have q7:rX.size=2:=rfl
  exact sA (by simp) fun x hx=>by simp at hx;rcases hx with rfl | rfl | rfl | rfl | rfl | rfl | rfl<;>omega
theorem un {nodes:List aJ}:∀ l:List aJ,(∀ n∈l,(cH nodes n).size<=1000000000)->(j8 nodes l).length<=l.length*1000000001
 | [],_=>Nat.zero_le _
 | n::l,h=>by
  have h1:=h n (by simp)
  have ih:=un l (fun m hm=>h m (by simp [hm]))
  have e:(cH nodes n).data.toList.length=(cH nodes n).size:=by simp
  rw [j8,List.length_append,List.length_cons,List.length_cons,e,Nat.add_mul]
  omega
theorem BX {rd:R1} {pf:P1} {pre:List aJ} {n:aJ} (h:jV rd pf pre n):iX n.nm:=by
 cases h<;>assumption
theorem ry {B b:Nat} {bs:List Value} {w w':World} (h:Bu B b bs w) (hb:Below w.heap.size w w'):Bu B b bs w':=by
 rcases h with ⟨h1,v,h2,h3,h4⟩ | ⟨h1,v,h2,h3,h4⟩
 ·exact .inl ⟨h1,v,by rw [hb.block b (jP h2)];exact h2,aO h3 hb,h4⟩
 ·exact .inr ⟨h1,v,by rw [hb.block b (jP h2)];exact h2,aO h3 hb,h4⟩
theorem Cb (w:World):Bu w.heap.size w.heap.size [] (w.alloc (.cells #[.pointer none,.slice none 0 0] 66)):=
 .inl ⟨lR,.slice none 0 0,(aD.new w 66 2 #[.pointer none,.slice none 0 0] rfl).row,World.ownsRow_nil _ _ _ _,by simp [Value.ownBlock]⟩
theorem rm (nodes:List aJ) (k:Nat):∀ W,Bu (k+1) (k+1) (Lib.byteCells (j8 nodes nodes)) W->k+1<=W.heap.size->Calls Tryz.prog 23 #[.pointer (some ⟨k+1,0,none⟩)] W fun e w'=>e=.returned (.string ⟨(j8 nodes nodes).toArray⟩)/\Below (k+1) W w':=fun W h hB=>Tryz.Builder_String_any (k+1) (k+1) (j8 nodes nodes) W h hB
def EE (w:World) (o:Except (Nat × Nat) (List aJ)) (e:Ending) (w':World):Prop:=Below w.heap.size w w'/\match o with
 | .ok nodes=>e=.returned (.tuple #[.string ⟨(j8 nodes nodes).toArray⟩,.int .i64 0,.nilIface])
 | .error p=>e=.returned (.tuple #[.string ⟨#[]⟩,.int .i64 p.1,.iface 37 (.int .i64 p.2)])
theorem sP {rd:R1} {pf:P1} {ckF:List Co->ByteArray->Except Nat Int} (s:ByteArray) (m:Int) (w:World)
 (hE:lz w rd pf ckF) (hm:w.cell? ⟨1,0,none⟩=some (.int .i64 m)) (hT:Vl.Tab w) (hs:s.size<=140737488355328) :
 Calls Tryz.prog 10 #[.string s] w (EE w (bV rd pf ckF s)):=by
 have HPA:=jg (parse_any s m w hE hm hs)
 have HJB:=jg (fun nodes (h:bV rd pf ckF s=.ok nodes)=>Bh h)
 have HRG:=jg hE.fg
 have HT:=jg hT
 generalize bV rd pf ckF s=O at *
 go_in
 go_wp2_with fail
 refine HPA.out.mono ?_
 rintro e w1 ⟨hb1,hr⟩
 have HB1:=jg hb1
 have HT1:=jg (Vl.Tab.later HT.out hb1)
 cases O with
 | error p=>
  simp only at hr
  subst hr
  go_wp2_with fail
  refine bodyPost_ret (v:=.tuple #[.string ⟨#[]⟩,.int .i64 p.1,.iface 37 (.int .i64 p.2)]) (by simp [results,Tryz.results10,go_sem];try rfl) rfl ?_
  refine ⟨?_,rfl⟩
  exact HB1.out.trans ((ae w1 _).mono HB1.out.size)
 | ok nodes=>
  obtain ⟨a,c,ps,hpe,rfl,hnl,hgd,hcap⟩:=hr
  have HJ:=jg (HJB.out nodes rfl)
  have HNL:=jg hnl
  have HGD:=jg hgd
  have HCAP:=jg hcap
  have HPE:=jg hpe
  have hlen:nodes.length=ps.length:=by rw [<-hpe];simp
  have hgl:=hgd.len
  have HNM:Hid (∀ q∈ps,q.1.nm.size<=12):=fun q hq=>by
   have hm:q.1∈nodes:=by rw [<-hpe];exact List.mem_map_of_mem hq
   obtain ⟨i,hi,e⟩:=List.getElem_of_mem hm
   obtain ⟨n0,a1,a2,_⟩:=nT (HJB.out nodes rfl) i hi
   obtain ⟨_,cs,_,hn,_⟩:=fd a2
   rw [<-e,hn]
   show n0.nm.size<=12
   exact bD (BX a1)
  have HNN:Hid (∀ i,(cg nodes i).size<=12):=fun i=>by
   unfold cg
   cases hh:nodes[i.toNat]? with
   | none=>decide
   | some x=>
    have hm:=List.mem_of_getElem? hh
    rw [<-hpe] at hm
    obtain ⟨q,hq,rfl⟩:=List.mem_map.1 hm
    exact HNM.out q hq
  have HWZ:Hid (∀ n∈nodes,(cH nodes n).size<=1000000000):=fun n hn=>by
   obtain ⟨i,hi,rfl⟩:=List.getElem_of_mem hn
   obtain ⟨n0,a1,a2,a3⟩:=nT (HJB.out nodes rfl) i hi
   obtain ⟨_,cs,_,hn',_⟩:=fd a2
   rw [hn',mM]
   exact zj HRG.out a1 (xx HRG.out a3).cx HNN.out
  have HWR:Hid (∀ j (hj:j<ps.length) W,Below w1.heap.size w1 W->Calls Tryz.prog 21 #[.agg (au ps[j].1 ps[j].2).toArray,.slice a ps.length c] W fun e w'=>e=.returned (.string (cH nodes ps[j].1))/\Below W.heap.size W w'):=fun j hj W hW=>by
   have hj':j<nodes.length:=by omega
   have epj:nodes[j]=ps[j].1:=by simp only [<-hpe,List.getElem_map]
   obtain ⟨n0,a1,a2,a3⟩:=nT (HJB.out nodes rfl) j hj'
   obtain ⟨_,cs,_,hn',_⟩:=fd a2
   rw [epj] at hn'
   obtain ⟨b,off,e,d1,d2⟩:=HNL.out j hj
   have hcp:=HCAP.out ps[j] (List.getElem_mem hj)
   have hd2:=d2.later hW
   rw [hn'] at hcp hd2 ⊢
   rw [<-hpe]
   exact pS HRG.out (nodes.take j) n0 cs a1 (xx HRG.out a3).cx ps[j].2 hcp ps a c W hd2 (HNL.out.later hW) (Vl.Tab.later HT1.out hW) (by omega) HNM.out (by simp;omega)
  go_upto_region 4 with fail
  have HBJ:Hid (Below w1.heap.size w1 (w1.alloc (.cells #[.slice a ps.length c] 24))):=ae _ _
  have HOJ:=jg (aD.new w1 24 1 #[.slice a ps.length c] rfl)
  have HBU:=jg (Cb (w1.alloc (.cells #[.slice a ps.length c] 24)))
  rw [show (w1.alloc (.cells #[.slice a ps.length c] 24)).heap.size=w1.heap.size+1 by simp] at HBU
  have HB3:Hid (Below w1.heap.size w1 ((w1.alloc (.cells #[.slice a ps.length c] 24)).alloc (.cells #[.pointer none,.slice none 0 0] 66))):=HBJ.out.trans ((ae _ _).mono HBJ.out.size)
  have HOJ3:Hid (aD ((w1.alloc (.cells #[.slice a ps.length c] 24)).alloc (.cells #[.pointer none,.slice none 0 0] 66)) w1.heap.size 24 1 [.slice a ps.length c]):=HOJ.out.later (ae _ _)
  have hs3:((w1.alloc (.cells #[.slice a ps.length c] 24)).alloc (.cells #[.pointer none,.slice none 0 0] 66)).heap.size=w1.heap.size+2:=by simp
  go_upto_region 5 with fail
  generalize (w1.alloc (.cells #[.slice a ps.length c] 24)).alloc (.cells #[.pointer none,.slice none 0 0] 66)=W3 at *
  have cj:=HOJ3.out.c 0 rfl
  have hjl:=HOJ3.out.lt
  have HS3:=jg hs3
  have HBS:=jg (rm nodes w1.heap.size)
  go_wp2_with fail
  go_loopg [24] ps.length (fun gk i wr=>∃ j:Nat,gk+j=ps.length/\i=.int .i64 j/\Bu (w1.heap.size+1) (w1.heap.size+1) (Lib.byteCells (j8 nodes (nodes.take j))) wr/\Below (w1.heap.size+1) W3 wr)
  case atStart=>exact ⟨0,by omega,rfl,HBU.out,bR⟩
  case round=>
   obtain ⟨j,hgk,rfl,hbu,hbr⟩:=hrel
   have HBUJ:=jg hbu
   have HBR:=jg hbr
   have hsz:=hbr.size
   have HS3':=HS3.out
   have HB1R:=jg (HB3.out.trans ⟨hbr.os,hbr.tape,hbr.output,hbr.size,fun i hi=>hbr.block i (by omega)⟩)
   have cjr:=(World.cell?_of_block (hbr.block w1.heap.size (by omega))).trans cj
   have hjr:=bL cjr
   by_cases hlt:j<ps.length
   ·have hji:(j:Int)<(ps.length:Int):=by omega
    have hjn:j<nodes.length:=by omega
    obtain ⟨b,off,ha,dd,-⟩:=(HNL.out.later HB1R.out) j hlt
    have HTK:Hid (j8 nodes (nodes.take (j+1))=j8 nodes (nodes.take j)++((cH nodes ps[j].1).data.toList++[10])):=by
     have epj:nodes[j]=ps[j].1:=by have:=HPE.out;simp only [<-this,List.getElem_map]
     rw [Hid,List.take_succ_eq_append_getElem hjn,qY,epj]
    have HZJ:Hid ((j8 nodes (nodes.take j)).length<=16*1000000001):=by
     have h1:=un (nodes:=nodes) (nodes.take j) (fun n hn=>HWZ.out n (List.mem_of_mem_take hn))
     have h2:(nodes.take j).length*1000000001<=16*1000000001:=Nat.mul_le_mul_right _ (by rw [List.length_take];omega)
     exact Nat.le_trans h1 h2
    have hwz:=HWZ.out ps[j].1 (by rw [<-HPE.out];exact List.mem_map_of_mem (List.getElem_mem hlt))
    have hW:=HWR.out j hlt
    rw [ha] at hW cj cjr
    subst ha
    have d0:wr.cell? ⟨b,off+j*16,none⟩=some (.string ps[j].1.nm):=dd 0 _ rfl
    have d1:=dd 1 _ rfl
    have d2:=dd 2 _ rfl
    have d3:=dd 3 _ rfl
    have d4:=dd 4 _ rfl
    have d5:=dd 5 _ rfl
    have d6:=dd 6 _ rfl
    have d7:=dd 7 _ rfl
    have d8:=dd 8 _ rfl
    have d9:=dd 9 _ rfl
    have d10:=dd 10 _ rfl
    have d11:=dd 11 _ rfl
    have d12:=dd 12 _ rfl
    have d13:=dd 13 _ rfl
    have d14:=dd 14 _ rfl
    have d15:=dd 15 _ rfl
    rw [ym] at hW
    have HW:=jg hW
    have hbl:=bL d0
    have HON:=jg (aD.new wr 61 16 #[.string ps[j].1.nm,.int .i64 ps[j].1.op.k,.slice ps[j].2.p.ea ps[j].1.op.ex.length ps[j].2.p.ec,.slice ps[j].2.p.na ps[j].1.op.nm.length ps[j].2.p.nc,.slice ps[j].2.p.ca ps[j].1.op.c.length ps[j].2.p.cc,.slice ps[j].2.p.ra ps[j].1.op.r.length ps[j].2.p.rc,.slice ps[j].2.p.ka ps[j].1.op.ks.length ps[j].2.p.kc,.slice ps[j].2.p.oa ps[j].1.op.os.length ps[j].2.p.oc,.int .i64 ps[j].1.op.wk,.int .i64 ps[j].1.op.ws,.int .i64 ps[j].1.op.wt,.slice ps[j].2.p.ga ps[j].1.op.ag.length ps[j].2.p.gc,.bool ps[j].1.op.ou,.slice ps[j].2.ia ps[j].1.ins.length ps[j].2.ic,.slice ps[j].2.ka ps[j].1.cols.length ps[j].2.kc,.int .i64 ps[j].1.bd] rfl)
    have HBW:Hid (Below wr.heap.size wr (wr.alloc (.cells #[.string ps[j].1.nm,.int .i64 ps[j].1.op.k,.slice ps[j].2.p.ea ps[j].1.op.ex.length ps[j].2.p.ec,.slice ps[j].2.p.na ps[j].1.op.nm.length ps[j].2.p.nc,.slice ps[j].2.p.ca ps[j].1.op.c.length ps[j].2.p.cc,.slice ps[j].2.p.ra ps[j].1.op.r.length ps[j].2.p.rc,.slice ps[j].2.p.ka ps[j].1.op.ks.length ps[j].2.p.kc,.slice ps[j].2.p.oa ps[j].1.op.os.length ps[j].2.p.oc,.int .i64 ps[j].1.op.wk,.int .i64 ps[j].1.op.ws,.int .i64 ps[j].1.op.wt,.slice ps[j].2.p.ga ps[j].1.op.ag.length ps[j].2.p.gc,.bool ps[j].1.op.ou,.slice ps[j].2.ia ps[j].1.ins.length ps[j].2.ic,.slice ps[j].2.ka ps[j].1.cols.length ps[j].2.kc,.int .i64 ps[j].1.bd] 61))):=ae _ _
    generalize cH nodes ps[j].1=LN at *
    go_upto_region 8 with fail
    generalize wr.alloc (.cells #[.string ps[j].1.nm,.int .i64 ps[j].1.op.k,.slice ps[j].2.p.ea ps[j].1.op.ex.length ps[j].2.p.ec,.slice ps[j].2.p.na ps[j].1.op.nm.length ps[j].2.p.nc,.slice ps[j].2.p.ca ps[j].1.op.c.length ps[j].2.p.cc,.slice ps[j].2.p.ra ps[j].1.op.r.length ps[j].2.p.rc,.slice ps[j].2.p.ka ps[j].1.op.ks.length ps[j].2.p.kc,.slice ps[j].2.p.oa ps[j].1.op.os.length ps[j].2.p.oc,.int .i64 ps[j].1.op.wk,.int .i64 ps[j].1.op.ws,.int .i64 ps[j].1.op.wt,.slice ps[j].2.p.ga ps[j].1.op.ag.length ps[j].2.p.gc,.bool ps[j].1.op.ou,.slice ps[j].2.ia ps[j].1.ins.length ps[j].2.ic,.slice ps[j].2.ka ps[j].1.cols.length ps[j].2.kc,.int .i64 ps[j].1.bd] 61)=W8 at *
    have e0:=HON.out.c 0 rfl
    have e1:=HON.out.c 1 rfl
    have e2:=HON.out.c 2 rfl
    have e3:=HON.out.c 3 rfl
    have e4:=HON.out.c 4 rfl
    have e5:=HON.out.c 5 rfl
    have e6:=HON.out.c 6 rfl
    have e7:=HON.out.c 7 rfl
    have e8:=HON.out.c 8 rfl
    have e9:=HON.out.c 9 rfl
    have e10:=HON.out.c 10 rfl
    have e11:=HON.out.c 11 rfl
    have e12:=HON.out.c 12 rfl
    have e13:=HON.out.c 13 rfl
    have e14:=HON.out.c 14 rfl
    have e15:=HON.out.c 15 rfl
    have cj8:=af HBW.out cjr
    have hl8:=HON.out.lt
    have HB18:=jg (HB1R.out.trans (HBW.out.mono HB1R.out.size))
    have HBR8:=jg (HBR.out.trans (HBW.out.mono (by omega)))
    have HBU8:=jg (ry HBUJ.out HBW.out)
    go_wp2_with fail
    refine (HW.out W8 HB18.out).mono ?_
    rintro e w9 ⟨rfl,hb9⟩
    have HBU9:=jg (ry HBU8.out hb9)
    have HBR9:=jg (HBR8.out.trans (hb9.mono (by omega)))
    have hw9:=hb9.size
    go_wp2_with fail
    refine (DW (w1.heap.size+1) (w1.heap.size+1) _ LN w9 HBU9.out (by rw [Lib.byteCells_length];have:=HZJ.out;omega) (by omega)).mono ?_
    rintro e w10 ⟨rfl,h10,b10,-⟩
    have HBU10:=jg h10
    have HBR10:=jg (HBR9.out.trans (b10.mono (by omega)))
    have hw10:=b10.size
    go_wp2_with fail
    refine (CR (w1.heap.size+1) (w1.heap.size+1) _ 10 w10 (.inr HBU10.out) (by rw [List.length_append,Lib.byteCells_length,Lib.strCells_length];have:=HZJ.out;omega) (by omega)).mono ?_
    rintro e w11 ⟨rfl,h11,b11,-⟩
    have HBU11:Hid (Bu (w1.heap.size+1) (w1.heap.size+1) (Lib.byteCells (j8 nodes (nodes.take (j+1)))) w11):=by
     rw [HTK.out]
     have e:Lib.byteCells (j8 nodes (nodes.take j))++Lib.strCells LN++[.int .u8 10]=Lib.byteCells (j8 nodes (nodes.take j)++(LN.data.toList++[10])):=by
      rw [<-nI,<-nI,<-List.append_assoc]
      rfl
     rw [<-e]
     exact .inr h11
    have HBR11:=jg (HBR10.out.trans (b11.mono (by omega)))
    go_wp2_with fail
    go_roundg (gk-1)
    case measure=>omega
    case rel=>exact ⟨j+1,by omega,by go_num,HBU11.out,HBR11.out⟩
   ·obtain rfl:j=ps.length:=by omega
    have hji:¬ ((ps.length:Nat):Int)<(ps.length:Int):=by omega
    have HST:=jg (HBS.out wr (by
     have h:=HBUJ.out
     rw [List.take_of_length_le (by omega)] at h
     exact h) (by omega))
    go_wp2_with fail
    refine HST.out.mono ?_
    rintro e w2 ⟨rfl,hb2⟩
    have HBF:Hid (Below w.heap.size w w2):=by
     have h1:=HB1R.out.trans ⟨hb2.os,hb2.tape,hb2.output,hb2.size,fun i hi=>hb2.block i (by omega)⟩
     exact HB1.out.trans (h1.mono HB1.out.size)
    go_wp2_with fail
    refine bodyPost_ret (v:=.tuple #[.string ⟨(j8 nodes nodes).toArray⟩,.int .i64 0,.nilIface]) (by simp [results,Tryz.results10,go_sem];try rfl) rfl ?_
    exact ⟨HBF.out,rfl⟩
def DJ (e:Value) (n:Int):Prop:=(e=.nilIface/\n=0)\/e=.iface 37 (.int .i64 n)
def zS:ByteArray:=⟨#[115,116,114,101,97,109,32,115,32,40,97,32,105,110,116,41,10,115,105,110,107,32,116,32,61,32,115]⟩
def wO:aJ:=⟨⟨#[115]⟩,{ aB with k:=1,c:=[⟨⟨#[97]⟩,1⟩] },[],[],0⟩
def zL:aJ:=⟨⟨#[115]⟩,{ aB with k:=1,c:=[⟨⟨#[97]⟩,1⟩] },[],[⟨⟨#[97]⟩,1⟩],0⟩
def wS:aJ:=⟨⟨#[116]⟩,{ aB with k:=7,c:=[⟨⟨#[97]⟩,1⟩] },[0],[],0⟩
def Er:aJ:=⟨⟨#[116]⟩,{ aB with k:=7,c:=[⟨⟨#[97]⟩,1⟩] },[0],[⟨⟨#[97]⟩,1⟩],0⟩
theorem cX:bP [⟨⟨#[97]⟩,1⟩]:=⟨by decide,fun i hi=>by
 have:i=0:=by simpa using hi
 subst this
 exact (show nt [⟨⟨#[97]⟩,1⟩] 0 ⟨⟨#[97]⟩,1⟩ from ⟨by decide,by decide,.inl rfl⟩)⟩
theorem Fa:bP []:=⟨by decide,fun i hi=>absurd hi (by simp)⟩
theorem EU (ck:ByteArray->Except Nat Int):ix ck [] wO=.ok zL:=by
 unfold ix
 rw [if_neg (by decide)]
 have:eC ck wO=.ok [⟨⟨#[97]⟩,1⟩]:=by
  unfold eC
  rw [if_pos (show wO.op.k=1 from rfl)]
  have:po wO.op.c wO.bd=none:=by
   unfold po
   rw [if_neg (by decide),if_pos (show bP wO.op.c from cX),if_neg (by decide)]
  rw [this]
  rfl
 rw [this]
 simp only
 rw [if_neg (by decide)]
 rfl
theorem E7 (ck:ByteArray->Except Nat Int):ix ck [zL] wS=.ok Er:=by
 unfold ix
 rw [if_neg (by decide)]
 have:eC ck wS=.ok [⟨⟨#[97]⟩,1⟩]:=by
  unfold eC
  rw [if_neg (by decide)]
  unfold gf
  rw [if_pos (show bP wS.op.c/\bP wS.op.r/\cT wS.op=true from ⟨cX,Fa,by decide⟩)]
  have:ji ck wS.op=.ok [⟨⟨#[97]⟩,1⟩]:=by
   unfold ji
   rw [if_neg (by decide),if_neg (by decide),if_neg (by decide),if_neg (by decide)]
   rfl
  rw [this]
  simp only
  unfold gi
  rw [if_neg (by decide),if_pos cX]
 rw [this]
 simp only
 rw [if_neg (by decide)]
 rfl
theorem cJ {rd:R1} {pf:P1}:jV rd pf [] wO/\jV rd pf [zL] wS:=by
 constructor
 ·exact .stream ⟨#[115]⟩ [⟨⟨#[97]⟩,1⟩] 0 ⟨by decide,by decide⟩ (by simp) (by simp) (fun x hx=>by
   have:=List.mem_singleton.1 hx
   subst this
   exact ⟨⟨by decide,by decide⟩,.inl rfl⟩) (.inl rfl)
 ·exact .sink ⟨#[116]⟩ 0 ⟨by decide,by decide⟩ ⟨0,⟨#[115]⟩,rfl,⟨by decide,by decide⟩,by decide,by decide⟩
theorem CF {rd:R1} {pf:P1} {ckF:List Co->ByteArray->Except Nat Int} (hN:AF rd) (hX:Br pf):bV rd pf ckF zS=.ok [zL,Er]:=by
 have hl:bZ zS=[cH [] wO,cH [zL] wS]:=by
  have h1:=ju zS
  have e:zS.data.toList=(cH [] wO).data.toList++10::(cH [zL] wS).data.toList:=by decide +kernel
  rw [e,iP (by decide +kernel),ij (by decide +kernel)] at h1
  have hlen:(bZ zS).length=2:=by have:=congrArg List.length h1;simpa using this
  match hq:bZ zS,hlen with
  | [x,y],_=>
   rw [hq] at h1
   simp only [List.map_cons,List.map_nil,List.cons.injEq] at h1
   rw [show x=cH [] wO from ByteArray.ext (Array.toList_inj.1 h1.1),show y=cH [zL] wS from ByteArray.ext (Array.toList_inj.1 h1.2.1)]
 unfold bV
 rw [if_neg (by decide),hl,da]
 have s1:dH (cH [] wO)=cH [] wO:=kh (by decide +kernel)
 have s2:dH (cH [zL] wS)=cH [zL] wS:=kh (by decide +kernel)
 rw [s1,kS hN hX (cJ (rd:=rd) (pf:=pf)).1 (EU _)]
 simp only [List.nil_append]
 rw [da,s2,kS hN hX (cJ (rd:=rd) (pf:=pf)).2 (E7 _)]
 rfl
end Go.Proofs.YtiiliobffnhpmaaGreatDoor.Jp
