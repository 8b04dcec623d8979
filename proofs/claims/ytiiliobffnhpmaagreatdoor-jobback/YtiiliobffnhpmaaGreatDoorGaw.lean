import Derived.Test.YtiiliobffnhpmaaGreatDoorGav
set_option linter.all false
set_option maxRecDepth 100000
set_option maxHeartbeats 4000000
namespace Go.Proofs.YtiiliobffnhpmaaGreatDoor
namespace Jp
open Go.RowKit Oo
attribute [local go_sem] an
def ey:ByteArray:=⟨#[119,104,101,114,101]⟩
def dl:ByteArray:=⟨#[115,101,108,101,99,116]⟩
def pR:ByteArray:=⟨#[98,121]⟩
def eh:ByteArray:=⟨#[117,110,105,111,110]⟩
def kK:ByteArray:=⟨#[111,117,116,101,114]⟩
def eN:ByteArray:=⟨#[106,111,105,110]⟩
def ft:List ByteArray:=[ey,dl,pR,eh,kK,eN]
noncomputable def cS (rd:R1) (pf:P1) (nodes:List aJ) (cols:List Co) (first:Int) (line:ByteArray) (ts:List Tk):Except Nat ((eJ × List Int) × List Tk):=
 bnd (aM line.size ft ts) fun s ts=>
 if s=ey then bnd (eU pf line ts) fun x ts=>.ok (({ aB with k:=2,c:=cols,ex:=[x] },[first]),ts)
 else if s=dl then bnd (bg line.size (kF (eU pf line) line.size) dw ts) fun l ts=>.ok (({ aB with k:=3,c:=cols,ex:=l.map (·.2),nm:=l.map (·.1) },[first]),ts)
 else if s=pR then oS [first] (fX rd cols line.size ts)
 else if s=eh then jD nodes cols first line.size ts
 else if s=kK then bnd (aM line.size [eN] ts) fun _ ts=>jt rd nodes cols true first line.size ts
 else jt rd nodes cols false first line.size ts
theorem rU:∀ (ts:List Tk) (o q:Nat),(cW o q ts).2.length<=ts.length
 | [],o,q=>lR
 | t::ts,o,q=>by
  rw [cW]
  split
  ·exact lR
  ·exact Nat.le_trans (rU ts _ _) (by simp)
theorem zs {pf:P1} {line:ByteArray} {ts ts':List Tk} {x:ByteArray} (h:eU pf line ts=.ok (x,ts')):ts'.length<=ts.length:=by
 unfold eU at h
 split at h
 ·cases h
 ·split at h
  ·cases h
  ·cases h;exact rU _ _ _
theorem yD (a:Array Value) (W:World):(callFunc 139 a).run Tryz.prog W=.ok (.enter 139 a) W:=eP Tryz.func139 (by kernel_rfl) (by rfl) a W
theorem D0 (w:World):bu (w.alloc (.cells #[.string ⟨#[119,104,101,114,101]⟩,.string ⟨#[115,101,108,101,99,116]⟩,.string ⟨#[98,121]⟩,.string ⟨#[117,110,105,111,110]⟩,.string ⟨#[111,117,116,101,114]⟩,.string ⟨#[106,111,105,110]⟩] 9)) (some ⟨w.heap.size,0,none⟩) ft:=fun i hi=>by
 have hO:=aD.new w 9 6 #[.string ⟨#[119,104,101,114,101]⟩,.string ⟨#[115,101,108,101,99,116]⟩,.string ⟨#[98,121]⟩,.string ⟨#[117,110,105,111,110]⟩,.string ⟨#[111,117,116,101,114]⟩,.string ⟨#[106,111,105,110]⟩] rfl
 refine ⟨_,_,rfl,?_⟩
 rw [Nat.zero_add,hO.cell i hi]
 match i,hi with
 | 0,_=>rfl
 | 1,_=>rfl
 | 2,_=>rfl
 | 3,_=>rfl
 | 4,_=>rfl
 | 5,_=>rfl
theorem yb {rd:R1} {pf:P1} (c:LC) (hE:Ah c rd pf) (hln:c.line.size<=3000) (nodes:List aJ) (hnl:c.nN=nodes.length) (hnl2:nodes.length<=4096) (hnd:eG c.w0 c.aN nodes) (hnc:∀ n∈nodes,n.cols.length<=4096) (nb:Nat) (nm:ByteArray) (cols:List Co) (f:Nat) (hf:f<nodes.length) (ca:Option Addr) (cc ib:Nat) (hcl:cols.length<=4096) (hgn:c.g+1<nb) (ts:List Tk) (w:World) (h:PJ c w ts) (hn:NB c w nb ⟨nm,{ aB with k:=0,c:=cols,ex:=[],nm:=[],ou:=false },[(f:Int)],[],0⟩ ⟨⟨none,0,none,0,ca,cc,none,0,none,0,none,0,none,0⟩,some ⟨ib,0,none⟩,1,none,0⟩) (hir:w.ownsRow 0 3 1 (.slice (some ⟨ib,0,none⟩) 1 1) 1 [.int .i64 (f:Int)]) (hci:∀ b off,ca=some ⟨b,off,none⟩->b≠ib) :
 Calls Tryz.prog 81 #[.pointer (some ⟨c.g,0,none⟩),.pointer (some ⟨nb,0,none⟩)] w (wQ c nb ib nm w (cS rd pf nodes cols (f:Int) c.line ts)):=by
 obtain ⟨O,HX⟩:∃ O,Hid (cS rd pf nodes cols (f:Int) c.line ts=O):=⟨_,rfl⟩
 rw [HX.out]
 unfold cS at HX
 have HE:=jg hE
 have hgl:=h.lt
 have hmf:=ff
 have hib:=hn.far.i ib 0 rfl
 have hnl0:=hn.own.lt
 have HWT:=jg ((gt c ft (some ⟨w.heap.size,0,none⟩) 6 6 ts _ rfl (by decide) (D0 w) (fun b off e=>by cases e;exact hgl) (h.later (ae _ _))).mono (fun e w' h=>h.more (aj (ae _ _))))
 have HN:=jg hn
 have HIR:=jg hir
 have HJ:Hid (∀ (ou:Bool) ts W,PJ c W ts->NB c W nb ⟨nm,{ aB with k:=0,c:=cols,r:=[],ks:=[],os:=[],wk:=0,ws:=0,wt:=0,ou:=ou },[(f:Int)],[],0⟩ ⟨⟨none,0,none,0,ca,cc,none,0,none,0,none,0,none,0⟩,some ⟨ib,0,none⟩,1,none,0⟩->W.ownsRow 0 3 1 (.slice (some ⟨ib,0,none⟩) 1 1) 1 [.int .i64 (f:Int)]->Calls Tryz.prog 143 #[.pointer (some ⟨c.g,0,none⟩),.pointer (some ⟨nb,0,none⟩)] W (wQ c nb ib nm W (jt rd nodes cols ou (f:Int) c.line.size ts))):=fun ou ts W h1 h2 h3=>mo c hE nodes hnl hnl2 hnd hnc nb nm ou cols (f:Int) ca cc ib hcl hgn ts W h1 h2 h3 hci
 have HU:Hid (∀ ts W,PJ c W ts->NB c W nb ⟨nm,{ aB with k:=0,c:=cols },[(f:Int)],[],0⟩ ⟨⟨none,0,none,0,ca,cc,none,0,none,0,none,0,none,0⟩,some ⟨ib,0,none⟩,1,none,0⟩->W.ownsRow 0 3 1 (.slice (some ⟨ib,0,none⟩) 1 1) 1 [.int .i64 (f:Int)]->Calls Tryz.prog 142 #[.pointer (some ⟨c.g,0,none⟩),.pointer (some ⟨nb,0,none⟩)] W (wQ c nb ib nm W (jD nodes cols (f:Int) c.line.size ts))):=fun ts W h1 h2 h3=>wB c nodes hnl hnl2 hnd hnc nb nm cols f hf ca cc ib hcl hgn ts W h1 h2 h3 hci
 clear h hn hir hnd hnl hnc hE
 go_in
 go_wp2_with fail
 refine HWT.out.mono ?_
 intro e w1 hr
 rcases hr.el with ⟨n,ho,rfl,hg⟩ | ⟨S,ts1,ho,rfl,hg,hp⟩
 ·have HFX:Hid (Fr w w1 [c.g,nb,ib]):=Fr.of hg (fun k hk=>by cases hk;simp)
  clear hg hr HWT
  rw [ho] at HX
  simp only [bnd] at HX
  clear ho
  unfold cm
  go_wp2_with fail
  rw [<-HX.out]
  exact ⟨HFX.out,rfl⟩
 have hmem:S=ey\/S=dl\/S=pR\/S=eh\/S=kK\/S=eN:=by
  unfold aM at ho
  split at ho
  ·rename_i hm
   cases ho
   rw [fq] at hm
   simpa [ft] using hm
  ·cases ho
 rw [ho] at HX
 simp only [bnd] at HX
 have HP1:=jg hp
 have HN1:=jg (HN.out.g (by omega) hg)
 have HIR1:=jg (aI HIR.out hg (fun g hg' e=>by have h1:ib=g:=sI hg';have h2:=sI e;omega))
 have HF1:Hid (Fr w w1 [c.g,nb,ib]):=Fr.of hg (fun k hk=>by cases hk;simp)
 have ln1:=HN1.out.own.lt
 clear hg hr hp ho HWT HN HIR
 rcases hmem with h | h | h | h | h | h
 ·have HSS:=jg h
  clear h
  rw [if_pos HSS.out] at HX
  have q0:(S.toList==[119,104,101,114,101])=true:=by rw [HSS.out,xl];decide
  have q1:(S.toList==[115,101,108,101,99,116])=false:=by rw [HSS.out,xl];decide
  have q2:(S.toList==[98,121])=false:=by rw [HSS.out,xl];decide
  have q3:(S.toList==[117,110,105,111,110])=false:=by rw [HSS.out,xl];decide
  have q4:(S.toList==[111,117,116,101,114])=false:=by rw [HSS.out,xl];decide
  have q5:(S.toList==[106,111,105,110])=false:=by rw [HSS.out,xl];decide
  have k1:=HN1.out.own.c 1 rfl
  have kf1:=HN1.out.own.soft 1
  have HPU:=jg (HN1.out.own.put 1 (.int .i64 2))
  have HN2:Hid (NB c (w1.setCell ⟨nb,1,none⟩ (.int .i64 2)) nb ⟨nm,{ aB with k:=2,c:=cols,ex:=[],nm:=[],ou:=false },[(f:Int)],[],0⟩ ⟨⟨none,0,none,0,ca,cc,none,0,none,0,none,0,none,0⟩,some ⟨ib,0,none⟩,1,none,0⟩):=⟨HPU.out.1,bw.re (HN1.out.own2 HPU.out.2) ⟨rfl,rfl⟩ ⟨rfl,rfl⟩ ⟨rfl,rfl⟩ ⟨rfl,rfl⟩ ⟨rfl,rfl⟩ ⟨rfl,rfl⟩ ⟨rfl,rfl⟩ ⟨rfl,rfl⟩ ⟨rfl,rfl⟩,HN1.out.far.up (fun b hb=>⟨hb.1,hb.2.1,lL hb.2.2 HPU.out.2.size⟩)⟩
  have HP2:=jg (HP1.out.grown HPU.out.2 (fun k hk=>by cases hk;omega))
  have HF2:=jg (iH HF1.out HPU.out.2 (fun k hk=>by cases hk;simp))
  go_upto_region 3 with fail
  generalize hW2:w1.setCell ⟨nb,1,none⟩ (.int .i64 2)=w2 at *
  clear hW2 HPU k1 kf1 HN1 HP1 HF1 HIR1 ln1
  go_wp2_with fail
  refine (rK c HE.out hln ts1 w2 HP2.out).mono ?_
  intro e w3 hr
  rcases hr.el with ⟨n,ho,rfl,hg⟩ | ⟨x,ts3,ho,rfl,hg,hp⟩
  ·have HFX:=jg (iH HF2.out hg (fun k hk=>by cases hk;simp))
   clear hg hr
   rw [ho] at HX
   simp only [bnd] at HX
   clear ho
   unfold cm
   go_wp2_with fail
   rw [<-HX.out]
   exact ⟨HFX.out,rfl⟩
  ·rw [ho] at HX
   simp only [bnd] at HX
   have hA:Below w3.heap.size w3 (w3.alloc (.cells #[.string x] 9)):=ae w3 _
   have hN3:=(HN2.out.g (by omega) hg).later (by omega) hA
   have hO3:=hN3.own
   have k2:(w3.alloc (.cells #[.string x] 9)).cell? ⟨nb,2,none⟩=some (.slice none 0 0):=hO3.c 2 rfl
   have kf2:=hO3.soft 2
   have ln3:=(HN2.out.g (by omega) hg).own.lt
   have HPU:=jg (hO3.put 2 (.slice (some ⟨w3.heap.size,0,none⟩) 1 1))
   have hgl3:=hp.lt
   have HN4:Hid (NB c ((w3.alloc (.cells #[.string x] 9)).setCell ⟨nb,2,none⟩ (.slice (some ⟨w3.heap.size,0,none⟩) 1 1)) nb ⟨nm,{ aB with k:=2,c:=cols,ex:=[x],nm:=[],ou:=false },[(f:Int)],[],0⟩ ⟨⟨some ⟨w3.heap.size,0,none⟩,1,none,0,ca,cc,none,0,none,0,none,0,none,0⟩,some ⟨ib,0,none⟩,1,none,0⟩):=by
    have a:=hN3.own2 HPU.out.2
    have f1:=hN3.far
    have hzz:=HPU.out.2.size
    have hza:w3.heap.size<(w3.alloc (.cells #[.string x] 9)).heap.size:=by simp
    refine ⟨HPU.out.1,⟨⟨fun i hi=>?_,a.o.n,a.o.c,a.o.r,a.o.k,a.o.o,a.o.g⟩,a.i,a.c⟩,⟨fun b o e=>(by cases e;refine ⟨by omega,by omega,by omega⟩),fun b o e=>(by cases e),fun b o e=>⟨(f1.c b o e).1,(f1.c b o e).2.1,(by have:=(f1.c b o e).2.2;omega)⟩,fun b o e=>(by cases e),fun b o e=>(by cases e),fun b o e=>(by cases e),fun b o e=>(by cases e),fun b o e=>⟨(f1.i b o e).1,(f1.i b o e).2.1,(by have:=(f1.i b o e).2.2;omega)⟩,fun b o e=>(by cases e)⟩⟩
    have hi0:i=0:=by have:i<1:=hi;omega
    subst hi0
    refine ⟨w3.heap.size,0,rfl,?_⟩
    have o1:=aD.new w3 9 1 #[.string x] rfl
    refine HPU.out.2.cell (by rw [o1.cell 0 (by decide)];rfl) (fun e=>by have:=sI e;simp only at this;omega)
   have HP4:=jg ((hp.later hA).grown HPU.out.2 (fun k hk=>by cases hk;omega))
   have HF4:=jg (iH (iH (iH HF2.out hg (fun k hk=>by cases hk;simp)) (aj (r:=none) hA) (fun k hk=>by cases hk)) HPU.out.2 (fun k hk=>by cases hk;simp))
   have HCM:Hid ((w3.alloc (.cells #[.string x] 9)).setCell ⟨nb,2,none⟩ (.slice (some ⟨w3.heap.size,0,none⟩) 1 1)=(w3.setCell ⟨nb,2,none⟩ (.slice (some ⟨w3.heap.size,0,none⟩) 1 1)).alloc (.cells #[.string x] 9)):=by unfold Hid;go_simp
   rw [HCM.out] at HF4 HP4 HN4
   clear hg hr hp ho hA hN3 hO3 HN2
   go_wp2_with fail
   go_end0
   rw [<-HX.out]
   exact ⟨HF4.out,rfl,HP4.out,_,HN4.out,fun h=>absurd (show (2:Int)=6 from h.1) (by decide)⟩
 ·have HSS:=jg h
  clear h
  rw [if_neg (by rw [HSS.out];decide)] at HX
  rw [if_pos HSS.out] at HX
  have q0:(S.toList==[119,104,101,114,101])=false:=by rw [HSS.out,xl];decide
  have q1:(S.toList==[115,101,108,101,99,116])=true:=by rw [HSS.out,xl];decide
  have q2:(S.toList==[98,121])=false:=by rw [HSS.out,xl];decide
  have q3:(S.toList==[117,110,105,111,110])=false:=by rw [HSS.out,xl];decide
  have q4:(S.toList==[111,117,116,101,114])=false:=by rw [HSS.out,xl];decide
  have q5:(S.toList==[106,111,105,110])=false:=by rw [HSS.out,xl];decide
  have k1:=HN1.out.own.c 1 rfl
  have kf1:=HN1.out.own.soft 1
  have HPU:=jg (HN1.out.own.put 1 (.int .i64 3))
  have HN2:Hid (NB c (w1.setCell ⟨nb,1,none⟩ (.int .i64 3)) nb ⟨nm,{ aB with k:=3,c:=cols,ex:=[],nm:=[],ou:=false },[(f:Int)],[],0⟩ ⟨⟨none,0,none,0,ca,cc,none,0,none,0,none,0,none,0⟩,some ⟨ib,0,none⟩,1,none,0⟩):=⟨HPU.out.1,bw.re (HN1.out.own2 HPU.out.2) ⟨rfl,rfl⟩ ⟨rfl,rfl⟩ ⟨rfl,rfl⟩ ⟨rfl,rfl⟩ ⟨rfl,rfl⟩ ⟨rfl,rfl⟩ ⟨rfl,rfl⟩ ⟨rfl,rfl⟩ ⟨rfl,rfl⟩,HN1.out.far.up (fun b hb=>⟨hb.1,hb.2.1,lL hb.2.2 HPU.out.2.size⟩)⟩
  have HP2:=jg (HP1.out.grown HPU.out.2 (fun k hk=>by cases hk;omega))
  have HF2:=jg (iH HF1.out HPU.out.2 (fun k hk=>by cases hk;simp))
  go_upto_region 6 with fail
  generalize hW2:w1.setCell ⟨nb,1,none⟩ (.int .i64 3)=w2 at *
  clear hW2 HPU k1 kf1 HN1 HP1 HF1 HIR1 ln1
  have ln2:=HN2.out.own.lt
  have HTT:=jg (qP c (fun _=>True) 139 #[.pointer (some ⟨c.g,0,none⟩)] #[] (eU pf c.line) yD (fun ts W _ hp=>by simp only [Array.append_empty];exact rK c HE.out hln ts W hp) (fun ts y ts' h=>zs h) ts1 w2 (fun W W' _ _=>trivial) (fun W W' k _ _ _=>trivial) trivial HP2.out)
  go_wp2_with fail
  refine HTT.out.mono ?_
  intro e w3 hr
  obtain ⟨hg,hr⟩:=hr
  rcases ho:bg c.line.size (kF (eU pf c.line) c.line.size) dw ts1 with n | ⟨l,ts3⟩
  ·rw [ho] at hr HX
   simp only [bnd] at hr HX
   subst hr
   have HFX:=jg (iH HF2.out hg (fun k hk=>by cases hk;simp))
   clear ho hg HTT
   unfold cm
   go_wp2_with fail
   rw [<-HX.out]
   exact ⟨HFX.out,rfl⟩
  ·rw [ho] at hr HX
   simp only [bnd] at HX
   obtain ⟨v1,v2,he,hr1,hr2,hp,-⟩:=hr
   subst he
   rw [show (l.flatMap fun p=>bC p.1)=(l.map (·.1)).flatMap bC by simp [List.flatMap_map]] at hr2
   obtain ⟨ea,ec,rfl,hea,heb⟩:=ph (l:=l.map (·.2)) (by simp) hr1
   obtain ⟨na,nc,rfl,hna,hnb⟩:=ph (by simp) hr2
   simp only [List.length_map]
   have hsz3:=hg.size
   have her:∀ b off,ea=some ⟨b,off,none⟩->nb<=b+1/\b≠nb/\b<w3.heap.size:=fun b off e=>by
    have h1:=heb b off e
    have h2:b<w3.heap.size:=by
     subst e
     exact (World.ownsRow.lt hr1 b rfl).2
    have:=HP2.out.lt
    omega
   have hnr:∀ b off,na=some ⟨b,off,none⟩->nb<=b+1/\b≠nb/\b<w3.heap.size:=fun b off e=>by
    have h1:=hnb b off e
    have h2:b<w3.heap.size:=by
     subst e
     exact (World.ownsRow.lt hr2 b rfl).2
    have:=HP2.out.lt
    omega
   have hN3:=HN2.out.g (by omega) hg
   have HPU1:=jg (hN3.own.put 2 (.slice ea l.length ec))
   have HPU2:=jg (HPU1.out.1.put 3 (.slice na l.length nc))
   have HPU:=jg (ai HPU1.out.2 HPU2.out.2)
   have HN4:Hid (NB c ((w3.setCell ⟨nb,2,none⟩ (.slice ea l.length ec)).setCell ⟨nb,3,none⟩ (.slice na l.length nc)) nb ⟨nm,{ aB with k:=3,c:=cols,ex:=l.map (·.2),nm:=l.map (·.1),ou:=false },[(f:Int)],[],0⟩ ⟨⟨ea,ec,na,nc,ca,cc,none,0,none,0,none,0,none,0⟩,some ⟨ib,0,none⟩,1,none,0⟩):=by
    have a:=hN3.own2 HPU.out
    have f1:=hN3.far
    exact ⟨by rw [show au ⟨nm,{ aB with k:=3,c:=cols,ex:=l.map (·.2),nm:=l.map (·.1),ou:=false },[(f:Int)],[],0⟩ ⟨⟨ea,ec,na,nc,ca,cc,none,0,none,0,none,0,none,0⟩,some ⟨ib,0,none⟩,1,none,0⟩=((au ⟨nm,{ aB with k:=3,c:=cols,ex:=[],nm:=[],ou:=false },[(f:Int)],[],0⟩ ⟨⟨none,0,none,0,ca,cc,none,0,none,0,none,0,none,0⟩,some ⟨ib,0,none⟩,1,none,0⟩).set 2 (.slice ea l.length ec)).set 3 (.slice na l.length nc) from by simp [au,aB]];exact HPU2.out.1,⟨⟨bu.kept hea HPU.out (fun b off e e2=>(her b off e).2.1 (sI e2).symm),bu.kept hna HPU.out (fun b off e e2=>(hnr b off e).2.1 (sI e2).symm),a.o.c,a.o.r,a.o.k,a.o.o,a.o.g⟩,a.i,a.c⟩,(⟨her,hnr,f1.c,f1.r,f1.k,f1.o,f1.g,f1.i,f1.l⟩:wP (fun b=>nb<=b+1/\b≠nb/\b<w3.heap.size) ⟨⟨ea,ec,na,nc,ca,cc,none,0,none,0,none,0,none,0⟩,some ⟨ib,0,none⟩,1,none,0⟩).up (fun b hb=>⟨hb.1,hb.2.1,lL hb.2.2 HPU.out.size⟩)⟩
   have HP4:=jg (hp.grown HPU.out (fun k hk=>by cases hk;omega))
   have HF4:=jg (iH (iH HF2.out hg (fun k hk=>by cases hk;simp)) HPU.out (fun k hk=>by cases hk;simp))
   have k2:w3.cell? ⟨nb,2,none⟩=some (.slice none 0 0):=hN3.own.c 2 rfl
   have kf2:=hN3.own.soft 2
   have k3:w3.cell? ⟨nb,3,none⟩=some (.slice none 0 0):=hN3.own.c 3 rfl
   have kf3:=hN3.own.soft 3
   have ln3:=hN3.own.lt
   clear hg hr1 hr2 hp ho hea heb hna hnb her hnr hN3 HTT HN2
   go_wp2_with fail
   go_end0
   rw [<-HX.out]
   exact ⟨HF4.out,rfl,HP4.out,_,HN4.out,fun h=>absurd (show (3:Int)=6 from h.1) (by decide)⟩
 ·have HSS:=jg h
  clear h
  rw [if_neg (by rw [HSS.out];decide)] at HX
  rw [if_neg (by rw [HSS.out];decide)] at HX
  rw [if_pos HSS.out] at HX
  have q0:(S.toList==[119,104,101,114,101])=false:=by rw [HSS.out,xl];decide
  have q1:(S.toList==[115,101,108,101,99,116])=false:=by rw [HSS.out,xl];decide
  have q2:(S.toList==[98,121])=true:=by rw [HSS.out,xl];decide
  have q3:(S.toList==[117,110,105,111,110])=false:=by rw [HSS.out,xl];decide
  have q4:(S.toList==[111,117,116,101,114])=false:=by rw [HSS.out,xl];decide
  have q5:(S.toList==[106,111,105,110])=false:=by rw [HSS.out,xl];decide
  go_wp2_with fail
  refine (jF c HE.out nb nm cols [(f:Int)] ca cc (some ⟨ib,0,none⟩) 1 hcl hgn ts1 w1 HP1.out HN1.out).mono ?_
  intro e w9 hr
  rw [HX.out] at hr
  obtain ⟨hfr,hr⟩:=hr
  have HF9:=jg (HF1.out.trans hfr (fun i hi=>.inl (by simp at hi;simp;omega)))
  rcases O with n | ⟨⟨p,ins⟩,ts9⟩
  ·simp only at hr
   subst hr
   unfold cm
   go_wp2_with fail
   exact ⟨HF9.out,rfl⟩
  ·obtain ⟨rfl,hp9,q,hn9⟩:=hr
   have HP9:=jg hp9
   have HN9:=jg hn9
   clear hp9 hn9 hfr
   go_wp2_with fail
   go_end0
   exact ⟨HF9.out,rfl,HP9.out,q,HN9.out,fun h=>absurd h.2 (by rw [xN HX.out];simp)⟩
 ·have HSS:=jg h
  clear h
  rw [if_neg (by rw [HSS.out];decide)] at HX
  rw [if_neg (by rw [HSS.out];decide)] at HX
  rw [if_neg (by rw [HSS.out];decide)] at HX
  rw [if_pos HSS.out] at HX
  have q0:(S.toList==[119,104,101,114,101])=false:=by rw [HSS.out,xl];decide
  have q1:(S.toList==[115,101,108,101,99,116])=false:=by rw [HSS.out,xl];decide
  have q2:(S.toList==[98,121])=false:=by rw [HSS.out,xl];decide
  have q3:(S.toList==[117,110,105,111,110])=true:=by rw [HSS.out,xl];decide
  have q4:(S.toList==[111,117,116,101,114])=false:=by rw [HSS.out,xl];decide
  have q5:(S.toList==[106,111,105,110])=false:=by rw [HSS.out,xl];decide
  go_wp2_with fail
  refine (HU.out ts1 w1 HP1.out HN1.out HIR1.out).mono ?_
  intro e w9 hr
  rw [HX.out] at hr
  obtain ⟨hfr,hr⟩:=hr
  have HF9:=jg (HF1.out.trans hfr (fun i hi=>.inl hi))
  rcases O with n | ⟨⟨p,ins⟩,ts9⟩
  ·simp only at hr
   subst hr
   unfold cm
   go_wp2_with fail
   exact ⟨HF9.out,rfl⟩
  ·obtain ⟨rfl,hp9,q,hn9,hcp⟩:=hr
   have HCP:=jg hcp
   clear hcp
   have HP9:=jg hp9
   have HN9:=jg hn9
   clear hp9 hn9 hfr
   go_wp2_with fail
   go_end0
   exact ⟨HF9.out,rfl,HP9.out,q,HN9.out,HCP.out⟩
 ·have HSS:=jg h
  clear h
  rw [if_neg (by rw [HSS.out];decide)] at HX
  rw [if_neg (by rw [HSS.out];decide)] at HX
  rw [if_neg (by rw [HSS.out];decide)] at HX
  rw [if_neg (by rw [HSS.out];decide)] at HX
  rw [if_pos HSS.out] at HX
  have q0:(S.toList==[119,104,101,114,101])=false:=by rw [HSS.out,xl];decide
  have q1:(S.toList==[115,101,108,101,99,116])=false:=by rw [HSS.out,xl];decide
  have q2:(S.toList==[98,121])=false:=by rw [HSS.out,xl];decide
  have q3:(S.toList==[117,110,105,111,110])=false:=by rw [HSS.out,xl];decide
  have q4:(S.toList==[111,117,116,101,114])=true:=by rw [HSS.out,xl];decide
  have q5:(S.toList==[106,111,105,110])=false:=by rw [HSS.out,xl];decide
  have k12:=HN1.out.own.c 12 rfl
  have kf12:=HN1.out.own.soft 12
  have HPU:=jg (HN1.out.own.put 12 (.bool true))
  have HN2:Hid (NB c (w1.setCell ⟨nb,12,none⟩ (.bool true)) nb ⟨nm,{ aB with k:=0,c:=cols,ex:=[],nm:=[],ou:=true },[(f:Int)],[],0⟩ ⟨⟨none,0,none,0,ca,cc,none,0,none,0,none,0,none,0⟩,some ⟨ib,0,none⟩,1,none,0⟩):=⟨HPU.out.1,bw.re (HN1.out.own2 HPU.out.2) ⟨rfl,rfl⟩ ⟨rfl,rfl⟩ ⟨rfl,rfl⟩ ⟨rfl,rfl⟩ ⟨rfl,rfl⟩ ⟨rfl,rfl⟩ ⟨rfl,rfl⟩ ⟨rfl,rfl⟩ ⟨rfl,rfl⟩,HN1.out.far.up (fun b hb=>⟨hb.1,hb.2.1,lL hb.2.2 HPU.out.2.size⟩)⟩
  have HP2:=jg (HP1.out.grown HPU.out.2 (fun k hk=>by cases hk;omega))
  have HF2:=jg (iH HF1.out HPU.out.2 (fun k hk=>by cases hk;simp))
  have HIR2:=jg (aI HIR1.out HPU.out.2 (fun g hg' e=>by have h1:ib=g:=sI hg';have h2:=sI e;omega))
  go_upto_region 13 with fail
  generalize hW2:w1.setCell ⟨nb,12,none⟩ (.bool true)=w2 at *
  clear hW2 HPU k12 kf12 HN1 HP1 HF1 HIR1 ln1
  have HW:=jg (bO c eN ts1 w2 HP2.out)
  unfold eN at HW
  go_wp2_with fail
  refine HW.out.mono ?_
  intro e w3 hr
  rcases hr.el with ⟨n,ho,rfl,hg⟩ | ⟨x3,ts3,ho,rfl,hg,hp⟩
  ·change aM c.line.size [eN] ts1=_ at ho
   have HFX:=jg (iH HF2.out hg (fun k hk=>by cases hk;simp))
   clear hg hr HW
   rw [ho] at HX
   simp only [bnd] at HX
   clear ho
   unfold cm
   go_wp2_with fail
   rw [<-HX.out]
   exact ⟨HFX.out,rfl⟩
  ·change aM c.line.size [eN] ts1=_ at ho
   rw [ho] at HX
   simp only [bnd] at HX
   have HP3:=jg hp
   have HN3:=jg (HN2.out.g (by omega) hg)
   have HF3:=jg (iH HF2.out hg (fun k hk=>by cases hk;simp))
   have HIR3:=jg (aI HIR2.out hg (fun g hg' e=>by have h1:ib=g:=sI hg';have h2:=sI e;omega))
   clear hg hr hp ho HW HP2 HN2 HF2 HIR2
   go_wp2_with fail
   refine (HJ.out true ts3 w3 HP3.out HN3.out HIR3.out).mono ?_
   intro e w9 hr
   rw [HX.out] at hr
   obtain ⟨hfr,hr⟩:=hr
   have HF9:=jg (HF3.out.trans hfr (fun i hi=>.inl hi))
   rcases O with n | ⟨⟨p,ins⟩,ts9⟩
   ·simp only at hr
    subst hr
    unfold cm
    go_wp2_with fail
    exact ⟨HF9.out,rfl⟩
   ·obtain ⟨rfl,hp9,q,hn9,hcp⟩:=hr
    have HCP:=jg hcp
    clear hcp
    have HP9:=jg hp9
    have HN9:=jg hn9
    clear hp9 hn9 hfr
    go_wp2_with fail
    go_end0
    exact ⟨HF9.out,rfl,HP9.out,q,HN9.out,HCP.out⟩
 ·have HSS:=jg h
  clear h
  rw [if_neg (by rw [HSS.out];decide)] at HX
  rw [if_neg (by rw [HSS.out];decide)] at HX
  rw [if_neg (by rw [HSS.out];decide)] at HX
  rw [if_neg (by rw [HSS.out];decide)] at HX
  rw [if_neg (by rw [HSS.out];decide)] at HX
  have q0:(S.toList==[119,104,101,114,101])=false:=by rw [HSS.out,xl];decide
  have q1:(S.toList==[115,101,108,101,99,116])=false:=by rw [HSS.out,xl];decide
  have q2:(S.toList==[98,121])=false:=by rw [HSS.out,xl];decide
  have q3:(S.toList==[117,110,105,111,110])=false:=by rw [HSS.out,xl];decide
  have q4:(S.toList==[111,117,116,101,114])=false:=by rw [HSS.out,xl];decide
  have q5:(S.toList==[106,111,105,110])=true:=by rw [HSS.out,xl];decide
  go_wp2_with fail
  refine (HJ.out false ts1 w1 HP1.out HN1.out HIR1.out).mono ?_
  intro e w9 hr
  rw [HX.out] at hr
  obtain ⟨hfr,hr⟩:=hr
  have HF9:=jg (HF1.out.trans hfr (fun i hi=>.inl hi))
  rcases O with n | ⟨⟨p,ins⟩,ts9⟩
  ·simp only at hr
   subst hr
   unfold cm
   go_wp2_with fail
   exact ⟨HF9.out,rfl⟩
  ·obtain ⟨rfl,hp9,q,hn9,hcp⟩:=hr
   have HCP:=jg hcp
   clear hcp
   have HP9:=jg hp9
   have HN9:=jg hn9
   clear hp9 hn9 hfr
   go_wp2_with fail
   go_end0
   exact ⟨HF9.out,rfl,HP9.out,q,HN9.out,HCP.out⟩
end Jp
namespace Jp
open Go.RowKit Oo
attribute [local go_sem] an
def Ef (c:LC) (w:World) (o:Except Nat (aJ × List Tk)) (e:Ending) (w':World):Prop:=w.grownBy w' (some c.g)/\match o with
 | .ok (n,ts)=>∃ q,e=.returned (.agg (au n q).toArray)/\bw w' n q/\PJ c w' ts/\wP (fun b=>w.heap.size<=b) q/\(n.op.k=6/\2<=n.ins.length->n.ins.length<=q.ic)
 | .error k=>e=cm k
noncomputable def gm (nodes:List aJ) (g:Int->List Co->List Tk->Except Nat ((eJ × List Int) × List Tk)) (E:Nat) (nm:ByteArray) (ts:List Tk):Except Nat (aJ × List Tk):=
 bnd (aM E [aH] ts) fun _ ts=>bnd (lM nodes E ts) fun i ts=>bnd (g i (ak nodes i) ts) fun p ts=>.ok (⟨nm,p.1,p.2,[],0⟩,ts)
theorem qK (c:LC) (nodes:List aJ) (hnl:c.nN=nodes.length) (hnl2:nodes.length<=4096) (hnd:eG c.w0 c.aN nodes) (hnc:∀ n∈nodes,n.cols.length<=4096) (g:Int->List Co->List Tk->Except Nat ((eJ × List Int) × List Tk)) (fn:Nat) (first cp:Array Value) (hent:∀ (a:Array Value) (W:World),(callFunc fn a).run Tryz.prog W=.ok (.enter fn a) W) (nm:ByteArray)
 (hrest:∀ (i nb ib:Nat) (ca:Option Addr) (cc:Nat) (ts:List Tk) (W:World) (hi:i<nodes.length),c.g+1<nb->PJ c W ts->NB c W nb ⟨nm,{ aB with k:=0,c:=nodes[i].cols,ex:=[],nm:=[],ou:=false },[(i:Int)],[],0⟩ ⟨⟨none,0,none,0,ca,cc,none,0,none,0,none,0,none,0⟩,some ⟨ib,0,none⟩,1,none,0⟩->W.ownsRow 0 3 1 (.slice (some ⟨ib,0,none⟩) 1 1) 1 [.int .i64 (i:Int)]->(∀ b off,ca=some ⟨b,off,none⟩->b≠ib)->Calls Tryz.prog fn (first++#[.pointer (some ⟨nb,0,none⟩)]++cp) W (wQ c nb ib nm W (g (i:Int) nodes[i].cols ts)))
 (ts:List Tk) (w:World) (h:PJ c w ts) :
 Calls Tryz.prog 78 #[.pointer (some ⟨c.g,0,none⟩),.string nm,.func (.func fn) first cp] w (Ef c w (gm nodes g c.line.size nm ts)):=by
 obtain ⟨O,HX⟩:∃ O,Hid (gm nodes g c.line.size nm ts=O):=⟨_,rfl⟩
 rw [HX.out]
 unfold gm at HX
 have hgl:=h.lt
 have HW:=jg (bO c aH ts (w.alloc (.cells #[.string ⟨#[]⟩,.int .i64 0,.slice none 0 0,.slice none 0 0,.slice none 0 0,.slice none 0 0,.slice none 0 0,.slice none 0 0,.int .i64 0,.int .i64 0,.int .i64 0,.slice none 0 0,.bool false,.slice none 0 0,.slice none 0 0,.int .i64 0] 61)) (h.later (ae _ _)))
 rw [show (w.alloc (.cells #[.string ⟨#[]⟩,.int .i64 0,.slice none 0 0,.slice none 0 0,.slice none 0 0,.slice none 0 0,.slice none 0 0,.slice none 0 0,.int .i64 0,.int .i64 0,.int .i64 0,.slice none 0 0,.bool false,.slice none 0 0,.slice none 0 0,.int .i64 0] 61)).heap.size=w.heap.size+1 from by simp] at HW
 unfold aH at HW
 have HIN:Hid (∀ ts W,PJ c W ts->Calls Tryz.prog 136 #[.pointer (some ⟨c.g,0,none⟩)] W (RP c W (lM nodes c.line.size ts) (Value.int .i64))):=fun ts W hW=>kN c nodes hnl hnl2 hnd ts W hW
 have HND:=jg hnd
 have HNL:=jg hnl
 have HNC:=jg hnc
 have HRE:=jg hrest
 go_in
 go_wp2_with fail
 refine HW.out.mono ?_
 intro e w1 hr
 rcases hr.el with ⟨n,ho,rfl,hg⟩ | ⟨x1,ts1,ho,rfl,hg,hp⟩
 ·change aM c.line.size [aH] ts=_ at ho
  have HG:=jg hg
  rw [ho] at HX
  simp only [bnd] at HX
  unfold cm
  go_wp2_with fail
  rw [<-HX.out]
  exact ⟨ai (aj (ae _ _)) HG.out,rfl⟩
 ·change aM c.line.size [aH] ts=_ at ho
  rw [ho] at HX
  simp only [bnd] at HX
  have HG1:=jg (ai (aj (ae w (.cells #[.string ⟨#[]⟩,.int .i64 0,.slice none 0 0,.slice none 0 0,.slice none 0 0,.slice none 0 0,.slice none 0 0,.slice none 0 0,.int .i64 0,.int .i64 0,.int .i64 0,.slice none 0 0,.bool false,.slice none 0 0,.slice none 0 0,.int .i64 0] 61))) hg)
  have HOR1:=jg ((aD.new w 61 16 #[.string ⟨#[]⟩,.int .i64 0,.slice none 0 0,.slice none 0 0,.slice none 0 0,.slice none 0 0,.slice none 0 0,.slice none 0 0,.int .i64 0,.int .i64 0,.int .i64 0,.slice none 0 0,.bool false,.slice none 0 0,.slice none 0 0,.int .i64 0] rfl).grown hg (nS (by omega)))
  have HP1:=jg hp
  go_wp2_with fail
  refine (HIN.out ts1 w1 HP1.out).mono ?_
  intro e w2 hr
  rcases hr.el with ⟨n,ho,rfl,hg⟩ | ⟨x2,ts2,ho,rfl,hg,hp⟩
  ·have HG:=jg (ai HG1.out hg)
   rw [ho] at HX
   simp only [bnd] at HX
   unfold cm
   go_wp2_with fail
   rw [<-HX.out]
   exact ⟨HG.out,rfl⟩
  ·obtain ⟨i,rfl,hilt⟩:=tC ho
   rw [ho] at HX
   simp only [bnd] at HX
   have HG2:=jg (ai HG1.out hg)
   have HOR2:=jg (HOR1.out.grown hg (nS (by omega)))
   have HP2:=jg hp
   have HCA:Hid (ak nodes (i:Int)=nodes[i].cols):=by unfold Hid ak;rw [Int.toNat_natCast,List.getElem?_eq_getElem hilt];rfl
   rw [HCA.out] at HX
   have hndl:=HNC.out _ (List.getElem_mem hilt)
   obtain ⟨ab,ao,aq,haN,hac,hat⟩:=HND.out i hilt
   have hlr2:=HOR2.out.lt
   have hgl2:=hp.lt
   have hB3:Below w2.heap.size w2 ((w2.alloc (.cells #[.int .i64 (i:Int)] 3)).alloc (.cells #[.string nm,.int .i64 0,.slice none 0 0,.slice none 0 0,.slice none 0 0,.slice none 0 0,.slice none 0 0,.slice none 0 0,.int .i64 0,.int .i64 0,.int .i64 0,.slice none 0 0,.bool false,.slice (some ⟨w2.heap.size,0,none⟩) 1 1,.slice none 0 0,.int .i64 0] 61)):=(ae w2 _).alloc (by simp) _
   have HB3:=jg hB3
   have HP3:=jg (HP2.out.later hB3)
   have HOR3:=jg (HOR2.out.later hB3)
   have HG3:=jg (ai HG2.out (aj hB3))
   have HON3:=jg (aD.new (w2.alloc (.cells #[.int .i64 (i:Int)] 3)) 61 16 #[.string nm,.int .i64 0,.slice none 0 0,.slice none 0 0,.slice none 0 0,.slice none 0 0,.slice none 0 0,.slice none 0 0,.int .i64 0,.int .i64 0,.int .i64 0,.slice none 0 0,.bool false,.slice (some ⟨w2.heap.size,0,none⟩) 1 1,.slice none 0 0,.int .i64 0] rfl)
   rw [show (w2.alloc (.cells #[.int .i64 (i:Int)] 3)).heap.size=w2.heap.size+1 from by simp] at HON3
   have HIR3:Hid (((w2.alloc (.cells #[.int .i64 (i:Int)] 3)).alloc (.cells #[.string nm,.int .i64 0,.slice none 0 0,.slice none 0 0,.slice none 0 0,.slice none 0 0,.slice none 0 0,.slice none 0 0,.int .i64 0,.int .i64 0,.int .i64 0,.slice none 0 0,.bool false,.slice (some ⟨w2.heap.size,0,none⟩) 1 1,.slice none 0 0,.int .i64 0] 61)).ownsRow 0 3 1 (.slice (some ⟨w2.heap.size,0,none⟩) 1 1) 1 [.int .i64 (i:Int)]):=World.ownsRow.alloc (World.ownsRow_lit (base:=0) (e:=3) (size:=1) w2 #[.int .i64 (i:Int)] 1 (Nat.zero_le _) (by decide) (by simp)) _
   go_upto_region 4 with fail
   generalize hW3:((w2.alloc (.cells #[.int .i64 (i:Int)] 3)).alloc (.cells #[.string nm,.int .i64 0,.slice none 0 0,.slice none 0 0,.slice none 0 0,.slice none 0 0,.slice none 0 0,.slice none 0 0,.int .i64 0,.int .i64 0,.int .i64 0,.slice none 0 0,.bool false,.slice (some ⟨w2.heap.size,0,none⟩) 1 1,.slice none 0 0,.int .i64 0] 61))=w3 at *
   have hsz3:=HON3.out.lt
   have hbel:=HP3.out.bel
   have e14:=af hbel (hac 14 _ rfl)
   have c2:=HP3.out.c2
   rw [haN,HNL.out] at c2
   have hii:(i:Int)<(nodes.length:Int):=by omega
   have hgl3:=HP3.out.lt
   have hab:=bL e14
   have HCL:=jg (lS aq.ka nodes[i].cols aq.kc w3 (hat.c.later hbel) (by omega))
   have k4:=HON3.out.c 4 rfl
   obtain ⟨CL,HCLe⟩:∃ CL:List Co,Hid (CL=nodes[i].cols):=⟨nodes[i].cols,rfl⟩
   have HRE2:=jg (fun nb ib ca cc ts W h1 h2 h3 h4 h5=>HRE.out i nb ib ca cc ts W hilt h1 h2 h3 h4 h5)
   rw [<-HCLe.out] at HX e14 HCL hndl HRE2
   go_wp2_with fail
   refine HCL.out.mono ?_
   rintro e w4 ⟨ca,cc,rfl,hrw,hb4⟩
   have HP4:=jg (HP3.out.later hb4)
   have HOR4:=jg (HOR3.out.later hb4)
   have HG4:=jg (ai HG3.out (aj hb4))
   have HON4:=jg (HON3.out.later hb4)
   have HIR4:=jg (aO HIR3.out hb4)
   obtain ⟨ca',cc',hca1,hca2,hca3⟩:=rj rfl hrw
   have hca4:ca'=ca:=by injection hca1 with h1 h2 h3;exact h1.symm
   subst hca4
   have HC4:=jg hca2
   have HCB:=jg hca3
   have k44:=HON4.out.c 4 rfl
   have kf44:=HON4.out.soft 4
   have hln4:=HON4.out.lt
   have hw34:=hb4.size
   have HPU:=jg (HON4.out.put 4 (.slice ca' CL.length cc))
   have hcar:=HCB.out
   have HN5:Hid (NB c (w4.setCell ⟨w2.heap.size+1,4,none⟩ (.slice ca' CL.length cc)) (w2.heap.size+1) ⟨nm,{ aB with k:=0,c:=CL,ex:=[],nm:=[],ou:=false },[(i:Int)],[],0⟩ ⟨⟨none,0,none,0,ca',cc,none,0,none,0,none,0,none,0⟩,some ⟨w2.heap.size,0,none⟩,1,none,0⟩):=by
    refine ⟨HPU.out.1,⟨⟨fun i hi=>absurd hi (by simp),fun i hi=>absurd hi (by simp),?_,fun i hi=>absurd hi (by simp [aB]),fun i hi=>absurd hi (by simp [aB]),fun i hi=>absurd hi (by simp [aB]),fun i hi=>absurd hi (by simp [aB])⟩,?_,fun i hi=>absurd hi (by simp)⟩,?_⟩
    ·exact ap.kept HC4.out HPU.out.2 (fun b off e e2=>by have:=(hcar b off e).1;have:=sI e2;omega)
    ·obtain ⟨ax,cx,hax,hin,-⟩:=fU (l:=[(i:Int)]) rfl (by simpa [aT] using HIR4.out)
     have hax2:ax=some ⟨w2.heap.size,0,none⟩:=by injection hax with h1 h2 h3;exact h1.symm
     subst hax2
     exact aG.kept hin HPU.out.2 (fun b off e e2=>by cases e;have:=sI e2;omega)
    ·have hz:=HPU.out.2.size
     exact ⟨fun b o e=>(by cases e),fun b o e=>(by cases e),fun b o e=>⟨(by have:=(hcar b o e).1;omega),(by have:=(hcar b o e).1;omega),(by have:=(hcar b o e).2;omega)⟩,fun b o e=>(by cases e),fun b o e=>(by cases e),fun b o e=>(by cases e),fun b o e=>(by cases e),fun b o e=>(by cases e;refine ⟨by omega,by omega,by omega⟩),fun b o e=>(by cases e)⟩
   have HP5:=jg (HP4.out.grown HPU.out.2 (fun k hk=>by cases hk;omega))
   have HG5:=jg (bv HG4.out HPU.out.2 (fun k hk=>by cases hk;have:=HG2.out.size;omega))
   have HOR5:=jg (HOR4.out.grown HPU.out.2 (nS (by omega)))
   have HIR5:=jg (aI HIR4.out HPU.out.2 (fun g hg' e=>by have h1:w2.heap.size=g:=sI hg';have h2:=sI e;omega))
   go_upto_region 5 with fail
   generalize hW5:w4.setCell ⟨w2.heap.size+1,4,none⟩ (.slice ca' CL.length cc)=w5 at *
   have hw2:=HG2.out.size
   have HCI:Hid (∀ b off,ca'=some ⟨b,off,none⟩->b≠w2.heap.size):=fun b off e=>by have:=(hcar b off e).1;omega
   have hng:c.g+1<w2.heap.size+1:=by omega
   have HCC:=jg (HRE2.out (w2.heap.size+1) w2.heap.size ca' cc ts2 w5 hng HP5.out HN5.out HIR5.out HCI.out)
   go_wp2_with fail
   refine HCC.out.mono ?_
   intro e w6 hr
   obtain ⟨hfr,hr⟩:=hr
   have HG6:Hid (w.grownBy w6 (some c.g)):=⟨hfr.os.trans HG5.out.os,hfr.tape.trans HG5.out.tape,hfr.output.trans HG5.out.output,Nat.le_trans HG5.out.size hfr.size,fun k hk hne=>(hfr.block k (by have:=HG5.out.size;omega) (by simp;exact ⟨fun e=>hne (by rw [e]),by omega,by omega⟩)).trans (HG5.out.block k hk hne)⟩
   have HOR6:Hid (aD w6 w.heap.size 61 16 [.string ⟨#[]⟩,.int .i64 0,.slice none 0 0,.slice none 0 0,.slice none 0 0,.slice none 0 0,.slice none 0 0,.slice none 0 0,.int .i64 0,.int .i64 0,.int .i64 0,.slice none 0 0,.bool false,.slice none 0 0,.slice none 0 0,.int .i64 0]):=Fr.own HOR5.out hfr (fun g hg'=>by have h1:w.heap.size=g:=sI hg';simp;omega)
   rcases ho:g (i:Int) CL ts2 with n | ⟨⟨p,ins⟩,ts6⟩
   ·rw [ho] at hr HX
    simp only [bnd] at hr HX
    subst hr
    unfold cm
    go_wp2_with fail
    rw [<-HX.out]
    exact ⟨HG6.out,rfl⟩
   ·rw [ho] at hr HX
    simp only [bnd] at HX
    obtain ⟨rfl,hp6,q,hn6,hcp⟩:=hr
    have HCP:=jg hcp
    have HP6:=jg hp6
    have HN6:=jg hn6
    have HR3:=jg hn6.own.row
    have HR2:=jg HOR6.out.row
    have HI3:Hid ((Tryz.prog.info? 61).map (·.size)=some (au ⟨nm,p,ins,[],0⟩ q).toArray.size):=dE
    have ho1:Hid ((au ⟨nm,p,ins,[],0⟩ q).toArray.all (·.oneCell')=true):=by unfold Hid au;simp [Value.oneCell']
    have HSZ:Hid ((#[.string ⟨#[]⟩,.int .i64 0,.slice none 0 0,.slice none 0 0,.slice none 0 0,.slice none 0 0,.slice none 0 0,.slice none 0 0,.int .i64 0,.int .i64 0,.int .i64 0,.slice none 0 0,.bool false,.slice none 0 0,.slice none 0 0,.int .i64 0]:Array Value).size=(au ⟨nm,p,ins,[],0⟩ q).toArray.size):=rfl
    generalize hCC:(au ⟨nm,p,ins,[],0⟩ q).toArray=CC at *
    have HCCe:=jg hCC.symm
    go_wp2_with (first
     | (refine wpList_load_row rfl 61 _ rfl (w2.heap.size+1) rfl 61 CC (0,0) _ HR3.out Tryz.underlying61 rfl HI3.out ?_)
     | (refine wpList_store_row rfl 61 _ _ rfl w.heap.size CC rfl rfl 61 #[.string ⟨#[]⟩,.int .i64 0,.slice none 0 0,.slice none 0 0,.slice none 0 0,.slice none 0 0,.slice none 0 0,.slice none 0 0,.int .i64 0,.int .i64 0,.int .i64 0,.slice none 0 0,.bool false,.slice none 0 0,.slice none 0 0,.int .i64 0] HR2.out HI3.out HSZ.out ho1.out ?_))
    have hG:=iq w6 w.heap.size CC
    refine bodyPost_ret (v:=.agg CC) (results_cell_row rfl _ _ w.heap.size 61 CC (0,0) _ rfl (setRow_heap _ _ _ _ _ _ HR2.out) Tryz.underlying61 rfl HI3.out) rfl ?_
    rw [<-HX.out]
    refine ⟨bv HG6.out hG (fun k hk=>by cases hk;exact lR),q,by rw [HCCe.out],?_,PJ.grown HP6.out hG (fun k hk=>by cases hk;exact hgl),HN6.out.far.up (fun b hb=>by have:=hb.1;omega),HCP.out⟩
    exact bw.kept HN6.out.at_ hG HN6.out.far (fun b hb e=>by have:=sI e;have:=hb.1;omega)
end Jp
end Go.Proofs.YtiiliobffnhpmaaGreatDoor
