import Derived.Test.YtiiliobffnhpmaaGreatDoorGaw
import Derived.Test.YtiiliobffnhpmaaGreatDoorGay
import Derived.Test.YtiiliobffnhpmaaGreatDoorGbf
set_option linter.all false
set_option maxRecDepth 100000
set_option maxHeartbeats 4000000
namespace Go.Proofs.YtiiliobffnhpmaaGreatDoor
namespace Jp
open Go.RowKit Oo
attribute [local go_sem] an
theorem jL {α β:Type} {P:β->Prop} {o:Except Nat (α × List Tk)} {f:α->List Tk->Except Nat (β × List Tk)} (hf:∀ x ts y,f x ts=.ok y->P y.1):∀ y,bnd o f=.ok y->P y.1:=fun y h=>by
 cases o with
 | error e=>cases h
 | ok p=>exact hf _ _ y h
theorem C2 {rd:R1} {E:Nat} {ts ts':List Tk} {n:aJ} (h:lD rd E ts=.ok (n,ts')):n.op.k=1:=by
 unfold lD at h
 refine jL (P:=fun n:aJ=>n.op.k=1) (fun _ _=>jL (P:=fun n:aJ=>n.op.k=1) fun _ _=>jL (P:=fun n:aJ=>n.op.k=1) fun _ _=>jL (P:=fun n:aJ=>n.op.k=1) fun _ _ y hy=>?_) _ h
 split at hy
 ·exact jL (P:=fun n:aJ=>n.op.k=1) (fun _ _ y hy=>by cases hy;rfl) _ hy
 ·cases hy;rfl
def aX:ByteArray:=⟨#[115,116,114,101,97,109]⟩
def cA:ByteArray:=⟨#[115,105,110,107]⟩
def qU (i:Int) (cols:List Co) (ts:List Tk):Except Nat ((eJ × List Int) × List Tk):=.ok (({ aB with k:=7,c:=cols },[i]),ts)
noncomputable def dx (rd:R1) (pf:P1) (nodes:List aJ) (line:ByteArray) (ts:List Tk):Except Nat (aJ × List Tk):=
 if (cq line.size aX ts).1=true then lD rd line.size (cq line.size aX ts).2
 else if (cq line.size cA (cq line.size aX ts).2).1=true then bnd (bm line.size (cq line.size cA (cq line.size aX ts).2).2) fun nm ts=>gm nodes qU line.size nm ts
 else bnd (bm line.size (cq line.size cA (cq line.size aX ts).2).2) fun nm ts=>gm nodes (fun i cols ts=>cS rd pf nodes cols i line ts) line.size nm ts
theorem xW (c:LC) (nm:ByteArray) (i nb ib:Nat) (cols:List Co) (ca:Option Addr) (cc:Nat) (ts:List Tk) (w:World) (hgn:c.g+1<nb) (h:PJ c w ts) (hn:NB c w nb ⟨nm,{ aB with k:=0,c:=cols,ex:=[],nm:=[],ou:=false },[(i:Int)],[],0⟩ ⟨⟨none,0,none,0,ca,cc,none,0,none,0,none,0,none,0⟩,some ⟨ib,0,none⟩,1,none,0⟩) :
 Calls Tryz.prog 80 #[.pointer (some ⟨nb,0,none⟩)] w (wQ c nb ib nm w (qU (i:Int) cols ts)):=by
 have k1:=hn.own.c 1 rfl
 have kf1:=hn.own.soft 1
 have ln:=hn.own.lt
 have HPU:=jg (hn.own.put 1 (.int .i64 7))
 have HN:Hid (NB c (w.setCell ⟨nb,1,none⟩ (.int .i64 7)) nb ⟨nm,{ aB with k:=7,c:=cols,ex:=[],nm:=[],ou:=false },[(i:Int)],[],0⟩ ⟨⟨none,0,none,0,ca,cc,none,0,none,0,none,0,none,0⟩,some ⟨ib,0,none⟩,1,none,0⟩):=⟨HPU.out.1,bw.re (hn.own2 HPU.out.2) ⟨rfl,rfl⟩ ⟨rfl,rfl⟩ ⟨rfl,rfl⟩ ⟨rfl,rfl⟩ ⟨rfl,rfl⟩ ⟨rfl,rfl⟩ ⟨rfl,rfl⟩ ⟨rfl,rfl⟩ ⟨rfl,rfl⟩,hn.far.up (fun b hb=>⟨hb.1,hb.2.1,lL hb.2.2 HPU.out.2.size⟩)⟩
 have HP:=jg (h.grown HPU.out.2 (fun k hk=>by cases hk;omega))
 have HF:Hid (Fr w (w.setCell ⟨nb,1,none⟩ (.int .i64 7)) [c.g,nb,ib]):=Fr.of HPU.out.2 (fun k hk=>by cases hk;simp)
 go_in
 go_wp2_with fail
 go_end0
 exact ⟨HF.out,rfl,HP.out,_,HN.out,fun h=>absurd (show (7:Int)=6 from h.1) (by decide)⟩
theorem yj (a:Array Value) (W:World):(callFunc 80 a).run Tryz.prog W=.ok (.enter 80 a) W:=eP Tryz.func80 (by kernel_rfl) (by rfl) a W
theorem xJ (a:Array Value) (W:World):(callFunc 81 a).run Tryz.prog W=.ok (.enter 81 a) W:=eP Tryz.func81 (by kernel_rfl) (by rfl) a W
theorem xY {rd:R1} {pf:P1} (c:LC) (hE:Ah c rd pf) (hln:c.line.size<=3000) (nodes:List aJ) (hnl:c.nN=nodes.length) (hnl2:nodes.length<=4096) (hnd:eG c.w0 c.aN nodes) (hnc:∀ n∈nodes,n.cols.length<=4096) (ts:List Tk) (w:World) (h:PJ c w ts) :
 Calls Tryz.prog 33 #[.pointer (some ⟨c.g,0,none⟩)] w (Ef c w (dx rd pf nodes c.line ts)):=by
 obtain ⟨O,HX⟩:∃ O,Hid (dx rd pf nodes c.line ts=O):=⟨_,rfl⟩
 rw [HX.out]
 unfold dx at HX
 have hgl:=h.lt
 have hmf:=ff
 have HHS:=jg (jc c aX ts (w.alloc (.cells #[.string ⟨#[]⟩,.int .i64 0,.slice none 0 0,.slice none 0 0,.slice none 0 0,.slice none 0 0,.slice none 0 0,.slice none 0 0,.int .i64 0,.int .i64 0,.int .i64 0,.slice none 0 0,.bool false,.slice none 0 0,.slice none 0 0,.int .i64 0] 61)) (h.later (ae _ _)))
 unfold aX at HHS
 have HST:Hid (∀ ts W,PJ c W ts->Calls Tryz.prog 77 #[.pointer (some ⟨c.g,0,none⟩)] W (NP c W (lD rd c.line.size ts))):=fun ts W hW=>sD c hE ts W hW
 have HSK:Hid (∀ nm ts W,PJ c W ts->Calls Tryz.prog 78 #[.pointer (some ⟨c.g,0,none⟩),.string nm,.func (.func 80) #[] #[]] W (Ef c W (gm nodes qU c.line.size nm ts))):=fun nm ts W hW=>qK c nodes hnl hnl2 hnd hnc qU 80 #[] #[] yj nm (fun i nb ib ca cc ts W hi h1 h2 h3 h4 h5=>xW c nm i nb ib nodes[i].cols ca cc ts W h1 h2 h3) ts W hW
 have HWK:Hid (∀ nm ts W,PJ c W ts->Calls Tryz.prog 78 #[.pointer (some ⟨c.g,0,none⟩),.string nm,.func (.func 81) #[.pointer (some ⟨c.g,0,none⟩)] #[]] W (Ef c W (gm nodes (fun i cols ts=>cS rd pf nodes cols i c.line ts) c.line.size nm ts))):=fun nm ts W hW=>qK c nodes hnl hnl2 hnd hnc (fun i cols ts=>cS rd pf nodes cols i c.line ts) 81 #[.pointer (some ⟨c.g,0,none⟩)] #[] xJ nm (fun i nb ib ca cc ts W hi h1 h2 h3 h4 h5=>yb c hE hln nodes hnl hnl2 hnd hnc nb nm nodes[i].cols i hi ca cc ib (hnc _ (List.getElem_mem hi)) h1 ts W h2 h3 h4 h5) ts W hW
 go_in
 go_wp2_with fail
 refine HHS.out.mono ?_
 rintro e w1 ⟨he,hg,hp⟩
 rw [show (⟨#[115,116,114,101,97,109]⟩:ByteArray)=aX from rfl] at he hp
 subst he
 have HG1:=jg (ai (aj (ae w (.cells #[.string ⟨#[]⟩,.int .i64 0,.slice none 0 0,.slice none 0 0,.slice none 0 0,.slice none 0 0,.slice none 0 0,.slice none 0 0,.int .i64 0,.int .i64 0,.int .i64 0,.slice none 0 0,.bool false,.slice none 0 0,.slice none 0 0,.int .i64 0] 61))) hg)
 have HOR:=jg ((aD.new w 61 16 #[.string ⟨#[]⟩,.int .i64 0,.slice none 0 0,.slice none 0 0,.slice none 0 0,.slice none 0 0,.slice none 0 0,.slice none 0 0,.int .i64 0,.int .i64 0,.int .i64 0,.slice none 0 0,.bool false,.slice none 0 0,.slice none 0 0,.int .i64 0] rfl).grown hg (nS (by omega)))
 have HP1:=jg hp
 have hlr:=HOR.out.lt
 generalize (cq c.line.size aX ts).2=ts1 at *
 generalize hh:(cq c.line.size aX ts).1=hb at *
 cases hb with
 | true=>
  rw [if_pos rfl] at HX
  go_wp2_with fail
  refine (HST.out ts1 w1 HP1.out).mono ?_
  intro e w9 hr
  rw [HX.out] at hr
  obtain ⟨hg9,hr⟩:=hr
  have HG9:=jg (ai HG1.out hg9)
  have HOR9:=jg (HOR.out.grown hg9 (nS (by omega)))
  rcases O with n | ⟨nd,ts9⟩
  ·simp only at hr
   subst hr
   unfold cm
   go_wp2_with fail
   exact ⟨HG9.out,rfl⟩
  ·obtain ⟨q,rfl,hn9,hp9,hf9⟩:=hr
   have HFR:=jg hf9
   have hwz:=hlr
   have HP9:=jg hp9
   have HN9:=jg hn9
   have HR2:=jg HOR9.out.row
   have HI3:Hid ((Tryz.prog.info? 61).map (·.size)=some (au nd q).toArray.size):=dE
   have ho1:Hid ((au nd q).toArray.all (·.oneCell')=true):=by unfold Hid au;simp [Value.oneCell']
   have HSZ:Hid ((#[.string ⟨#[]⟩,.int .i64 0,.slice none 0 0,.slice none 0 0,.slice none 0 0,.slice none 0 0,.slice none 0 0,.slice none 0 0,.int .i64 0,.int .i64 0,.int .i64 0,.slice none 0 0,.bool false,.slice none 0 0,.slice none 0 0,.int .i64 0]:Array Value).size=(au nd q).toArray.size):=rfl
   generalize hCC:(au nd q).toArray=CC at *
   have HCCe:=jg hCC.symm
   go_wp2_with (first
    | (refine wpList_store_row rfl 61 _ _ rfl w.heap.size CC rfl rfl 61 #[.string ⟨#[]⟩,.int .i64 0,.slice none 0 0,.slice none 0 0,.slice none 0 0,.slice none 0 0,.slice none 0 0,.slice none 0 0,.int .i64 0,.int .i64 0,.int .i64 0,.slice none 0 0,.bool false,.slice none 0 0,.slice none 0 0,.int .i64 0] HR2.out HI3.out HSZ.out ho1.out ?_))
   have hG:=iq w9 w.heap.size CC
   refine bodyPost_ret (v:=.agg CC) (results_cell_row rfl _ _ w.heap.size 61 CC (0,0) _ rfl (setRow_heap _ _ _ _ _ _ HR2.out) Tryz.underlying61 rfl HI3.out) rfl ?_
   refine ⟨bv HG9.out hG (fun k hk=>by cases hk;exact lR),q,by rw [HCCe.out],?_,PJ.grown HP9.out hG (fun k hk=>by cases hk;exact hgl),HFR.out.up (fun b hb=>by omega),fun h=>absurd h.1 (by rw [C2 HX.out];decide)⟩
   exact bw.kept HN9.out hG HFR.out (fun b hb e=>by have:=sI e;omega)
 | false=>
  rw [if_neg (by simp)] at HX
  have HHT:=jg (jc c cA ts1 w1 HP1.out)
  unfold cA at HHT
  go_wp2_with fail
  refine HHT.out.mono ?_
  rintro e w2 ⟨he,hg,hp⟩
  rw [show (⟨#[115,105,110,107]⟩:ByteArray)=cA from rfl] at he hp
  subst he
  have HG2:=jg (ai HG1.out hg)
  have HOR2:=jg (HOR.out.grown hg (nS (by omega)))
  have HP2:=jg hp
  generalize (cq c.line.size cA ts1).2=ts2 at *
  generalize hh:(cq c.line.size cA ts1).1=hb at *
  have HNM:=jg (fG c ts2 w2 HP2.out)
  cases hb with
  | true=>
   rw [if_pos rfl] at HX
   go_wp2_with fail
   refine HNM.out.mono ?_
   intro e w3 hr
   rcases hr.el with ⟨n,ho,rfl,hg⟩ | ⟨nm,ts3,ho,rfl,hg,hp⟩
   ·have HG3:=jg (ai HG2.out hg)
    rw [ho] at HX
    simp only [bnd] at HX
    unfold cm
    go_wp2_with fail
    rw [<-HX.out]
    exact ⟨HG3.out,rfl⟩
   ·rw [ho] at HX
    simp only [bnd] at HX
    have HG3:=jg (ai HG2.out hg)
    have HOR:=jg (HOR2.out.grown hg (nS (by omega)))
    have HP3:=jg hp
    have hlr:=HOR.out.lt
    go_wp2_with fail
    refine (HSK.out nm ts3 w3 HP3.out).mono ?_
    intro e w9 hr
    rw [HX.out] at hr
    obtain ⟨hg9,hr⟩:=hr
    have HG9:=jg (ai HG3.out hg9)
    have HOR9:=jg (HOR.out.grown hg9 (nS (by omega)))
    rcases O with n | ⟨nd,ts9⟩
    ·simp only at hr
     subst hr
     unfold cm
     go_wp2_with fail
     exact ⟨HG9.out,rfl⟩
    ·obtain ⟨q,rfl,hn9,hp9,hf9,hcp⟩:=hr
     have HCP:=jg hcp
     have HFR:=jg hf9
     have hwz:=hlr
     have HP9:=jg hp9
     have HN9:=jg hn9
     have HR2:=jg HOR9.out.row
     have HI3:Hid ((Tryz.prog.info? 61).map (·.size)=some (au nd q).toArray.size):=dE
     have ho1:Hid ((au nd q).toArray.all (·.oneCell')=true):=by unfold Hid au;simp [Value.oneCell']
     have HSZ:Hid ((#[.string ⟨#[]⟩,.int .i64 0,.slice none 0 0,.slice none 0 0,.slice none 0 0,.slice none 0 0,.slice none 0 0,.slice none 0 0,.int .i64 0,.int .i64 0,.int .i64 0,.slice none 0 0,.bool false,.slice none 0 0,.slice none 0 0,.int .i64 0]:Array Value).size=(au nd q).toArray.size):=rfl
     generalize hCC:(au nd q).toArray=CC at *
     have HCCe:=jg hCC.symm
     go_wp2_with (first
      | (refine wpList_store_row rfl 61 _ _ rfl w.heap.size CC rfl rfl 61 #[.string ⟨#[]⟩,.int .i64 0,.slice none 0 0,.slice none 0 0,.slice none 0 0,.slice none 0 0,.slice none 0 0,.slice none 0 0,.int .i64 0,.int .i64 0,.int .i64 0,.slice none 0 0,.bool false,.slice none 0 0,.slice none 0 0,.int .i64 0] HR2.out HI3.out HSZ.out ho1.out ?_))
     have hG:=iq w9 w.heap.size CC
     refine bodyPost_ret (v:=.agg CC) (results_cell_row rfl _ _ w.heap.size 61 CC (0,0) _ rfl (setRow_heap _ _ _ _ _ _ HR2.out) Tryz.underlying61 rfl HI3.out) rfl ?_
     refine ⟨bv HG9.out hG (fun k hk=>by cases hk;exact lR),q,by rw [HCCe.out],?_,PJ.grown HP9.out hG (fun k hk=>by cases hk;exact hgl),HFR.out.up (fun b hb=>by omega),HCP.out⟩
     exact bw.kept HN9.out hG HFR.out (fun b hb e=>by have:=sI e;omega)
  | false=>
   rw [if_neg (by simp)] at HX
   go_wp2_with fail
   refine HNM.out.mono ?_
   intro e w3 hr
   rcases hr.el with ⟨n,ho,rfl,hg⟩ | ⟨nm,ts3,ho,rfl,hg,hp⟩
   ·have HG3:=jg (ai HG2.out hg)
    rw [ho] at HX
    simp only [bnd] at HX
    unfold cm
    go_wp2_with fail
    rw [<-HX.out]
    exact ⟨HG3.out,rfl⟩
   ·rw [ho] at HX
    simp only [bnd] at HX
    have HG3:=jg (ai HG2.out hg)
    have HOR:=jg (HOR2.out.grown hg (nS (by omega)))
    have HP3:=jg hp
    have hlr:=HOR.out.lt
    go_wp2_with fail
    refine (HWK.out nm ts3 w3 HP3.out).mono ?_
    intro e w9 hr
    rw [HX.out] at hr
    obtain ⟨hg9,hr⟩:=hr
    have HG9:=jg (ai HG3.out hg9)
    have HOR9:=jg (HOR.out.grown hg9 (nS (by omega)))
    rcases O with n | ⟨nd,ts9⟩
    ·simp only at hr
     subst hr
     unfold cm
     go_wp2_with fail
     exact ⟨HG9.out,rfl⟩
    ·obtain ⟨q,rfl,hn9,hp9,hf9,hcp⟩:=hr
     have HCP:=jg hcp
     have HFR:=jg hf9
     have hwz:=hlr
     have HP9:=jg hp9
     have HN9:=jg hn9
     have HR2:=jg HOR9.out.row
     have HI3:Hid ((Tryz.prog.info? 61).map (·.size)=some (au nd q).toArray.size):=dE
     have ho1:Hid ((au nd q).toArray.all (·.oneCell')=true):=by unfold Hid au;simp [Value.oneCell']
     have HSZ:Hid ((#[.string ⟨#[]⟩,.int .i64 0,.slice none 0 0,.slice none 0 0,.slice none 0 0,.slice none 0 0,.slice none 0 0,.slice none 0 0,.int .i64 0,.int .i64 0,.int .i64 0,.slice none 0 0,.bool false,.slice none 0 0,.slice none 0 0,.int .i64 0]:Array Value).size=(au nd q).toArray.size):=rfl
     generalize hCC:(au nd q).toArray=CC at *
     have HCCe:=jg hCC.symm
     go_wp2_with (first
      | (refine wpList_store_row rfl 61 _ _ rfl w.heap.size CC rfl rfl 61 #[.string ⟨#[]⟩,.int .i64 0,.slice none 0 0,.slice none 0 0,.slice none 0 0,.slice none 0 0,.slice none 0 0,.slice none 0 0,.int .i64 0,.int .i64 0,.int .i64 0,.slice none 0 0,.bool false,.slice none 0 0,.slice none 0 0,.int .i64 0] HR2.out HI3.out HSZ.out ho1.out ?_))
     have hG:=iq w9 w.heap.size CC
     refine bodyPost_ret (v:=.agg CC) (results_cell_row rfl _ _ w.heap.size 61 CC (0,0) _ rfl (setRow_heap _ _ _ _ _ _ HR2.out) Tryz.underlying61 rfl HI3.out) rfl ?_
     refine ⟨bv HG9.out hG (fun k hk=>by cases hk;exact lR),q,by rw [HCCe.out],?_,PJ.grown HP9.out hG (fun k hk=>by cases hk;exact hgl),HFR.out.up (fun b hb=>by omega),HCP.out⟩
     exact bw.kept HN9.out hG HFR.out (fun b hb e=>by have:=sI e;omega)
end Jp
namespace Jp
open Go.RowKit Oo
def iX (s:ByteArray):Prop:=pg s=true/\pF s=false
def Nu (rd:R1) (n:Int):Prop:=∃ s,Bp.TkOk 2 s/\s.size<=3000/\rd s=some n
def CV (pf:P1) (x:ByteArray):Prop:=∃ s,s.size<=3000/\pf s=.ok x/\x.size<=200
def fC (nodes:List aJ) (i:Int):Prop:=∃ (j:Nat) (s:ByteArray),i=(j:Int)/\iX s/\dN nodes s=some j/\(nodes[j]?.map fun n=>n.op.k)≠some 7
def fH (c:List Co) (i:Int):Prop:=∃ (j:Nat) (s:ByteArray),i=(j:Int)/\iX s/\ch c s=some j
def jT (rd:R1) (v:Int × Int × Int):Prop:=(v.1=4/\v.2.1=0/\v.2.2=0)\/(v.1=2/\Nu rd v.2.1/\Nu rd v.2.2)\/((v.1=1\/v.1=3)/\Nu rd v.2.1/\v.2.2=0)
def qH (c:List Co) (a:Oo.Ag):Prop:=(a.k=1/\a.at_=-1)\/(2<=a.k/\a.k<=7/\fH c a.at_)
def Ax (x:Co):Prop:=iX x.nm/\(x.k=1\/x.k=2\/x.k=3)
theorem py:∀ (n pl:Nat) (l:List UInt8) (ts:List Tk),tok n pl l=.ok ts->(∀ t∈ts,pl<=t.pl)/\BM (pl+l.length) ts
 | n,pl,[],ts,h=>by
  have:tok n pl []=.ok []:=by cases n<;>rfl
  rw [this] at h
  cases h
  refine ⟨fun t ht=>?_,List.Pairwise.nil,fun t ht=>?_⟩<;>cases ht
 | 0,pl,c::r,ts,h=>by cases h
 | n+1,pl,c::r,ts,h=>by
  cases hs:eO c with
  | true=>
   rw [kL hs] at h
   obtain ⟨h1,h2,h3⟩:=py n _ _ _ h
   simp only [List.length_cons]
   exact ⟨fun t ht=>by have:=h1 t ht;omega,h2,fun t ht=>by have:=h3 t ht;omega⟩
  | false=>
   cases ht:bJ (c::r) with
   | none=>rw [mh hs ht] at h;cases h
   | some p=>
    obtain ⟨kd,m⟩:=p
    rw [mQ hs ht] at h
    obtain ⟨hm0,hm1⟩:=fh ht
    cases hq:tok n (pl+m) ((c::r).drop m) with
    | error e=>rw [hq] at h;cases h
    | ok l'=>
     rw [hq] at h
     cases h
     obtain ⟨h1,h2,h3⟩:=py n _ _ _ hq
     have hz:(⟨((c::r).take m).toArray⟩:ByteArray).size=m:=by
      show (((c::r).take m).toArray).size=m
      rw [List.size_toArray,List.length_take]
      omega
     refine ⟨fun t ht'=>?_,List.pairwise_cons.2 ⟨fun t ht'=>?_,h2⟩,fun t ht'=>?_⟩
     ·rcases List.mem_cons.1 ht' with rfl | ht'
      ·exact lR
      ·have:=h1 t ht';omega
     ·show pl+(⟨((c::r).take m).toArray⟩:ByteArray).size<=t.pl
      rw [hz];exact h1 t ht'
     ·rcases List.mem_cons.1 ht' with rfl | ht'
      ·show pl+(⟨((c::r).take m).toArray⟩:ByteArray).size<=_
       rw [hz];omega
      ·have:=h3 t ht'
       rw [List.length_drop] at this
       omega
def gd {α:Type} (o:Except Nat (α × List Tk)) (ts:List Tk) (P:α->Prop):Prop:=∀ x ts',o=.ok (x,ts')->P x/\ts' <:+ ts
theorem gd.bnd {α β:Type} {o:Except Nat (α × List Tk)} {ts:List Tk} {P:α->Prop} {Q:β->Prop} {f:α->List Tk->Except Nat (β × List Tk)} (h:gd o ts P) (hf:∀ x ts1,P x->ts1 <:+ ts->gd (f x ts1) ts1 Q):gd (Jp.bnd o f) ts Q:=by
 intro y ts' e
 cases o with
 | error n=>cases e
 | ok p=>
  obtain ⟨x,ts1⟩:=p
  obtain ⟨h1,h2⟩:=h x ts1 rfl
  obtain ⟨h3,h4⟩:=hf x ts1 h1 h2 y ts' e
  exact ⟨h3,h4.trans h2⟩
theorem gd.ok {α:Type} {x:α} {ts:List Tk} {P:α->Prop} (h:P x):gd (.ok (x,ts)) ts P:=fun y ts' e=>by cases e;exact ⟨h,List.suffix_refl _⟩
theorem gd.err {α:Type} {n:Nat} {ts:List Tk} {P:α->Prop}:gd (.error n) ts P:=fun y ts' e=>by cases e
theorem gd.sub {α:Type} {o:Except Nat (α × List Tk)} {ts ts0:List Tk} {P:α->Prop} (h:gd o ts P) (hs:ts <:+ ts0):gd o ts0 P:=fun x ts' e=>⟨(h x ts' e).1,(h x ts' e).2.trans hs⟩
theorem gd.mono {α:Type} {o:Except Nat (α × List Tk)} {ts:List Tk} {P Q:α->Prop} (h:gd o ts P) (hs:∀ x,P x->Q x):gd o ts Q:=fun x ts' e=>⟨hs x (h x ts' e).1,(h x ts' e).2⟩
theorem nF {α:Type} {P:α->Prop} {E:Nat} {f:List Tk->Except Nat (α × List Tk)} {sep:ByteArray} {ts0:List Tk} (hf:∀ ts,ts <:+ ts0->gd (f ts) ts P):∀ (n:Nat) (acc:List α) (ts:List Tk),ts <:+ ts0->(∀ x∈acc,P x)->gd (eD E f sep n acc ts) ts (fun l=>(∀ x∈l,P x)/\acc.length<=l.length/\l.length<=acc.length+n)
 | 0,acc,ts,hs,ha=>by rw [eD];exact .ok ⟨ha,lR,lR⟩
 | n+1,acc,ts,hs,ha=>by
  rw [eD]
  split
  ·have hs1:=List.tail_suffix ts
   cases hq:f ts.tail with
   | error e=>exact .err
   | ok p=>
    obtain ⟨x,ts1⟩:=p
    obtain ⟨h1,h2⟩:=hf ts.tail (hs1.trans hs) x ts1 hq
    refine ((nF hf n (acc++[x]) ts1 (h2.trans (hs1.trans hs)) (fun y hy=>?_)).mono fun l hl=>?_).sub (h2.trans hs1)
    ·rcases List.mem_append.1 hy with hy | hy
     ·exact ha y hy
     ·simp at hy;subst hy;exact h1
    ·obtain ⟨a1,a2,a3⟩:=hl
     simp at a2 a3
     exact ⟨a1,by omega,by omega⟩
  ·exact .ok ⟨ha,lR,by omega⟩
theorem fi {α:Type} {P:α->Prop} {E:Nat} {f:List Tk->Except Nat (α × List Tk)} {sep:ByteArray} {ts:List Tk} (hf:∀ ts1,ts1 <:+ ts->gd (f ts1) ts1 P):gd (bg E f sep ts) ts (fun l=>(∀ x∈l,P x)/\l≠[]/\l.length<=ts.length+2):=by
 unfold bg
 cases hq:f ts with
 | error e=>exact .err
 | ok p=>
  obtain ⟨x,ts1⟩:=p
  obtain ⟨h1,h2⟩:=hf ts (List.suffix_refl _) x ts1 hq
  have hle:=h2.length_le
  refine ((nF (ts0:=ts) hf (ts1.length+1) [x] ts1 h2 (fun y hy=>by simp at hy;subst hy;exact h1)).mono fun l hl=>?_).sub h2
  obtain ⟨a1,a2,a3⟩:=hl
  simp at a2 a3
  exact ⟨a1,fun e=>by subst e;simp at a2,by omega⟩
theorem eT (E:Nat) (ts:List Tk):gd (bm E ts) ts iX:=by
 unfold bm
 split
 ·exact .err
 ·split
  ·rename_i h
   exact (gd.ok (ts:=ts.tail) (P:=iX) ⟨h.1,h.2⟩).sub (List.tail_suffix ts)
  ·exact .err
theorem cD (E:Nat) (l:List ByteArray) (ts:List Tk):gd (aM E l ts) ts (fun s=>s∈l):=by
 unfold aM
 split
 ·rename_i h
  exact (gd.ok (ts:=ts.tail) (P:=fun s=>s∈l) ((fq _ _).1 h)).sub (List.tail_suffix ts)
 ·exact .err
theorem eq (E:Nat) (x:ByteArray) (ts:List Tk):(cq E x ts).2 <:+ ts:=by
 unfold cq
 split
 ·exact List.tail_suffix ts
 ·exact List.suffix_refl _
def wn (ts:List Tk):Prop:=∀ t∈ts,Bp.TkOk t.kd t.tx/\t.tx.size<=3000
theorem wn.sub {ts ts':List Tk} (h:wn ts) (hs:ts' <:+ ts):wn ts':=fun t ht=>h t (hs.subset ht)
theorem CU {E:Nat} {ts:List Tk} (h:(hd E ts).kd≠0):hd E ts∈ts:=by
 cases ts with
 | nil=>exact absurd rfl h
 | cons t ts=>simp [hd]
theorem oK {rd:R1} (E:Nat) {ts:List Tk} (hT:wn ts):gd (jW rd E ts) ts (Nu rd):=by
 unfold jW
 split
 ·rename_i hk
  split
  ·rename_i n hn
   have:=hT _ (CU (E:=E) (ts:=ts) (by rw [hk];decide))
   rw [hk] at this
   exact (gd.ok (ts:=ts.tail) (P:=Nu rd) ⟨_,this.1,this.2,hn⟩).sub (List.tail_suffix ts)
  ·exact .err
 ·exact .err
theorem sO (ws:List (ByteArray × Int)) (E:Nat) (ts:List Tk):gd (nq ws E ts) ts (fun k=>∃ s,(s,k)∈ws):=by
 unfold nq
 split
 ·rename_i n hn
  refine (gd.ok (ts:=ts.tail) (P:=fun k=>∃ s,(s,k)∈ws) ?_).sub (List.tail_suffix ts)
  unfold lW at hn
  rw [Option.map_eq_some_iff] at hn
  obtain ⟨⟨s,k⟩,h1,h2⟩:=hn
  have:=List.mem_of_find?_eq_some h1
  exact ⟨s,by rw [<-h2];exact this⟩
 ·exact .err
theorem sH (nodes:List aJ) (E:Nat) (ts:List Tk):gd (lM nodes E ts) ts (fC nodes):=by
 intro x ts' e
 unfold lM at e
 cases hn:bm E ts with
 | error n=>rw [hn] at e;cases e
 | ok p=>
  obtain ⟨s,ts1⟩:=p
  rw [hn] at e
  obtain ⟨h1,h2⟩:=eT E ts s ts1 hn
  simp only at e
  split at e
  ·cases e
  ·rename_i i hi
   split at e
   ·cases e
   ·rename_i h7
    cases e
    exact ⟨⟨i,s,rfl,h1,hi,h7⟩,h2⟩
theorem lF (c:List Co) (E:Nat) (ts:List Tk):gd (fK c E ts) ts (fH c):=by
 intro x ts' e
 unfold fK at e
 cases hn:bm E ts with
 | error n=>rw [hn] at e;cases e
 | ok p=>
  obtain ⟨s,ts1⟩:=p
  rw [hn] at e
  obtain ⟨h1,h2⟩:=eT E ts s ts1 hn
  simp only at e
  split at e
  ·cases e
  ·rename_i i hi
   cases e
   exact ⟨⟨i,s,rfl,h1,hi⟩,h2⟩
theorem qO:∀ (ts:List Tk) (o q:Nat),(cW o q ts).2 <:+ ts
 | [],o,q=>List.suffix_refl _
 | t::ts,o,q=>by
  rw [cW]
  split
  ·exact List.suffix_refl _
  ·exact (qO ts _ _).trans (List.suffix_cons _ _)
theorem AD (s:ByteArray) (f t:Nat):(sub s f t).size<=s.size:=by
 show ((s.data.toList.drop f).take (t-f)).toArray.size<=s.size
 rw [List.size_toArray,List.length_take,List.length_drop]
 have:s.data.toList.length=s.size:=by simp
 omega
theorem qt {pf:P1} (line:ByteArray) (hl:line.size<=3000) (ts:List Tk):gd (eU pf line ts) ts (CV pf):=by
 unfold eU
 split
 ·exact .err
 ·rename_i s hs
  split
  ·exact .err
  ·exact (gd.ok (ts:=(cW 0 (hd line.size ts).pl ts).2) (P:=CV pf) ⟨_,Nat.le_trans (AD _ _ _) hl,hs,by omega⟩).sub (qO _ _ _)
theorem uk {rd:R1} (E:Nat) {ts:List Tk} (hT:wn ts):gd (kR rd E ts) ts (jT rd):=by
 unfold kR
 refine (cD E _ ts).bnd fun _ ts1 _ h1=>?_
 refine (sO bE E ts1).bnd fun k ts2 hk h2=>?_
 have hT2:=(hT.sub h1).sub h2
 split
 ·rename_i h4
  exact .ok (.inl ⟨h4,rfl,rfl⟩)
 ·rename_i h4
  refine (oK E hT2).bnd fun s ts3 hs h3=>?_
  split
  ·rename_i hk2
   refine (cD E _ ts3).bnd fun _ ts4 _ h4'=>?_
   exact (oK E ((hT2.sub h3).sub h4')).bnd fun t ts5 ht h5=>.ok (.inr (.inl ⟨hk2,hs,ht⟩))
  ·rename_i hk2
   refine .ok (.inr (.inr ⟨?_,hs,rfl⟩))
   obtain ⟨s',hm⟩:=hk
   simp [bE] at hm
   rcases hm with ⟨_,h⟩ | ⟨_,h⟩ | ⟨_,h⟩ | ⟨_,h⟩<;>simp_all
theorem As (c:List Co) (E:Nat) (ts:List Tk):gd (jk c E ts) ts (qH c):=by
 unfold jk
 refine (sO dh E ts).bnd fun k ts1 hk h1=>?_
 refine (cD E _ ts1).bnd fun _ ts2 _ h2=>?_
 split
 ·rename_i h
  exact (cD E _ ts2).bnd fun _ ts3 _ h3=>.ok (.inl ⟨h,rfl⟩)
 ·rename_i h
  refine (lF c E ts2).bnd fun a ts3 ha h3=>?_
  refine (cD E _ ts3).bnd fun _ ts4 _ h4=>.ok (.inr ?_)
  obtain ⟨s',hm⟩:=hk
  simp [dh] at hm
  rcases hm with ⟨_,h⟩ | ⟨_,h⟩ | ⟨_,h⟩ | ⟨_,h⟩ | ⟨_,h⟩ | ⟨_,h⟩ | ⟨_,h⟩<;>first | exact absurd h (by assumption) | exact ⟨by show 2<=k;omega,by show k<=7;omega,ha⟩
inductive jV (rd:R1) (pf:P1) (nodes:List aJ):aJ->Prop
 | stream (nm:ByteArray) (cs:List Co) (bd:Int):iX nm->cs≠[]->cs.length<=3002->(∀ x∈cs,Ax x)->(bd=0\/Nu rd bd)->jV rd pf nodes ⟨nm,{ aB with k:=1,c:=cs },[],[],bd⟩
 | sink (nm:ByteArray) (i:Int):iX nm->fC nodes i->jV rd pf nodes ⟨nm,{ aB with k:=7,c:=ak nodes i },[i],[],0⟩
 | wher (nm:ByteArray) (i:Int) (x:ByteArray):iX nm->fC nodes i->CV pf x->jV rd pf nodes ⟨nm,{ aB with k:=2,c:=ak nodes i,ex:=[x] },[i],[],0⟩
 | selct (nm:ByteArray) (i:Int) (l:List (ByteArray × ByteArray)):iX nm->fC nodes i->l≠[]->l.length<=3002->(∀ p∈l,iX p.1/\CV pf p.2)->jV rd pf nodes ⟨nm,{ aB with k:=3,c:=ak nodes i,ex:=l.map (·.2),nm:=l.map (·.1) },[i],[],0⟩
 | wind (nm:ByteArray) (i:Int) (ks:List Int) (v:Int × Int × Int) (l:List (ByteArray × Oo.Ag)):iX nm->fC nodes i->ks.length<=3002->l.length<=3002->(∀ k∈ks,fH (ak nodes i) k)->jT rd v->(∀ p∈l,iX p.1/\qH (ak nodes i) p.2)->jV rd pf nodes ⟨nm,{ aB with k:=4,c:=ak nodes i,nm:=l.map (·.1),ks:=ks,wk:=v.1,ws:=v.2.1,wt:=v.2.2,ag:=l.map (·.2) },[i],[],0⟩
 | union (nm:ByteArray) (i:Int) (l:List Int):iX nm->fC nodes i->l≠[]->l.length<=3002->(∀ j∈l,fC nodes j)->(i::l).all (fun j=>zN (ak nodes j) (ak nodes i))=true->jV rd pf nodes ⟨nm,{ aB with k:=6,c:=ak nodes i },i::l,[],0⟩
 | join (nm:ByteArray) (i j:Int) (ou:Bool) (l:List (Int × Int)) (v:Int × Int × Int):iX nm->fC nodes i->fC nodes j->l≠[]->l.length<=3002->(∀ p∈l,fH (ak nodes i) p.1/\fH (ak nodes j) p.2)->jT rd v->jV rd pf nodes ⟨nm,{ aB with k:=5,c:=ak nodes i,r:=ak nodes j,ks:=l.map (·.1),os:=l.map (·.2),wk:=v.1,ws:=v.2.1,wt:=v.2.2,ou:=ou },[i,j],[],0⟩
theorem AJ {rd:R1} {pf:P1} {nodes:List aJ} (E:Nat) {ts:List Tk} (hT:wn ts) (hz:ts.length<=3000):gd (lD rd E ts) ts (jV rd pf nodes):=by
 unfold lD
 refine (eT E ts).bnd fun s ts1 hs h1=>?_
 refine (cD E _ ts1).bnd fun _ ts2 _ h2=>?_
 refine (fi (P:=fun p:Co × Unit=>Ax p.1) fun ts' hs'=>?_).bnd fun l ts3 hl h3=>?_
 ·unfold iT
  refine (eT E ts').bnd fun s ts1 hs h1=>?_
  refine (sO bF E ts1).bnd fun k ts2 hk h2=>.ok ⟨hs,?_⟩
  obtain ⟨s',hm⟩:=hk
  simp [bF] at hm
  rcases hm with ⟨_,h⟩ | ⟨_,h⟩ | ⟨_,h⟩<;>subst h<;>simp
 ·obtain ⟨a1,a2,a3⟩:=hl
  have hle:ts2.length<=3000:=by have:=h1.length_le;have:=h2.length_le;omega
  refine (cD E _ ts3).bnd fun _ ts4 _ h4=>?_
  have hc:∀ x∈l.map (·.1),Ax x:=fun x hx=>by
   obtain ⟨p,hp,rfl⟩:=List.mem_map.1 hx
   exact a1 p hp
  split
  ·exact ((oK E (((((hT.sub h1).sub h2).sub h3).sub h4).sub (eq _ _ _))).bnd fun n ts5 hn h5=>.ok (.stream _ _ _ hs (by simpa using a2) (by simp;omega) hc (.inr hn))).sub (eq _ _ _)
  ·exact (gd.ok (.stream _ _ _ hs (by simpa using a2) (by simp;omega) hc (.inl rfl))).sub (eq _ _ _)
theorem qd {rd:R1} {pf:P1} {nodes:List aJ} {g:Int->List Co->List Tk->Except Nat ((eJ × List Int) × List Tk)} (E:Nat) {nm:ByteArray} {ts:List Tk} (hT:wn ts) (hz:ts.length<=3000) (hg:∀ i ts1,fC nodes i->wn ts1->ts1.length<=3000->gd (g i (ak nodes i) ts1) ts1 (fun p=>jV rd pf nodes ⟨nm,p.1,p.2,[],0⟩)):gd (gm nodes g E nm ts) ts (jV rd pf nodes):=by
 unfold gm
 refine (cD E _ ts).bnd fun _ ts1 _ h1=>?_
 refine (sH nodes E ts1).bnd fun i ts2 hi h2=>?_
 exact (hg i ts2 hi ((hT.sub h1).sub h2) (by have:=h1.length_le;have:=h2.length_le;omega)).bnd fun p ts3 hp h3=>.ok hp
theorem sC {rd:R1} (cols:List Co) (E:Nat) {ts:List Tk} (hT:wn ts) (hz:ts.length<=3000):gd (fX rd cols E ts) ts (fun p=>∃ (ks:List Int) (v:Int × Int × Int) (l:List (ByteArray × Oo.Ag)),p={ aB with k:=4,c:=cols,nm:=l.map (·.1),ks:=ks,wk:=v.1,ws:=v.2.1,wt:=v.2.2,ag:=l.map (·.2) }/\ks.length<=3002/\l.length<=3002/\(∀ k∈ks,fH cols k)/\jT rd v/\(∀ p∈l,iX p.1/\qH cols p.2)):=by
 unfold fX
 have hk:gd (me cols E ts) ts (fun ks=>ks.length<=3002/\∀ k∈ks,fH cols k):=by
  unfold me
  split
  ·exact (gd.ok ⟨by simp,fun k hk=>by cases hk⟩).sub (eq _ _ _)
  ·refine ((fi (P:=fun p:Int × Unit=>fH cols p.1) fun ts' hs'=>?_).bnd fun l ts3 hl h3=>.ok ⟨?_,?_⟩).sub (eq _ _ _)
   ·unfold kT
    exact (lF cols E ts').bnd fun x ts1 hx h1=>.ok hx
   ·have:=(eq E cP ts).length_le
    have:=hl.2.2
    simp;omega
   ·intro k hk
    obtain ⟨p,hp,rfl⟩:=List.mem_map.1 hk
    exact hl.1 p hp
 refine hk.bnd fun ks ts1 hks h1=>?_
 refine (uk E (hT.sub h1)).bnd fun v ts2 hv h2=>?_
 have hle:ts2.length<=3000:=by have:=h1.length_le;have:=h2.length_le;omega
 split
 ·refine ((fi (P:=fun p:ByteArray × Oo.Ag=>iX p.1/\qH cols p.2) fun ts' hs'=>?_).bnd fun l ts3 hl h3=>.ok ⟨ks,v,l,rfl,hks.1,?_,hks.2,hv,hl.1⟩).sub (eq _ _ _)
  ·unfold kB
   refine (As cols E ts').bnd fun y ts1 hy h1=>?_
   refine (cD E _ ts1).bnd fun _ ts2 _ h2=>?_
   exact (eT E ts2).bnd fun x ts3 hx h3=>.ok ⟨hx,hy⟩
  ·have:=(eq E eK ts2).length_le
   have:=hl.2.2
   omega
 ·exact (gd.ok ⟨ks,v,[],rfl,hks.1,by simp,hks.2,hv,fun p hp=>by cases hp⟩).sub (eq _ _ _)
theorem rP {rd:R1} {pf:P1} {nodes:List aJ} (nm:ByteArray) (hnm:iX nm) (i:Int) (hi:fC nodes i) (ou:Bool) (E:Nat) {ts:List Tk} (hT:wn ts) (hz:ts.length<=3000):gd (jt rd nodes (ak nodes i) ou i E ts) ts (fun p=>jV rd pf nodes ⟨nm,p.1,p.2,[],0⟩):=by
 unfold jt
 refine (sH nodes E ts).bnd fun j ts1 hj h1=>?_
 refine (cD E _ ts1).bnd fun _ ts2 _ h2=>?_
 refine (fi (P:=fun p:Int × Int=>fH (ak nodes i) p.1/\fH (ak nodes j) p.2) fun ts' hs'=>?_).bnd fun l ts3 hl h3=>?_
 ·unfold gx
  refine (lF _ E ts').bnd fun x ts1 hx h1=>?_
  refine (cD E _ ts1).bnd fun _ ts2 _ h2=>?_
  exact (lF _ E ts2).bnd fun y ts3 hy h3=>.ok ⟨hx,hy⟩
 ·refine (uk E (((hT.sub h1).sub h2).sub h3)).bnd fun v ts4 hv h4=>.ok (.join nm i j ou l v hnm hi hj hl.2.1 ?_ hl.1 hv)
  have:=h1.length_le;have:=h2.length_le;have:=hl.2.2;omega
theorem zH {rd:R1} {pf:P1} {nodes:List aJ} (nm:ByteArray) (hnm:iX nm) (line:ByteArray) (hln:line.size<=3000) (i:Int) (ts:List Tk) (hi:fC nodes i) (hT:wn ts) (hz:ts.length<=3000):gd (cS rd pf nodes (ak nodes i) i line ts) ts (fun p=>jV rd pf nodes ⟨nm,p.1,p.2,[],0⟩):=by
 unfold cS
 refine (cD _ _ ts).bnd fun s ts1 hs h1=>?_
 have hT1:=hT.sub h1
 have hz1:ts1.length<=3000:=by have:=h1.length_le;omega
 split
 ·exact (qt line hln ts1).bnd fun x ts2 hx h2=>.ok (.wher nm i x hnm hi hx)
 split
 ·refine (fi (P:=fun p:ByteArray × ByteArray=>iX p.1/\CV pf p.2) fun ts' hs'=>?_).bnd fun l ts3 hl h3=>.ok (.selct nm i l hnm hi hl.2.1 ?_ hl.1)
  ·unfold kF
   refine (qt line hln ts').bnd fun y ts1 hy h1=>?_
   refine (cD _ _ ts1).bnd fun _ ts2 _ h2=>?_
   exact (eT _ ts2).bnd fun x ts3 hx h3=>.ok ⟨hx,hy⟩
  ·have:=hl.2.2;omega
 split
 ·unfold oS
  refine (sC _ _ hT1 hz1).bnd fun p ts2 hp h2=>?_
  obtain ⟨ks,v,l,rfl,a1,a2,a3,a4,a5⟩:=hp
  exact .ok (.wind nm i ks v l hnm hi a1 a2 a3 a4 a5)
 split
 ·unfold jD
  refine (fi (P:=fun p:Int × Unit=>fC nodes p.1) fun ts' hs'=>?_).bnd fun l ts3 hl h3=>?_
  ·unfold em
   exact (sH nodes _ ts').bnd fun x ts1 hx h1=>.ok hx
  ·split
   ·rename_i ha
    refine .ok (.union nm i (l.map (·.1)) hnm hi (by simpa using hl.2.1) (by have:=hl.2.2;simp;omega) (fun j hj=>?_) ha)
    obtain ⟨p,hp,rfl⟩:=List.mem_map.1 hj
    exact hl.1 p hp
   ·exact .err
 split
 ·exact (cD _ _ ts1).bnd fun _ ts2 _ h2=>rP nm hnm i hi true _ (hT1.sub h2) (by have:=h2.length_le;omega)
 ·exact rP nm hnm i hi false _ hT1 hz1
theorem qJ {rd:R1} {pf:P1} {nodes:List aJ} (line:ByteArray) (hln:line.size<=3000) {ts:List Tk} (hT:wn ts) (hz:ts.length<=3000):gd (dx rd pf nodes line ts) ts (jV rd pf nodes):=by
 unfold dx
 have hs1:=eq line.size aX ts
 have hs2:=eq line.size cA (cq line.size aX ts).2
 have hT1:=hT.sub hs1
 have hT2:=hT1.sub hs2
 have l1:=hs1.length_le
 have l2:=hs2.length_le
 split
 ·exact (AJ line.size hT1 (by omega)).sub hs1
 split
 ·refine ((eT line.size _).bnd fun nm ts3 hnm h3=>?_).sub (hs2.trans hs1)
  exact qd line.size (hT2.sub h3) (by have:=h3.length_le;omega) fun i ts4 hi _ _=>.ok (.sink nm i hnm hi)
 ·refine ((eT line.size _).bnd fun nm ts3 hnm h3=>?_).sub (hs2.trans hs1)
  exact qd line.size (hT2.sub h3) (by have:=h3.length_le;omega) fun i ts4 hi hT4 hz4=>zH nm hnm line hln i ts4 hi hT4 hz4
theorem bD {s:ByteArray} (h:iX s):s.size<=12:=by
 have:=h.1
 unfold pg at this
 simp at this
 exact this.2
theorem tS {s:ByteArray} {ts:List Tk} (hs:s.size<=3000) (h:tok s.size 0 s.data.toList=.ok ts):wn ts:=fun t ht=>by
 refine ⟨Bp.tok_tk _ _ _ _ h t ht,?_⟩
 have:=((fS _ _ _ _ h).2 t ht).2.2
 have e:s.data.toList.length=s.size:=by simp
 omega
open Classical in
noncomputable def po (cols:List Co) (bd:Int):Option Nat:=if 8<cols.length then some 5 else if bP cols then (if 1048576<bd then some 4 else none) else some 2
def Cq:Option Nat->Value
 | none=>.nilIface
 | some n=>.iface 37 (.int .i64 n)
theorem AO (n:aJ) (q:bM) (w:World) (hc:ap w q.p.ca n.op.c) (hl:n.op.c.length<=4096) (hz:∀ x∈n.op.c,x.nm.size<=140737488355328) :
 Calls Tryz.prog 85 #[.agg (au n q).toArray] w fun e w'=>e=.returned (Cq (po n.op.c n.bd))/\Below w.heap.size w w':=by
 have HC:=jg hc
 have HZ:=jg hz
 obtain ⟨O,HX⟩:∃ O,Hid (po n.op.c n.bd=O):=⟨_,rfl⟩
 rw [HX.out]
 unfold po at HX
 unfold au
 have HB0:Hid (∀ o,Below w.heap.size w (w.alloc o)):=fun o=>ae _ _
 have HY:Hid (∀ W,Below w.heap.size w W->bP n.op.c->Calls Tryz.prog 147 #[.slice q.p.ca n.op.c.length q.p.cc] W fun e w'=>e=.returned (.bool true)/\Below W.heap.size W w'):=fun W hW hx=>jQ hx _ _ W (HC.out.later hW) (by unfold maxLen;omega) HZ.out
 have HNO:Hid (∀ W,Below w.heap.size w W->¬ bP n.op.c->Calls Tryz.prog 147 #[.slice q.p.ca n.op.c.length q.p.cc] W fun e w'=>e=.returned (.bool false)/\Below W.heap.size W w'):=fun W hW hx=>lJ hx _ _ W (HC.out.later hW) (by unfold maxLen;omega) HZ.out
 by_cases h8:8<n.op.c.length
 ·rw [if_pos h8] at HX
  have h8i:(8:Int)<(n.op.c.length:Int):=by omega
  go_in
  go_wp2_with fail
  go_ret
  rw [<-HX.out]
  exact ⟨rfl,HB0.out _⟩
 ·rw [if_neg h8] at HX
  have h8i:¬ (8:Int)<(n.op.c.length:Int):=by omega
  go_in
  go_wp2_with fail
  by_cases hx:bP n.op.c
  ·rw [if_pos hx] at HX
   refine (HY.out _ (HB0.out _) hx).mono ?_
   rintro e w1 ⟨rfl,hb1⟩
   have HB1:=jg ((HB0.out _).trans (hb1.mono (HB0.out _).size))
   have e15:=af hb1 (show (w.alloc (.cells (au n q).toArray 61)).cell? ⟨w.heap.size,15,none⟩=some (.int .i64 n.bd) by rw [(aD.new w 61 16 (au n q).toArray rfl).cell 15 (by decide)];rfl)
   have hl1:=bL e15
   by_cases hbd:1048576<n.bd
   ·rw [if_pos hbd] at HX
    go_wp2_with fail
    go_ret
    rw [<-HX.out]
    exact ⟨rfl,HB1.out⟩
   ·rw [if_neg hbd] at HX
    go_wp2_with fail
    go_ret
    rw [<-HX.out]
    exact ⟨rfl,HB1.out⟩
  ·rw [if_neg hx] at HX
   refine (HNO.out _ (HB0.out _) hx).mono ?_
   rintro e w1 ⟨rfl,hb1⟩
   have HB1:=jg ((HB0.out _).trans (hb1.mono (HB0.out _).size))
   go_wp2_with fail
   go_ret
   rw [<-HX.out]
   exact ⟨rfl,HB1.out⟩
end Jp
namespace Oo
open Go.RowKit
theorem AY (w:World) (o:Obj):Below w.heap.size w (w.alloc o):=bR.alloc lR _
theorem ir {B:Nat} {w0 w:World} (h:Below B w0 w) (n:Nat):Below B w0 (w.drewN n):=⟨h.os,h.tape,h.output,h.size,h.block⟩
theorem Ck {x:Int} (h1:-9223372036854775808<=x) (h2:x<9223372036854775808):IntKind.i64.wrap x=x:=by
 simp [IntKind.wrap,IntKind.bits,IntKind.signed]
 omega
def ct (k s t:Int):Int:=if k=2 then (if t<1 then 0 else if 0<s % t then Int.tdiv s t+1 else Int.tdiv s t) else 1
theorem fP (k s t:Int) (w:World) (hs:0<=s/\s<=1099511627776) (ht:t<=9223372036854775807) :
 Calls Tryz.prog 50 #[.agg #[.int .i64 k,.int .i64 s,.int .i64 t]] w fun e w'=>e=.returned (.int .i64 (ct k s t))/\Below w.heap.size w w':=by
 have HB:=AY w (.cells #[.int .i64 k,.int .i64 s,.int .i64 t] 56)
 by_cases hk:k=2
 ·by_cases h1:t<1
  ·have HR:Hid (ct k s t=0):=by unfold Hid ct;rw [if_pos hk,if_pos h1]
   subst hk
   go_in
   go_wp2
   go_ret
   exact ⟨by rw [HR.out];rfl,HB⟩
  ·have hz:¬ t=0:=by omega
   have hq:0<=Int.tdiv s t/\Int.tdiv s t<=s:=by
    rw [Int.tdiv_eq_ediv_of_nonneg hs.1]
    exact ⟨Int.ediv_nonneg hs.1 (by omega),Int.ediv_le_self _ hs.1⟩
   have hm:0<=s % t/\s % t<t:=⟨Int.emod_nonneg _ hz,Int.emod_lt_of_pos _ (by omega)⟩
   have w1:IntKind.i64.wrap (Int.tdiv s t)=Int.tdiv s t:=Ck (by omega) (by omega)
   have w2:IntKind.i64.wrap (s % t)=s % t:=Ck (by omega) (by omega)
   have w3:IntKind.i64.wrap (Int.tdiv s t+1)=Int.tdiv s t+1:=Ck (by omega) (by omega)
   by_cases h2:0<s % t
   ·have HR:Hid (ct k s t=Int.tdiv s t+1):=by unfold Hid ct;rw [if_pos hk,if_neg h1,if_pos h2]
    subst hk
    go_in
    go_wp2
    go_ret
    exact ⟨by rw [HR.out];rfl,HB⟩
   ·have HR:Hid (ct k s t=Int.tdiv s t):=by unfold Hid ct;rw [if_pos hk,if_neg h1,if_neg h2]
    subst hk
    go_in
    go_wp2
    go_ret
    exact ⟨by rw [HR.out];rfl,HB⟩
 ·have HR:Hid (ct k s t=1):=by unfold Hid ct;rw [if_neg hk]
  go_in
  go_wp2
  go_ret
  exact ⟨by rw [HR.out];rfl,HB⟩
def ja (ins ah:List Int) (i:Nat):Int:=match ins[i]? with
 | some x=>if 0<=x/\x<(ah.length:Int) then ah.getD x.toNat 0 else 0
 | none=>0
theorem z8 (ins ah:List Int) (ia:Option Addr) (ic:Nat) (aa:Option Addr) (ac:Nat) (i b1 b2:Nat) (w:World) (h1:w.cell? ⟨b1,13,none⟩=some (.slice ia ins.length ic)) (h2:w.cell? ⟨b2,0,none⟩=some (.slice aa ah.length ac)) (hi:aG w ia ins) (ha:aG w aa ah) :
 Calls Tryz.prog 49 #[.int .i64 (i:Int),.pointer (some ⟨b1,0,none⟩),.pointer (some ⟨b2,0,none⟩)] w fun e w'=>e=.returned (.int .i64 (ja ins ah i))/\Below w.heap.size w w':=by
 by_cases hl:i<ins.length
 ·have hl':(i:Int)<(ins.length:Int):=by omega
  obtain ⟨b,off,rfl,e1⟩:=hi i hl
  by_cases h0:0<=ins[i]
  ·by_cases h3:ins[i]<(ah.length:Int)
   ·obtain ⟨x,hx⟩:∃ x:Nat,ins[i]=(x:Int):=⟨ins[i].toNat,by omega⟩
    have hxl:x<ah.length:=by omega
    have hxl':(x:Int)<(ah.length:Int):=by omega
    have hx0:(0:Int)<=(x:Int):=by omega
    obtain ⟨b',off',rfl,e2⟩:=ha x hxl
    have HR:Hid (ja ins ah i=ah[x]):=by
     unfold Hid ja
     rw [List.getElem?_eq_getElem hl]
     simp only []
     rw [if_pos ⟨h0,h3⟩,hx,Int.toNat_natCast,List.getD_eq_getElem?_getD,List.getElem?_eq_getElem hxl];rfl
    rw [hx] at e1
    go_in
    go_wp2
    go_quiet (fail)
    go_wp2
    go_quiet (fail)
    go_wp2
    go_ret
    exact ⟨by rw [HR.out];rfl,by first | exact ir (ir bR _) _ | exact ir bR _⟩
   ·have HR:Hid (ja ins ah i=0):=by
     unfold Hid ja
     rw [List.getElem?_eq_getElem hl]
     simp only []
     rw [if_neg (fun h=>h3 h.2)]
    go_in
    go_wp2
    go_quiet (fail)
    go_wp2
    go_ret
    exact ⟨by rw [HR.out];rfl,by first | exact ir (ir bR _) _ | exact ir bR _⟩
  ·have HR:Hid (ja ins ah i=0):=by
    unfold Hid ja
    rw [List.getElem?_eq_getElem hl]
    simp only []
    rw [if_neg (fun h=>h0 h.1)]
   have hneg:ins[i]<0:=by omega
   have hd:=decide_eq_false h0
   go_in
   go_wp2
   go_quiet (fail)
   go_wp2
   go_ret
   exact ⟨by rw [HR.out];rfl,by first | exact ir (ir bR _) _ | exact ir bR _⟩
 ·have hl':¬ (i:Int)<(ins.length:Int):=by omega
  have HR:Hid (ja ins ah i=0):=by
   unfold Hid ja
   rw [List.getElem?_eq_none (by omega)]
  go_in
  go_wp2
  go_quiet (fail)
  go_wp2
  go_ret
  exact ⟨by rw [HR.out];rfl,by first | exact ir (ir bR _) _ | exact ir bR _⟩
end Oo
end Go.Proofs.YtiiliobffnhpmaaGreatDoor
