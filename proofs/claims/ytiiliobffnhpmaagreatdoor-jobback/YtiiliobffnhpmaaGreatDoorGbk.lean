import Derived.Test.YtiiliobffnhpmaaGreatDoorGbj
set_option linter.all false
set_option maxRecDepth 100000
set_option maxHeartbeats 4000000
namespace Go.Proofs.YtiiliobffnhpmaaGreatDoor.Jp
open Go.RowKit Oo
def zM:ByteArray:=⟨#[10]⟩
def DK:ByteArray:=⟨#[35]⟩
def bZ (s:ByteArray):List ByteArray:=Lib.splitB zM 0 (Lib.countB s zM) s
def dH (l:ByteArray):ByteArray:=⟨(Lib.cut l.data.toList DK.data.toList).1.toArray⟩
noncomputable def da (rd:R1) (pf:P1) (ckF:List Co->ByteArray->Except Nat Int):List ByteArray->List aJ->Nat->Except (Nat × Nat) (List aJ)
 | [],nodes,_=>.ok nodes
 | l::ls,nodes,i=>match dM rd pf ckF nodes (dH l) with
  | .error k=>.error (i+1,k)
  | .ok nodes'=>da rd pf ckF ls nodes' (i+1)
noncomputable def bV (rd:R1) (pf:P1) (ckF:List Co->ByteArray->Except Nat Int) (s:ByteArray):Except (Nat × Nat) (List aJ):=
 if 3000<s.size then .error (0,5) else da rd pf ckF (bZ s) [] 0
theorem mt (sep:ByteArray):∀ (k:Nat) (s:ByteArray),∀ l∈Lib.splitB sep 0 k s,l.size<=s.size
 | 0,s,l,h=>by rw [Lib.splitB_zero] at h;simp at h;subst h;exact lR
 | k+1,s,l,h=>by
  rw [Lib.splitB] at h
  split at h
  ·simp at h;subst h;exact lR
  ·rcases List.mem_cons.1 h with h | h
   ·subst h;rw [ByteArray.size_extract];omega
   ·have:=mt sep k _ l h
    rw [ByteArray.size_extract] at this
    omega
theorem oq (l:ByteArray):(dH l).size<=l.size:=by
 have e:l.data.toList.length=l.size:=by simp
 show (Lib.cut l.data.toList DK.data.toList).1.toArray.size<=l.size
 unfold Lib.cut
 split
 ·simp;omega
 ·simp
theorem od (s:ByteArray):(bZ s).length=Lib.countB s zM+1:=Lib.splitB_all zM (by decide) 0 _ s rfl
theorem mF {w:World} {n:Nat}:Below w.heap.size w (w.drewN n):=⟨rfl,rfl,rfl,lR,fun _ _=>rfl⟩
def EC (w:World) (o:Except (Nat × Nat) (List aJ)) (e:Ending) (w':World):Prop:=Below w.heap.size w w'/\match o with
 | .ok nodes=>∃ a c ps,ps.map (·.1)=nodes/\e=.returned (.tuple #[.agg #[.slice a ps.length c],.int .i64 0,.nilIface])/\NL w' a ps/\Gd nodes/\∀ p∈ps,nU p.1 p.2
 | .error p=>e=.returned (.tuple #[.agg #[.slice none 0 0],.int .i64 p.1,.iface 37 (.int .i64 p.2)])
theorem parse_any {rd:R1} {pf:P1} {ckF:List Co->ByteArray->Except Nat Int} (s:ByteArray) (m:Int) (w:World)
 (hE:lz w rd pf ckF) (hm:w.cell? ⟨1,0,none⟩=some (.int .i64 m)) (hs:s.size<=140737488355328) :
 Calls Tryz.prog 5 #[.string s] w (EC w (bV rd pf ckF s)):=by
 obtain ⟨O,HX⟩:∃ O,Hid (bV rd pf ckF s=O):=⟨_,rfl⟩
 rw [HX.out]
 unfold bV at HX
 have HE:=jg hE
 have hm1:=bL hm
 have HM1:=jg hm1
 clear hE
 by_cases h3:3000<s.size
 ·have h3i:(3000:Int)<(s.size:Int):=by omega
  rw [if_pos h3] at HX
  go_in
  go_wp2_with fail
  refine bodyPost_ret (v:=.tuple #[.agg #[.slice none 0 0],.int .i64 0,.iface 37 (.int .i64 5)]) (by simp [results,Tryz.results5,go_sem];try rfl) rfl ?_
  rw [<-HX.out]
  refine ⟨?_,rfl⟩
  exact ae w _
 ·have h3i:¬ (3000:Int)<(s.size:Int):=by omega
  rw [if_neg h3] at HX
  have hB2:Below w.heap.size w ((w.alloc (.cells #[.slice none 0 0] 24)).alloc (.cells #[.slice none 0 0] 24)):=(ae w _).trans ((ae _ _).mono (ae w _).size)
  have HSP:=jg (Tryz.strings_Split s zM m ((w.alloc (.cells #[.slice none 0 0] 24)).alloc (.cells #[.slice none 0 0] 24)) (by omega) (af hB2 hm) (by decide))
  unfold zM at HSP
  go_in
  go_wp2_with fail
  refine HSP.out.mono ?_
  rintro e w4 ⟨rfl,hw4⟩
  rw [show Lib.countB s ⟨#[10]⟩+1=(bZ s).length from (od s).symm]
  have hb4:Below w.heap.size w w4:=by rw [hw4];exact hB2.trans ((ae _ _).mono hB2.size)
  have hr4:aD w4 w.heap.size 24 1 [.slice none 0 0]:=by rw [hw4];exact ((aD.new w 24 1 #[.slice none 0 0] rfl).later (ae _ _)).later (ae _ _)
  have hj4:aD w4 (w.heap.size+1) 24 1 [.slice none 0 0]:=by
   have:=aD.new (w.alloc (.cells #[.slice none 0 0] 24)) 24 1 #[.slice none 0 0] rfl
   rw [show (w.alloc (.cells #[.slice none 0 0] 24)).heap.size=w.heap.size+1 by simp] at this
   rw [hw4]
   exact this.later (ae _ _)
  have hs4:w4.heap.size=w.heap.size+3:=by rw [hw4];simp
  have hp4:∀ j (hj:j<(bZ s).length),w4.cell? ⟨w.heap.size+2,j,none⟩=some (.string (bZ s)[j]):=fun j hj=>by
   have ho:=aD.new ((w.alloc (.cells #[.slice none 0 0] 24)).alloc (.cells #[.slice none 0 0] 24)) 9 (bZ s).length ((bZ s).map Value.string).toArray (by simp)
   rw [show ((w.alloc (.cells #[.slice none 0 0] 24)).alloc (.cells #[.slice none 0 0] 24)).heap.size=w.heap.size+2 by simp] at ho
   have e:w4=((w.alloc (.cells #[.slice none 0 0] 24)).alloc (.cells #[.slice none 0 0] 24)).alloc (.cells ((bZ s).map Value.string).toArray 9):=hw4
   rw [e,ho.cell j hj]
   simp [hj]
  have HB4:=jg hb4
  have HR4:=jg hr4
  have HJ4:=jg hj4
  have HP4:=jg hp4
  have HLL:=jg (fun l (h:l∈bZ s)=>mt zM _ s l h)
  have hM:=af hb4 hm
  have hLSl:(bZ s).length<=3001:=by
   have:=od s
   have:=Lib.countB_le zM (by decide) s.size s lR
   omega
  generalize bZ s=LS at *
  clear hw4 hb4 hr4 hj4 hp4 HSP hB2
  have HE4:=jg (HE.out.later HB4.out)
  go_wp2_with fail
  go_loopg [21] LS.length (fun gk i wr=>∃ (j:Nat) (v:Value) (ps:List (aJ × bM)),gk+j=LS.length/\i=.int .i64 j/\da rd pf ckF LS [] 0=da rd pf ckF (LS.drop j) (ps.map (·.1)) j/\Gd (ps.map (·.1))/\NR wr w4.heap.size v ps/\aD wr (w.heap.size+1) 24 1 [v]/\Fr w4 wr [w.heap.size+1])
  case atStart=>exact ⟨0,.slice none 0 0,[],by omega,rfl,by simp,xF,Cd _ _,HJ4.out,i6 bR⟩
  case round=>
   obtain ⟨j,v,ps,hgk,rfl,hps,hgd,hnr,hoj,hfr⟩:=hrel
   have HPS:=jg hps
   have HGD:=jg hgd
   have HNR:=jg hnr
   have HOJ:=jg hoj
   have HFR:=jg hfr
   obtain ⟨aN,cN,rfl,-⟩:=hnr.nl
   have hwr:=hfr.size
   have HBW:=jg (HB4.out.trans (hfr.below (B:=w.heap.size) (by omega) (fun i hi=>by simp at hi;omega)))
   have cj:=hoj.c 0 rfl
   have fj:=hoj.soft 0
   have hjl:=hoj.lt
   have hOR:=Fr.own HR4.out hfr (fun g hg hmem=>by have h1:w.heap.size=g:=sI hg;simp at hmem;omega)
   have HOR:=jg hOR
   have cr:wr.cell? ⟨w.heap.size,0,none⟩=some (.slice none 0 0):=by rw [aD.cell hOR 0 (by decide)];rfl
   have fr:=aD.soft hOR 0
   have hmr:=hfr.cell hM (fun h=>by have h2:=List.mem_singleton.1 h;have h4:=HM1.out;change 1=_ at h2;omega)
   clear hps hgd hnr hoj hfr hOR
   by_cases hlt:j<LS.length
   ·have hji:(j:Int)<(LS.length:Int):=by omega
    have cp:=HFR.out.cell (HP4.out j hlt) (by simp)
    have hlz:LS[j].size<=3000:=by have:=HLL.out _ (List.getElem_mem hlt);omega
    have HCT:=jg (Tryz.strings_Cut LS[j] DK m wr (by omega) hmr)
    unfold DK at HCT
    have HDR:=jg (List.drop_eq_getElem_cons hlt)
    go_wp2_with fail
    refine HCT.out.mono ?_
    rintro e w5 ⟨rfl,n5,rfl⟩
    have hb5:Below wr.heap.size wr (wr.drewN n5):=mF
    have cj5:=af hb5 cj
    have HWL:=jg (oF (rd:=rd) (pf:=pf) (ckF:=ckF) ps (.slice aN ps.length cN) (dH LS[j]) w4.heap.size (wr.drewN n5) ((HE.out.later HBW.out).later hb5) (by have:=oq LS[j];omega) (HNR.out.later hb5) (by have:=hb5.size;omega) HGD.out)
    have HB5:=jg hb5
    clear hb5 HCT
    go_wp2_with fail
    refine HWL.out.mono ?_
    rintro e w6 ⟨hf6,hr6⟩
    have hf6':=(i6 HB5.out).trans hf6 (fun i hi=>.inl hi)
    have hvb:∀ i∈(Value.slice aN ps.length cN).ownBlock.toList,w4.heap.size<=i:=fun i hi=>(World.ownsRow.lt HNR.out.own i (by simpa using hi)).1
    have HF6:=jg (HFR.out.trans hf6' (fun i hi=>.inr (hvb i hi)))
    have hoj6:=Fr.own HOJ.out hf6' (fun g hg hmem=>by have h1:w.heap.size+1=g:=sI hg;have:=hvb g hmem;omega)
    have HOJ6:=jg hoj6
    have cj6:w6.cell? ⟨w.heap.size+1,0,none⟩=some (.slice aN ps.length cN):=by rw [aD.cell hoj6 0 (by decide)];rfl
    have fj6:=aD.soft hoj6 0
    have hjl6:=aD.lt hoj6
    have hor6:=Fr.own HOR.out hf6' (fun g hg hmem=>by have h1:w.heap.size=g:=sI hg;have:=hvb g hmem;omega)
    have HOR6:=jg hor6
    have cr6:w6.cell? ⟨w.heap.size,0,none⟩=some (.slice none 0 0):=by rw [aD.cell hor6 0 (by decide)];rfl
    have fr6:=aD.soft hor6 0
    have HW6:=jg hf6'.size
    have HPS2:=HPS.out
    rw [HDR.out] at HPS2
    simp only [da] at HPS2
    clear hf6 hf6' hoj6 hor6 HWL cj cr cj5 cp fj fr
    cases hl:dM rd pf ckF (ps.map (·.1)) (dH LS[j]) with
    | error k=>
     rw [hl] at hr6 HPS2
     obtain ⟨v',rfl⟩:=hr6
     simp only at HPS2
     have HY:=jg (HPS2.symm.trans HX.out)
     clear hl HPS2
     go_wp2_with fail
     have dd:(w6.setCell ⟨w.heap.size,0,none⟩ (.slice none 0 0)).cell? ⟨w.heap.size,0,none⟩=some (.slice none 0 0):=by go_simp
     have HBF:Hid (Below w.heap.size w (w6.setCell ⟨w.heap.size,0,none⟩ (.slice none 0 0))):=(HB4.out.trans (HF6.out.below (B:=w.heap.size) (by omega) (fun i hi=>by simp at hi;omega))).setCell (p:=⟨w.heap.size,0,none⟩) lR _
     generalize w6.setCell ⟨w.heap.size,0,none⟩ (.slice none 0 0)=WF at *
     refine bodyPost_ret (v:=.tuple #[.agg #[.slice none 0 0],.int .i64 ((j:Int)+1),.iface 37 (.int .i64 k)]) (by simp [results,Tryz.results5,go_sem,dd]) rfl ?_
     rw [<-HY.out]
     exact ⟨HBF.out,rfl⟩
    | ok nodes=>
     rw [hl] at hr6 HPS2
     obtain ⟨v',ps',hpe,rfl,hnr6⟩:=hr6
     simp only at HPS2
     rw [<-hpe] at HPS2
     have HPS3:=jg HPS2
     have HGD6:Hid (Gd (ps'.map (·.1))):=by show Gd (ps'.map (·.1));rw [hpe];exact zC HE.out.fg (by have:=oq LS[j];omega) HGD.out hl
     have HN6:=jg hnr6
     obtain ⟨a6,c6,rfl,-⟩:=hnr6.nl
     clear hl HPS2 hnr6 hpe
     go_wp2_with fail
     have HPU:=jg (aD.put HOJ6.out 0 (.slice a6 ps'.length c6))
     have hvb6:∀ g,(Value.slice a6 ps'.length c6).ownBlock=some g->w4.heap.size<=g:=fun g hg=>(World.ownsRow.lt HN6.out.own g hg).1
     go_roundg (gk-1)
     case measure=>omega
     case rel=>exact ⟨j+1,_,ps',by omega,by go_num,HPS3.out,HGD6.out,HN6.out.grown HPU.out.2 (fun e=>by have:=hvb6 _ e;omega) (fun p hp=>(HN6.out.far p hp).up (fun b hb=>by have:=hb.1;omega)),HPU.out.1,HF6.out.trans (Fr.of (X:=[w.heap.size+1]) HPU.out.2 (fun k hk=>.inl (by cases hk;simp))) (fun i hi=>.inl hi)⟩
   ·obtain rfl:j=LS.length:=by omega
    have hnl:¬ (LS.length:Int)<(LS.length:Int):=by omega
    have HY:Hid (.ok (ps.map (·.1))=O):=by
     have:=HPS.out
     rw [List.drop_length] at this
     exact this.symm.trans HX.out
    clear hlt
    go_wp2_with fail
    have dd:(wr.setCell ⟨w.heap.size,0,none⟩ (.slice aN ps.length cN)).cell? ⟨w.heap.size,0,none⟩=some (.slice aN ps.length cN):=by go_simp
    have HPU:=jg (aD.put HOR.out 0 (.slice aN ps.length cN))
    have HBF:Hid (Below w.heap.size w (wr.setCell ⟨w.heap.size,0,none⟩ (.slice aN ps.length cN))):=HBW.out.setCell (p:=⟨w.heap.size,0,none⟩) lR _
    have HNF:Hid (NR (wr.setCell ⟨w.heap.size,0,none⟩ (.slice aN ps.length cN)) w4.heap.size (.slice aN ps.length cN) ps):=HNR.out.grown (aD.put HOR.out 0 _).2 (fun e=>by have:=(World.ownsRow.lt HNR.out.own _ e).1;omega) (fun p hp=>(HNR.out.far p hp).up (fun b hb=>by have:=hb.1;omega))
    generalize wr.setCell ⟨w.heap.size,0,none⟩ (.slice aN ps.length cN)=WF at *
    refine bodyPost_ret (v:=.tuple #[.agg #[.slice aN ps.length cN],.int .i64 0,.nilIface]) (by simp [results,Tryz.results5,go_sem,dd];try rfl) rfl ?_
    rw [<-HY.out]
    refine ⟨HBF.out,aN,cN,ps,rfl,rfl,?_,HGD.out,HNF.out.cap⟩
    obtain ⟨a2,c2,e2,h2⟩:=HNF.out.nl
    obtain ⟨e3,-⟩:=Value.slice.inj e2
    rw [e3]
    exact h2
theorem kH (l:List Int) (a1 a2:Option Addr) (c1 c2:Nat) (w:World) (h1:aG w a1 l) (h2:aG w a2 l) (hn:l.length<=8192) :
 Calls Tryz.prog 9 #[.slice a1 l.length c1,.slice a2 l.length c2] w fun e w'=>e=.returned (.bool true)/\Below w.heap.size w w':=by
 have H1:=jg h1
 have H2:=jg h2
 go_in
 go_wp2_with fail
 go_loopg [5] l.length (fun gk i wr=>∃ j:Nat,gk+j=l.length/\i=.int .i64 j/\Below w.heap.size w wr)
 case atStart=>exact ⟨0,by omega,rfl,bR⟩
 case round=>
  obtain ⟨j,hgk,rfl,hbr⟩:=hrel
  have HBR:=jg hbr
  by_cases hlt:j<l.length
  ·have hji:(j:Int)<(l.length:Int):=by omega
   obtain ⟨b1,o1,rfl,d0⟩:=(H1.out.later HBR.out) j hlt
   obtain ⟨b2,o2,rfl,f0⟩:=(H2.out.later HBR.out) j hlt
   generalize l[j]=X at *
   go_wp2_with fail
   go_quiet (fail)
   go_wp2_with fail
   go_roundg (gk-1)
   case measure=>omega
   case rel=>exact ⟨j+1,by omega,by go_num,by first | exact HBR.out | exact HBR.out.drew | exact HBR.out.trans (mF.mono HBR.out.size)⟩
  ·obtain rfl:j=l.length:=by omega
   have hji:¬ ((l.length:Nat):Int)<(l.length:Int):=by omega
   go_wp2_with fail
   go_ret
   exact ⟨rfl,HBR.out⟩
theorem mV (l:List ByteArray) (a1 a2:Option Addr) (c1 c2:Nat) (w:World) (h1:bu w a1 l) (h2:bu w a2 l) (hn:l.length<=8192) :
 Calls Tryz.prog 67 #[.slice a1 l.length c1,.slice a2 l.length c2] w fun e w'=>e=.returned (.bool true)/\Below w.heap.size w w':=by
 have H1:=jg h1
 have H2:=jg h2
 go_in
 go_wp2_with fail
 go_loopg [5] l.length (fun gk i wr=>∃ j:Nat,gk+j=l.length/\i=.int .i64 j/\Below w.heap.size w wr)
 case atStart=>exact ⟨0,by omega,rfl,bR⟩
 case round=>
  obtain ⟨j,hgk,rfl,hbr⟩:=hrel
  have HBR:=jg hbr
  by_cases hlt:j<l.length
  ·have hji:(j:Int)<(l.length:Int):=by omega
   obtain ⟨b1,o1,rfl,d0⟩:=(H1.out.later HBR.out) j hlt
   obtain ⟨b2,o2,rfl,f0⟩:=(H2.out.later HBR.out) j hlt
   generalize l[j]=X at *
   go_wp2_with fail
   go_quiet (fail)
   go_wp2_with fail
   go_roundg (gk-1)
   case measure=>omega
   case rel=>exact ⟨j+1,by omega,by go_num,by first | exact HBR.out | exact HBR.out.drew | exact HBR.out.trans (mF.mono HBR.out.size)⟩
  ·obtain rfl:j=l.length:=by omega
   have hji:¬ ((l.length:Nat):Int)<(l.length:Int):=by omega
   go_wp2_with fail
   go_ret
   exact ⟨rfl,HBR.out⟩
theorem kx (l:List Co) (a1 a2:Option Addr) (c1 c2:Nat) (w:World) (h1:ap w a1 l) (h2:ap w a2 l) (hn:l.length<=8192) :
 Calls Tryz.prog 26 #[.slice a1 l.length c1,.slice a2 l.length c2] w fun e w'=>e=.returned (.bool true)/\Below w.heap.size w w':=by
 have H1:=jg h1
 have H2:=jg h2
 go_in
 go_wp2_with fail
 go_loopg [5] l.length (fun gk i wr=>∃ j:Nat,gk+j=l.length/\i=.int .i64 j/\Below w.heap.size w wr)
 case atStart=>exact ⟨0,by omega,rfl,bR⟩
 case round=>
  obtain ⟨j,hgk,rfl,hbr⟩:=hrel
  have HBR:=jg hbr
  by_cases hlt:j<l.length
  ·have hji:(j:Int)<(l.length:Int):=by omega
   obtain ⟨b1,o1,rfl,d0,d1⟩:=(H1.out.later HBR.out) j hlt
   obtain ⟨b2,o2,rfl,f0,f1⟩:=(H2.out.later HBR.out) j hlt
   generalize l[j].nm=X at *
   generalize l[j].k=Y at *
   go_wp2_with fail
   go_quiet (fail)
   go_wp2_with fail
   go_roundg (gk-1)
   case measure=>omega
   case rel=>exact ⟨j+1,by omega,by go_num,by first | exact HBR.out | exact HBR.out.drew | exact HBR.out.trans (mF.mono HBR.out.size)⟩
  ·obtain rfl:j=l.length:=by omega
   have hji:¬ ((l.length:Nat):Int)<(l.length:Int):=by omega
   go_wp2_with fail
   go_ret
   exact ⟨rfl,HBR.out⟩
theorem vd (l:List Oo.Ag) (a1 a2:Option Addr) (c1 c2:Nat) (w:World) (h1:eR w a1 l) (h2:eR w a2 l) (hn:l.length<=8192) :
 Calls Tryz.prog 68 #[.slice a1 l.length c1,.slice a2 l.length c2] w fun e w'=>e=.returned (.bool true)/\Below w.heap.size w w':=by
 have H1:=jg h1
 have H2:=jg h2
 go_in
 go_wp2_with fail
 go_loopg [5] l.length (fun gk i wr=>∃ j:Nat,gk+j=l.length/\i=.int .i64 j/\Below w.heap.size w wr)
 case atStart=>exact ⟨0,by omega,rfl,bR⟩
 case round=>
  obtain ⟨j,hgk,rfl,hbr⟩:=hrel
  have HBR:=jg hbr
  by_cases hlt:j<l.length
  ·have hji:(j:Int)<(l.length:Int):=by omega
   obtain ⟨b1,o1,rfl,d0,d1⟩:=(H1.out.later HBR.out) j hlt
   obtain ⟨b2,o2,rfl,f0,f1⟩:=(H2.out.later HBR.out) j hlt
   generalize l[j].k=X at *
   generalize l[j].at_=Y at *
   go_wp2_with fail
   go_quiet (fail)
   go_wp2_with fail
   go_roundg (gk-1)
   case measure=>omega
   case rel=>exact ⟨j+1,by omega,by go_num,by first | exact HBR.out | exact HBR.out.drew | exact HBR.out.trans (mF.mono HBR.out.size)⟩
  ·obtain rfl:j=l.length:=by omega
   have hji:¬ ((l.length:Nat):Int)<(l.length:Int):=by omega
   go_wp2_with fail
   go_ret
   exact ⟨rfl,HBR.out⟩
theorem ve (o:eJ) (p q:mY) (w:World) (h1:iw w o p) (h2:iw w o q) (hz:o.ex.length<=8192/\o.nm.length<=8192/\o.c.length<=8192/\o.r.length<=8192/\o.ks.length<=8192/\o.os.length<=8192/\o.ag.length<=8192) :
 Calls Tryz.prog 25 #[.agg #[.int .i64 o.k,.slice p.ea o.ex.length p.ec,.slice p.na o.nm.length p.nc,.slice p.ca o.c.length p.cc,.slice p.ra o.r.length p.rc,.slice p.ka o.ks.length p.kc,.slice p.oa o.os.length p.oc,.int .i64 o.wk,.int .i64 o.ws,.int .i64 o.wt,.slice p.ga o.ag.length p.gc,.bool o.ou],.agg #[.int .i64 o.k,.slice q.ea o.ex.length q.ec,.slice q.na o.nm.length q.nc,.slice q.ca o.c.length q.cc,.slice q.ra o.r.length q.rc,.slice q.ka o.ks.length q.kc,.slice q.oa o.os.length q.oc,.int .i64 o.wk,.int .i64 o.ws,.int .i64 o.wt,.slice q.ga o.ag.length q.gc,.bool o.ou]] w fun e w'=>e=.returned (.bool true)/\Below w.heap.size w w':=by
 obtain ⟨z1,z2,z3,z4,z5,z6,z7⟩:=hz
 have HBB:Hid (Below w.heap.size w ((w.alloc (.cells #[.int .i64 o.k,.slice p.ea o.ex.length p.ec,.slice p.na o.nm.length p.nc,.slice p.ca o.c.length p.cc,.slice p.ra o.r.length p.rc,.slice p.ka o.ks.length p.kc,.slice p.oa o.os.length p.oc,.int .i64 o.wk,.int .i64 o.ws,.int .i64 o.wt,.slice p.ga o.ag.length p.gc,.bool o.ou] 59)).alloc (.cells #[.int .i64 o.k,.slice q.ea o.ex.length q.ec,.slice q.na o.nm.length q.nc,.slice q.ca o.c.length q.cc,.slice q.ra o.r.length q.rc,.slice q.ka o.ks.length q.kc,.slice q.oa o.os.length q.oc,.int .i64 o.wk,.int .i64 o.ws,.int .i64 o.wt,.slice q.ga o.ag.length q.gc,.bool o.ou] 59))):=(ae w _).trans ((ae _ _).mono (ae w _).size)
 have HO1:Hid (aD ((w.alloc (.cells #[.int .i64 o.k,.slice p.ea o.ex.length p.ec,.slice p.na o.nm.length p.nc,.slice p.ca o.c.length p.cc,.slice p.ra o.r.length p.rc,.slice p.ka o.ks.length p.kc,.slice p.oa o.os.length p.oc,.int .i64 o.wk,.int .i64 o.ws,.int .i64 o.wt,.slice p.ga o.ag.length p.gc,.bool o.ou] 59)).alloc (.cells #[.int .i64 o.k,.slice q.ea o.ex.length q.ec,.slice q.na o.nm.length q.nc,.slice q.ca o.c.length q.cc,.slice q.ra o.r.length q.rc,.slice q.ka o.ks.length q.kc,.slice q.oa o.os.length q.oc,.int .i64 o.wk,.int .i64 o.ws,.int .i64 o.wt,.slice q.ga o.ag.length q.gc,.bool o.ou] 59)) w.heap.size 59 12 [.int .i64 o.k,.slice p.ea o.ex.length p.ec,.slice p.na o.nm.length p.nc,.slice p.ca o.c.length p.cc,.slice p.ra o.r.length p.rc,.slice p.ka o.ks.length p.kc,.slice p.oa o.os.length p.oc,.int .i64 o.wk,.int .i64 o.ws,.int .i64 o.wt,.slice p.ga o.ag.length p.gc,.bool o.ou]):=(aD.new w 59 12 #[.int .i64 o.k,.slice p.ea o.ex.length p.ec,.slice p.na o.nm.length p.nc,.slice p.ca o.c.length p.cc,.slice p.ra o.r.length p.rc,.slice p.ka o.ks.length p.kc,.slice p.oa o.os.length p.oc,.int .i64 o.wk,.int .i64 o.ws,.int .i64 o.wt,.slice p.ga o.ag.length p.gc,.bool o.ou] rfl).later (ae _ _)
 have HO2:Hid (aD ((w.alloc (.cells #[.int .i64 o.k,.slice p.ea o.ex.length p.ec,.slice p.na o.nm.length p.nc,.slice p.ca o.c.length p.cc,.slice p.ra o.r.length p.rc,.slice p.ka o.ks.length p.kc,.slice p.oa o.os.length p.oc,.int .i64 o.wk,.int .i64 o.ws,.int .i64 o.wt,.slice p.ga o.ag.length p.gc,.bool o.ou] 59)).alloc (.cells #[.int .i64 o.k,.slice q.ea o.ex.length q.ec,.slice q.na o.nm.length q.nc,.slice q.ca o.c.length q.cc,.slice q.ra o.r.length q.rc,.slice q.ka o.ks.length q.kc,.slice q.oa o.os.length q.oc,.int .i64 o.wk,.int .i64 o.ws,.int .i64 o.wt,.slice q.ga o.ag.length q.gc,.bool o.ou] 59)) (w.heap.size+1) 59 12 [.int .i64 o.k,.slice q.ea o.ex.length q.ec,.slice q.na o.nm.length q.nc,.slice q.ca o.c.length q.cc,.slice q.ra o.r.length q.rc,.slice q.ka o.ks.length q.kc,.slice q.oa o.os.length q.oc,.int .i64 o.wk,.int .i64 o.ws,.int .i64 o.wt,.slice q.ga o.ag.length q.gc,.bool o.ou]):=by
  have:=aD.new (w.alloc (.cells #[.int .i64 o.k,.slice p.ea o.ex.length p.ec,.slice p.na o.nm.length p.nc,.slice p.ca o.c.length p.cc,.slice p.ra o.r.length p.rc,.slice p.ka o.ks.length p.kc,.slice p.oa o.os.length p.oc,.int .i64 o.wk,.int .i64 o.ws,.int .i64 o.wt,.slice p.ga o.ag.length p.gc,.bool o.ou] 59)) 59 12 #[.int .i64 o.k,.slice q.ea o.ex.length q.ec,.slice q.na o.nm.length q.nc,.slice q.ca o.c.length q.cc,.slice q.ra o.r.length q.rc,.slice q.ka o.ks.length q.kc,.slice q.oa o.os.length q.oc,.int .i64 o.wk,.int .i64 o.ws,.int .i64 o.wt,.slice q.ga o.ag.length q.gc,.bool o.ou] rfl
  rw [show (w.alloc (.cells #[.int .i64 o.k,.slice p.ea o.ex.length p.ec,.slice p.na o.nm.length p.nc,.slice p.ca o.c.length p.cc,.slice p.ra o.r.length p.rc,.slice p.ka o.ks.length p.kc,.slice p.oa o.os.length p.oc,.int .i64 o.wk,.int .i64 o.ws,.int .i64 o.wt,.slice p.ga o.ag.length p.gc,.bool o.ou] 59)).heap.size=w.heap.size+1 by simp] at this
  exact this
 have HA:=jg (h1.later HBB.out)
 have HC:=jg (h2.later HBB.out)
 go_in
 go_upto_region 1 with fail
 generalize (w.alloc (.cells #[.int .i64 o.k,.slice p.ea o.ex.length p.ec,.slice p.na o.nm.length p.nc,.slice p.ca o.c.length p.cc,.slice p.ra o.r.length p.rc,.slice p.ka o.ks.length p.kc,.slice p.oa o.os.length p.oc,.int .i64 o.wk,.int .i64 o.ws,.int .i64 o.wt,.slice p.ga o.ag.length p.gc,.bool o.ou] 59)).alloc (.cells #[.int .i64 o.k,.slice q.ea o.ex.length q.ec,.slice q.na o.nm.length q.nc,.slice q.ca o.c.length q.cc,.slice q.ra o.r.length q.rc,.slice q.ka o.ks.length q.kc,.slice q.oa o.os.length q.oc,.int .i64 o.wk,.int .i64 o.ws,.int .i64 o.wt,.slice q.ga o.ag.length q.gc,.bool o.ou] 59)=W0 at *
 have a0:=HO1.out.c 0 rfl
 have a1:=HO1.out.c 1 rfl
 have a2:=HO1.out.c 2 rfl
 have a3:=HO1.out.c 3 rfl
 have a4:=HO1.out.c 4 rfl
 have a5:=HO1.out.c 5 rfl
 have a6:=HO1.out.c 6 rfl
 have a7:=HO1.out.c 7 rfl
 have a8:=HO1.out.c 8 rfl
 have a9:=HO1.out.c 9 rfl
 have a10:=HO1.out.c 10 rfl
 have a11:=HO1.out.c 11 rfl
 have b0:=HO2.out.c 0 rfl
 have b1:=HO2.out.c 1 rfl
 have b2:=HO2.out.c 2 rfl
 have b3:=HO2.out.c 3 rfl
 have b4:=HO2.out.c 4 rfl
 have b5:=HO2.out.c 5 rfl
 have b6:=HO2.out.c 6 rfl
 have b7:=HO2.out.c 7 rfl
 have b8:=HO2.out.c 8 rfl
 have b9:=HO2.out.c 9 rfl
 have b10:=HO2.out.c 10 rfl
 have b11:=HO2.out.c 11 rfl
 have l1:=HO1.out.lt
 have l2:=HO2.out.lt
 have HCC:=jg (mV o.ex p.ea q.ea p.ec q.ec W0 HA.out.e HC.out.e z1)
 go_wp2_with fail
 refine HCC.out.mono ?_
 rintro e W1 ⟨rfl,hb⟩
 have HO1_1:=jg (HO1.out.later hb)
 have HO2_1:=jg (HO2.out.later hb)
 have HA_1:=jg (HA.out.later hb)
 have HC_1:=jg (HC.out.later hb)
 have HBB_1:=jg (HBB.out.trans (hb.mono HBB.out.size))
 have a0:=HO1_1.out.c 0 rfl
 have a1:=HO1_1.out.c 1 rfl
 have a2:=HO1_1.out.c 2 rfl
 have a3:=HO1_1.out.c 3 rfl
 have a4:=HO1_1.out.c 4 rfl
 have a5:=HO1_1.out.c 5 rfl
 have a6:=HO1_1.out.c 6 rfl
 have a7:=HO1_1.out.c 7 rfl
 have a8:=HO1_1.out.c 8 rfl
 have a9:=HO1_1.out.c 9 rfl
 have a10:=HO1_1.out.c 10 rfl
 have a11:=HO1_1.out.c 11 rfl
 have b0:=HO2_1.out.c 0 rfl
 have b1:=HO2_1.out.c 1 rfl
 have b2:=HO2_1.out.c 2 rfl
 have b3:=HO2_1.out.c 3 rfl
 have b4:=HO2_1.out.c 4 rfl
 have b5:=HO2_1.out.c 5 rfl
 have b6:=HO2_1.out.c 6 rfl
 have b7:=HO2_1.out.c 7 rfl
 have b8:=HO2_1.out.c 8 rfl
 have b9:=HO2_1.out.c 9 rfl
 have b10:=HO2_1.out.c 10 rfl
 have b11:=HO2_1.out.c 11 rfl
 have l1:=HO1_1.out.lt
 have l2:=HO2_1.out.lt
 have HCC:=jg (mV o.nm p.na q.na p.nc q.nc W1 HA_1.out.n HC_1.out.n z2)
 go_wp2_with fail
 refine HCC.out.mono ?_
 rintro e W2 ⟨rfl,hb⟩
 have HO1_2:=jg (HO1_1.out.later hb)
 have HO2_2:=jg (HO2_1.out.later hb)
 have HA_2:=jg (HA_1.out.later hb)
 have HC_2:=jg (HC_1.out.later hb)
 have HBB_2:=jg (HBB_1.out.trans (hb.mono HBB_1.out.size))
 have a0:=HO1_2.out.c 0 rfl
 have a1:=HO1_2.out.c 1 rfl
 have a2:=HO1_2.out.c 2 rfl
 have a3:=HO1_2.out.c 3 rfl
 have a4:=HO1_2.out.c 4 rfl
 have a5:=HO1_2.out.c 5 rfl
 have a6:=HO1_2.out.c 6 rfl
 have a7:=HO1_2.out.c 7 rfl
 have a8:=HO1_2.out.c 8 rfl
 have a9:=HO1_2.out.c 9 rfl
 have a10:=HO1_2.out.c 10 rfl
 have a11:=HO1_2.out.c 11 rfl
 have b0:=HO2_2.out.c 0 rfl
 have b1:=HO2_2.out.c 1 rfl
 have b2:=HO2_2.out.c 2 rfl
 have b3:=HO2_2.out.c 3 rfl
 have b4:=HO2_2.out.c 4 rfl
 have b5:=HO2_2.out.c 5 rfl
 have b6:=HO2_2.out.c 6 rfl
 have b7:=HO2_2.out.c 7 rfl
 have b8:=HO2_2.out.c 8 rfl
 have b9:=HO2_2.out.c 9 rfl
 have b10:=HO2_2.out.c 10 rfl
 have b11:=HO2_2.out.c 11 rfl
 have l1:=HO1_2.out.lt
 have l2:=HO2_2.out.lt
 have HCC:=jg (kx o.c p.ca q.ca p.cc q.cc W2 HA_2.out.c HC_2.out.c z3)
 go_wp2_with fail
 refine HCC.out.mono ?_
 rintro e W3 ⟨rfl,hb⟩
 have HO1_3:=jg (HO1_2.out.later hb)
 have HO2_3:=jg (HO2_2.out.later hb)
 have HA_3:=jg (HA_2.out.later hb)
 have HC_3:=jg (HC_2.out.later hb)
 have HBB_3:=jg (HBB_2.out.trans (hb.mono HBB_2.out.size))
 have a0:=HO1_3.out.c 0 rfl
 have a1:=HO1_3.out.c 1 rfl
 have a2:=HO1_3.out.c 2 rfl
 have a3:=HO1_3.out.c 3 rfl
 have a4:=HO1_3.out.c 4 rfl
 have a5:=HO1_3.out.c 5 rfl
 have a6:=HO1_3.out.c 6 rfl
 have a7:=HO1_3.out.c 7 rfl
 have a8:=HO1_3.out.c 8 rfl
 have a9:=HO1_3.out.c 9 rfl
 have a10:=HO1_3.out.c 10 rfl
 have a11:=HO1_3.out.c 11 rfl
 have b0:=HO2_3.out.c 0 rfl
 have b1:=HO2_3.out.c 1 rfl
 have b2:=HO2_3.out.c 2 rfl
 have b3:=HO2_3.out.c 3 rfl
 have b4:=HO2_3.out.c 4 rfl
 have b5:=HO2_3.out.c 5 rfl
 have b6:=HO2_3.out.c 6 rfl
 have b7:=HO2_3.out.c 7 rfl
 have b8:=HO2_3.out.c 8 rfl
 have b9:=HO2_3.out.c 9 rfl
 have b10:=HO2_3.out.c 10 rfl
 have b11:=HO2_3.out.c 11 rfl
 have l1:=HO1_3.out.lt
 have l2:=HO2_3.out.lt
 have HCC:=jg (kx o.r p.ra q.ra p.rc q.rc W3 HA_3.out.r HC_3.out.r z4)
 go_wp2_with fail
 refine HCC.out.mono ?_
 rintro e W4 ⟨rfl,hb⟩
 have HO1_4:=jg (HO1_3.out.later hb)
 have HO2_4:=jg (HO2_3.out.later hb)
 have HA_4:=jg (HA_3.out.later hb)
 have HC_4:=jg (HC_3.out.later hb)
 have HBB_4:=jg (HBB_3.out.trans (hb.mono HBB_3.out.size))
 have a0:=HO1_4.out.c 0 rfl
 have a1:=HO1_4.out.c 1 rfl
 have a2:=HO1_4.out.c 2 rfl
 have a3:=HO1_4.out.c 3 rfl
 have a4:=HO1_4.out.c 4 rfl
 have a5:=HO1_4.out.c 5 rfl
 have a6:=HO1_4.out.c 6 rfl
 have a7:=HO1_4.out.c 7 rfl
 have a8:=HO1_4.out.c 8 rfl
 have a9:=HO1_4.out.c 9 rfl
 have a10:=HO1_4.out.c 10 rfl
 have a11:=HO1_4.out.c 11 rfl
 have b0:=HO2_4.out.c 0 rfl
 have b1:=HO2_4.out.c 1 rfl
 have b2:=HO2_4.out.c 2 rfl
 have b3:=HO2_4.out.c 3 rfl
 have b4:=HO2_4.out.c 4 rfl
 have b5:=HO2_4.out.c 5 rfl
 have b6:=HO2_4.out.c 6 rfl
 have b7:=HO2_4.out.c 7 rfl
 have b8:=HO2_4.out.c 8 rfl
 have b9:=HO2_4.out.c 9 rfl
 have b10:=HO2_4.out.c 10 rfl
 have b11:=HO2_4.out.c 11 rfl
 have l1:=HO1_4.out.lt
 have l2:=HO2_4.out.lt
 have HCC:=jg (kH o.ks p.ka q.ka p.kc q.kc W4 HA_4.out.k HC_4.out.k z5)
 go_wp2_with fail
 refine HCC.out.mono ?_
 rintro e W5 ⟨rfl,hb⟩
 have HO1_5:=jg (HO1_4.out.later hb)
 have HO2_5:=jg (HO2_4.out.later hb)
 have HA_5:=jg (HA_4.out.later hb)
 have HC_5:=jg (HC_4.out.later hb)
 have HBB_5:=jg (HBB_4.out.trans (hb.mono HBB_4.out.size))
 have a0:=HO1_5.out.c 0 rfl
 have a1:=HO1_5.out.c 1 rfl
 have a2:=HO1_5.out.c 2 rfl
 have a3:=HO1_5.out.c 3 rfl
 have a4:=HO1_5.out.c 4 rfl
 have a5:=HO1_5.out.c 5 rfl
 have a6:=HO1_5.out.c 6 rfl
 have a7:=HO1_5.out.c 7 rfl
 have a8:=HO1_5.out.c 8 rfl
 have a9:=HO1_5.out.c 9 rfl
 have a10:=HO1_5.out.c 10 rfl
 have a11:=HO1_5.out.c 11 rfl
 have b0:=HO2_5.out.c 0 rfl
 have b1:=HO2_5.out.c 1 rfl
 have b2:=HO2_5.out.c 2 rfl
 have b3:=HO2_5.out.c 3 rfl
 have b4:=HO2_5.out.c 4 rfl
 have b5:=HO2_5.out.c 5 rfl
 have b6:=HO2_5.out.c 6 rfl
 have b7:=HO2_5.out.c 7 rfl
 have b8:=HO2_5.out.c 8 rfl
 have b9:=HO2_5.out.c 9 rfl
 have b10:=HO2_5.out.c 10 rfl
 have b11:=HO2_5.out.c 11 rfl
 have l1:=HO1_5.out.lt
 have l2:=HO2_5.out.lt
 have HCC:=jg (kH o.os p.oa q.oa p.oc q.oc W5 HA_5.out.o HC_5.out.o z6)
 go_wp2_with fail
 refine HCC.out.mono ?_
 rintro e W6 ⟨rfl,hb⟩
 have HO1_6:=jg (HO1_5.out.later hb)
 have HO2_6:=jg (HO2_5.out.later hb)
 have HA_6:=jg (HA_5.out.later hb)
 have HC_6:=jg (HC_5.out.later hb)
 have HBB_6:=jg (HBB_5.out.trans (hb.mono HBB_5.out.size))
 have a0:=HO1_6.out.c 0 rfl
 have a1:=HO1_6.out.c 1 rfl
 have a2:=HO1_6.out.c 2 rfl
 have a3:=HO1_6.out.c 3 rfl
 have a4:=HO1_6.out.c 4 rfl
 have a5:=HO1_6.out.c 5 rfl
 have a6:=HO1_6.out.c 6 rfl
 have a7:=HO1_6.out.c 7 rfl
 have a8:=HO1_6.out.c 8 rfl
 have a9:=HO1_6.out.c 9 rfl
 have a10:=HO1_6.out.c 10 rfl
 have a11:=HO1_6.out.c 11 rfl
 have b0:=HO2_6.out.c 0 rfl
 have b1:=HO2_6.out.c 1 rfl
 have b2:=HO2_6.out.c 2 rfl
 have b3:=HO2_6.out.c 3 rfl
 have b4:=HO2_6.out.c 4 rfl
 have b5:=HO2_6.out.c 5 rfl
 have b6:=HO2_6.out.c 6 rfl
 have b7:=HO2_6.out.c 7 rfl
 have b8:=HO2_6.out.c 8 rfl
 have b9:=HO2_6.out.c 9 rfl
 have b10:=HO2_6.out.c 10 rfl
 have b11:=HO2_6.out.c 11 rfl
 have l1:=HO1_6.out.lt
 have l2:=HO2_6.out.lt
 have HCC:=jg (vd o.ag p.ga q.ga p.gc q.gc W6 HA_6.out.g HC_6.out.g z7)
 go_wp2_with fail
 refine HCC.out.mono ?_
 rintro e W7 ⟨rfl,hb⟩
 have HO1_7:=jg (HO1_6.out.later hb)
 have HO2_7:=jg (HO2_6.out.later hb)
 have HA_7:=jg (HA_6.out.later hb)
 have HC_7:=jg (HC_6.out.later hb)
 have HBB_7:=jg (HBB_6.out.trans (hb.mono HBB_6.out.size))
 have a0:=HO1_7.out.c 0 rfl
 have a1:=HO1_7.out.c 1 rfl
 have a2:=HO1_7.out.c 2 rfl
 have a3:=HO1_7.out.c 3 rfl
 have a4:=HO1_7.out.c 4 rfl
 have a5:=HO1_7.out.c 5 rfl
 have a6:=HO1_7.out.c 6 rfl
 have a7:=HO1_7.out.c 7 rfl
 have a8:=HO1_7.out.c 8 rfl
 have a9:=HO1_7.out.c 9 rfl
 have a10:=HO1_7.out.c 10 rfl
 have a11:=HO1_7.out.c 11 rfl
 have b0:=HO2_7.out.c 0 rfl
 have b1:=HO2_7.out.c 1 rfl
 have b2:=HO2_7.out.c 2 rfl
 have b3:=HO2_7.out.c 3 rfl
 have b4:=HO2_7.out.c 4 rfl
 have b5:=HO2_7.out.c 5 rfl
 have b6:=HO2_7.out.c 6 rfl
 have b7:=HO2_7.out.c 7 rfl
 have b8:=HO2_7.out.c 8 rfl
 have b9:=HO2_7.out.c 9 rfl
 have b10:=HO2_7.out.c 10 rfl
 have b11:=HO2_7.out.c 11 rfl
 have l1:=HO1_7.out.lt
 have l2:=HO2_7.out.lt
 go_wp2_with fail
 go_ret
 exact ⟨rfl,HBB_7.out⟩
end Go.Proofs.YtiiliobffnhpmaaGreatDoor.Jp
