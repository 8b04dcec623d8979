import Derived.Test.YtiiliobffnhpmaaGreatDoorGbh
set_option linter.all false
set_option maxRecDepth 100000
set_option maxHeartbeats 4000000
namespace Go.Proofs.YtiiliobffnhpmaaGreatDoor
namespace Jp
open Go.RowKit Oo
attribute [local go_sem] an
noncomputable def eC (ck:ByteArray->Except Nat Int) (n:aJ):Except Nat (List Co):=if n.op.k=1 then (match po n.op.c n.bd with
 | some e=>.error e
 | none=>.ok n.op.c) else gf ck n.op
noncomputable def ix (ck:ByteArray->Except Nat Int) (nodes:List aJ) (n:aJ):Except Nat aJ:=if (dN nodes n.nm).isSome=true then .error 2 else match eC ck n with
 | .error e=>.error e
 | .ok cs=>if 16<nodes.length+1\/20000<wI (du n) (gq (nodes.map du) []) then .error 5 else .ok { n with cols:=cs }
def EI (w:World) (q:bM) (o:Except Nat aJ) (e:Ending) (w':World):Prop:=Below w.heap.size w w'/\match o with
 | .ok n=>∃ ka kc,e=.returned (.agg (au n { q with ka:=ka,kc:=kc }).toArray)/\bw w' n { q with ka:=ka,kc:=kc }/\uw w.heap.size ka
 | .error k=>e=cm k
theorem iN:∀ (l:List Wd) (acc:List Int),(gq l acc).length=acc.length+l.length
 | [],acc=>rfl
 | n::l,acc=>by rw [gq,iN l];simp;omega
theorem NL.later {w wx:World} {a:Option Addr} {ps:List (aJ × bM)} (h:NL w a ps) (hb:Below w.heap.size w wx):NL wx a ps:=fun i hi=>by
 obtain ⟨b,off,e,h1,h2⟩:=h i hi
 exact ⟨b,off,e,fun j v hj=>(hb.cell (bL (h1 j v hj))).trans (h1 j v hj),h2.later hb⟩
theorem ro (ck:ByteArray->Except Nat Int) (ps:List (aJ × bM)) (a:Option Addr) (c:Nat) (n:aJ) (q:bM) (w:World) (hps:NL w a ps) (hpl:ps.length<=4000) (hn:bw w n q) (hsz:iv n.op) (hck:om w n.op.c ck) (hcl:n.op.c.length<=4096) (hbd:(∃ cs,eC ck n=.ok cs)->∀ m∈(ps.map fun p=>du p.1)++[du n],m.ins.length<=4096/\(0<=m.ws/\m.ws<=1048576)/\m.wt<=9223372036854775807) (hwt:∀ i,i<=ps.length->∀ x∈gq ((ps.map fun p=>du p.1).take i) [],0<=x/\x<=20000) :
 Calls Tryz.prog 35 #[.agg (au n q).toArray,.slice a ps.length c] w (EI w q (ix ck (ps.map (·.1)) n)):=by
 obtain ⟨O,HX⟩:∃ O,Hid (ix ck (ps.map (·.1)) n=O):=⟨_,rfl⟩
 rw [HX.out]
 unfold ix at HX
 have hmf:=ff
 have hB2:Below w.heap.size w ((w.alloc (.cells (au n q).toArray 61)).alloc (.cells #[.string ⟨#[]⟩,.int .i64 0,.slice none 0 0,.slice none 0 0,.slice none 0 0,.slice none 0 0,.slice none 0 0,.slice none 0 0,.int .i64 0,.int .i64 0,.int .i64 0,.slice none 0 0,.bool false,.slice none 0 0,.slice none 0 0,.int .i64 0] 61)):=(ae w _).alloc (by simp) _
 have HB2:=jg hB2
 have HO0:=jg (((aD.new w 61 16 (au n q).toArray rfl).later (ae (w.alloc (.cells (au n q).toArray 61)) (.cells #[.string ⟨#[]⟩,.int .i64 0,.slice none 0 0,.slice none 0 0,.slice none 0 0,.slice none 0 0,.slice none 0 0,.slice none 0 0,.int .i64 0,.int .i64 0,.int .i64 0,.slice none 0 0,.bool false,.slice none 0 0,.slice none 0 0,.int .i64 0] 61))))
 have HO1:=jg (aD.new (w.alloc (.cells (au n q).toArray 61)) 61 16 #[.string ⟨#[]⟩,.int .i64 0,.slice none 0 0,.slice none 0 0,.slice none 0 0,.slice none 0 0,.slice none 0 0,.slice none 0 0,.int .i64 0,.int .i64 0,.int .i64 0,.slice none 0 0,.bool false,.slice none 0 0,.slice none 0 0,.int .i64 0] rfl)
 rw [show (w.alloc (.cells (au n q).toArray 61)).heap.size=w.heap.size+1 from by simp] at HO1
 have HPL:=jg (l6 n.nm a ps.length c (ps.map (·.1)) ((w.alloc (.cells (au n q).toArray 61)).alloc (.cells #[.string ⟨#[]⟩,.int .i64 0,.slice none 0 0,.slice none 0 0,.slice none 0 0,.slice none 0 0,.slice none 0 0,.slice none 0 0,.int .i64 0,.int .i64 0,.int .i64 0,.slice none 0 0,.bool false,.slice none 0 0,.slice none 0 0,.int .i64 0] 61)) (by simp) (hps.nods.later hB2) (by simp;omega))
 have HNA:=jg hn
 have HPS:=jg hps
 have HSZ:=jg hsz
 have HCK:=jg hck
 have HBD:=jg hbd
 have HWT:=jg hwt
 clear hbd hwt
 have n0:=HO0.out.c 0 rfl
 clear hB2 hn hps hsz hck
 go_in
 go_upto_region 1 with fail
 generalize hWA:((w.alloc (.cells (au n q).toArray 61)).alloc (.cells #[.string ⟨#[]⟩,.int .i64 0,.slice none 0 0,.slice none 0 0,.slice none 0 0,.slice none 0 0,.slice none 0 0,.slice none 0 0,.int .i64 0,.int .i64 0,.int .i64 0,.slice none 0 0,.bool false,.slice none 0 0,.slice none 0 0,.int .i64 0] 61))=WA at *
 have hla:=HO0.out.lt
 clear hWA
 go_wp2_with fail
 refine HPL.out.mono ?_
 rintro e w1 ⟨rfl,hb1⟩
 have HB1:=jg (HB2.out.trans (hb1.mono HB2.out.size))
 have HO01:=jg (HO0.out.later hb1)
 have HO11:=jg (HO1.out.later hb1)
 clear hb1 HPL HO0 HO1 n0 HB2
 cases hi:dN (ps.map (·.1)) n.nm with
 | some i=>
  rw [hi] at HX
  rw [if_pos (show (some i).isSome=true from rfl)] at HX
  have h0:(0:Int)<=(i:Int):=by omega
  simp only [lN]
  clear hi
  go_wp2_with fail
  refine (bf 2 _).mono ?_
  rintro e w3 ⟨rfl,h3⟩
  have h3':=h3.symm
  subst h3'
  unfold cm
  go_wp2_with fail
  rw [<-HX.out]
  exact ⟨HB1.out,rfl⟩
 | none=>
  rw [hi] at HX
  rw [if_neg (show ¬ (none:Option Nat).isSome=true by simp)] at HX
  simp only [lN]
  clear hi
  have l0:=HO01.out.lt
  have k1:=HO01.out.c 1 rfl
  go_upto_if 18 with fail
  go_cut [18,5,6] from 18 to 36 (fun u18 u5 u6 wx=>∃ cs ka kc,eC ck n=.ok cs/\Below w.heap.size w wx/\aD wx w.heap.size 61 16 (au { n with cols:=cs } { q with ka:=ka,kc:=kc })/\aD wx (w.heap.size+1) 61 16 [.string ⟨#[]⟩,.int .i64 0,.slice none 0 0,.slice none 0 0,.slice none 0 0,.slice none 0 0,.slice none 0 0,.slice none 0 0,.int .i64 0,.int .i64 0,.int .i64 0,.slice none 0 0,.bool false,.slice none 0 0,.slice none 0 0,.int .i64 0]/\ap wx ka cs/\uw (w.heap.size+2) ka)
  case first=>
   have HN1:=jg (HNA.out.later HB1.out)
   by_cases hk:n.op.k=1
   ·have hk1:(n.op.k==1)=true:=by rw [hk];rfl
    have HCO:Hid (eC ck n=match po n.op.c n.bd with
     | some e=>.error e
     | none=>.ok n.op.c):=by unfold Hid eC;rw [if_pos hk]
    have HR:=jg HO01.out.row
    have HFO:=jg (AO n q w1 HN1.out.o.c hcl (fun x hx=>by have:=HSZ.out.cn x hx;omega))
    have HI3:Hid ((Tryz.prog.info? 61).map (·.size)=some (au n q).toArray.size):=dE
    clear hk
    go_wp2_with (refine wpList_load_row rfl 61 _ rfl w.heap.size rfl 61 (au n q).toArray (0,0) _ HR.out Tryz.underlying61 rfl HI3.out ?_)
    refine HFO.out.mono ?_
    rintro e w2 ⟨rfl,hb2⟩
    have HB3:=jg (HB1.out.trans (hb2.mono HB1.out.size))
    have HO02:=jg (HO01.out.later hb2)
    have HO12:=jg (HO11.out.later hb2)
    clear hb2 HB1 HO01 HO11 HN1 HFO HI3 HR k1 l0
    cases hf:po n.op.c n.bd with
    | some e0=>
     rw [hf] at HCO
     simp only [Cq]
     clear hf
     go_wp2_with fail
     refine (bf e0 _).mono ?_
     rintro e w3 ⟨rfl,h3⟩
     have h3':=h3.symm
     subst h3'
     unfold cm
     go_wp2_with fail
     have HY:=HX.out
     rw [HCO.out] at HY
     rw [<-HY]
     exact ⟨HB3.out,rfl⟩
    | none=>
     rw [hf] at HCO
     simp only [Cq]
     clear hf
     have l2:=HO02.out.lt
     have c4:=HO02.out.c 4 rfl
     have HCL:=jg (lS q.p.ca n.op.c q.p.cc w2 (HNA.out.o.c.later HB3.out) (by omega))
     go_wp2_with fail
     refine (kA _).mono ?_
     rintro e w3 ⟨rfl,h3⟩
     have h3':=h3.symm
     subst h3'
     go_wp2_with fail
     refine HCL.out.mono ?_
     rintro e w4 ⟨a',c',rfl,hO,hb4⟩
     obtain ⟨ka,kc,e2,hcc,hbn⟩:=OC.form (l:=n.op.c) hO
     cases e2
     have HB4:=jg (HB3.out.trans (hb4.mono HB3.out.size))
     have HO03:=jg (HO02.out.later hb4)
     have HO13:=jg (HO12.out.later hb4)
     have HCC:=jg hcc
     have HBN:=jg hbn
     have c14:=HO03.out.c 14 rfl
     have f14:=HO03.out.soft 14
     have l4:=HO03.out.lt
     have hw24:=hb4.size
     have HL12:=jg HO12.out.lt
     clear hO hb4 hcc hbn HCL c4 HB3 HO02 HO12
     go_wp2_with fail
     have HPU:=jg (HO03.out.put 14 (.slice a' n.op.c.length c'))
     go_meet
     refine ⟨n.op.c,a',c',HCO.out,?_,HPU.out.1,?_,qn HCC.out c14,fun b off e=>?_⟩
     ·exact HB4.out.setCell (p:=⟨w.heap.size,14,none⟩) lR _
     ·exact HO13.out.grown HPU.out.2 (nS (by omega))
     ·have:=(HBN.out _ e).1
      have:=HL12.out
      simp only at *
      omega
   ·have hk1:(n.op.k==1)=false:=by rw [beq_eq_false_iff_ne];exact hk
    have HCO:Hid (eC ck n=gf ck n.op):=by unfold Hid eC;rw [if_neg hk]
    have HOU:=jg (Ai ck n.op q.p w1 HSZ.out HN1.out.o (HCK.out.later HB1.out))
    unfold cO at HOU
    have m1:=HO01.out.c 1 rfl
    have m2:=HO01.out.c 2 rfl
    have m3:=HO01.out.c 3 rfl
    have m4:=HO01.out.c 4 rfl
    have m5:=HO01.out.c 5 rfl
    have m6:=HO01.out.c 6 rfl
    have m7:=HO01.out.c 7 rfl
    have m8:=HO01.out.c 8 rfl
    have m9:=HO01.out.c 9 rfl
    have m10:=HO01.out.c 10 rfl
    have m11:=HO01.out.c 11 rfl
    have m12:=HO01.out.c 12 rfl
    clear hk
    go_wp2_with fail
    refine HOU.out.mono ?_
    intro e w2 hr
    obtain ⟨hb2,hr⟩:=hr
    have HL11:=jg HO11.out.lt
    have HB3:=jg (HB1.out.trans (hb2.mono HB1.out.size))
    have HO02:=jg (HO01.out.later hb2)
    have HO12:=jg (HO11.out.later hb2)
    clear hb2 HB1 HO01 HO11 HN1 HOU k1 l0 m1 m2 m3 m4 m5 m6 m7 m8 m9 m10 m11 m12
    cases hf:gf ck n.op with
    | error e0=>
     rw [hf] at HCO hr
     simp only at hr
     subst hr
     clear hf
     go_wp2_with fail
     refine (bf e0 _).mono ?_
     rintro e w3 ⟨rfl,h3⟩
     have h3':=h3.symm
     subst h3'
     unfold cm
     go_wp2_with fail
     have HY:=HX.out
     rw [HCO.out] at HY
     rw [<-HY]
     exact ⟨HB3.out,rfl⟩
    | ok l=>
     rw [hf] at HCO hr
     have HCX:=jg (tR hf)
     obtain ⟨ka,kc,rfl,hcc,hff⟩:=hr
     have HCC:=jg hcc
     have HFF:=jg hff
     clear hff
     clear hf hcc
     have l2:=HO02.out.lt
     have c14:=HO02.out.c 14 rfl
     have f14:=HO02.out.soft 14
     go_wp2_with fail
     refine (kA _).mono ?_
     rintro e w3 ⟨rfl,h3⟩
     have h3':=h3.symm
     subst h3'
     go_wp2_with fail
     have HPU:=jg (HO02.out.put 14 (.slice ka l.length kc))
     go_meet
     refine ⟨l,ka,kc,HCO.out,?_,HPU.out.1,?_,qn HCC.out c14,?_⟩
     ·exact HB3.out.setCell (p:=⟨w.heap.size,14,none⟩) lR _
     ·exact HO12.out.grown HPU.out.2 (nS (by omega))
     ·exact HFF.out.mono HL11.out
  case rest=>
   obtain ⟨cs,ka,kc,hco,hbx,ho0,ho1,hcx,hfr⟩:=hcut
   have HBD:=jg (HBD.out ⟨cs,hco⟩)
   rw [hco] at HX
   simp only at HX
   have HN2:Hid (bw wc { n with cols:=cs } { q with ka:=ka,kc:=kc }):=⟨HNA.out.o.later hbx,HNA.out.i.later hbx,hcx⟩
   have HW2:Hid (du { n with cols:=cs }=du n):=rfl
   have HPX:=jg (NL.later HPS.out hbx)
   have HBX:=jg hbx
   have HO0:=jg ho0
   have HO1:=jg ho1
   have HFR:=jg hfr
   have hl0:=ho0.lt
   have hl1:=ho1.lt
   clear hco hbx ho0 ho1 hcx hfr HB1 HO01 HO11 k1 l0 HCK HSZ
   have HXN:=jg HX.out
   clear HX
   generalize hNN:({ n with cols:=cs }:aJ)=NN at *
   generalize hQQ:({ q with ka:=ka,kc:=kc }:bM)=QQ at *
   generalize wc=wU at *
   go_upto_region 9 with fail
   go_cut [7] from 37 to 43 (fun v7 wy=>∃ aw cw,v7=.slice aw (ps.length+1) cw/\aG wy aw (gq ((ps.map fun p=>du p.1)++[du n]) [])/\Below wU.heap.size wU wy)
   case first=>
    obtain ⟨i0,hi0,hz0,hz1,hz2⟩:=info_parts tw
    have HSB:Hid (∀ W W',aD W w.heap.size 61 16 (au NN QQ)->Below W.heap.size W W'->aD W' w.heap.size 61 16 (au NN QQ)):=fun W W' h hb=>h.later hb
    have HD0:Hid (Below wU.heap.size wU wU.drew):=aA
    have HNLW:Hid (∀ (W:World) (gg cap:Nat),Below wU.heap.size wU W->W.ownsRow wU.heap.size 61 16 (.slice (some ⟨gg,0,none⟩) (ps.length+1) cap) (ps.length+1) (ps.flatMap bU++au NN QQ)->NL W (some ⟨gg,0,none⟩) (ps++[(NN,QQ)])):=fun W gg cap hb hO=>by
     have hO':W.ownsRow wU.heap.size 61 16 (.slice (some ⟨gg,0,none⟩) (ps.length+1) cap) (ps.length+1) ((ps++[(NN,QQ)]).flatMap bU):=by
      rw [List.flatMap_append];simpa [bU] using hO
     obtain ⟨a2,c2,e2,h2⟩:=wX (ps:=ps++[(NN,QQ)]) (by simp) hO' (fun p hp=>by
      rcases List.mem_append.1 hp with hp | hp
      ·obtain ⟨i,hi,rfl⟩:=List.getElem_of_mem hp
       obtain ⟨_,_,_,_,h⟩:=HPX.out i hi
       exact h.later hb
      ·have:=List.mem_singleton.1 hp;subst this;exact HN2.out.later hb)
     obtain ⟨e3,-⟩:=Value.slice.inj e2
     rw [e3]
     exact h2
    have HWGT:Hid (∀ (W:World) (a2:Option Addr) (c2:Nat),NL W a2 (ps++[(NN,QQ)])->Calls Tryz.prog 7 #[.agg #[.slice a2 (ps.length+1) c2]] W fun e w'=>∃ aw cw,e=.returned (.slice aw (ps.length+1) cw)/\aG w' aw (gq ((ps.map fun p=>du p.1)++[du n]) [])/\Below W.heap.size W w'):=fun W a2 c2 h=>by
     have hwd:=DS h
     rw [List.map_append] at hwd
     simp only [List.map_cons,List.map_nil,HW2.out] at hwd
     have hc:=qL _ a2 c2 W hwd (by simp;omega) HBD.out (fun i hi x hx=>HWT.out i (by simp at hi;omega) x (by
      rw [List.take_append_of_le_length (by simp at hi ⊢;omega)] at hx;exact hx))
     rw [show ((ps.map fun p=>du p.1)++[du n]).length=ps.length+1 by simp] at hc
     refine hc.mono ?_
     rintro e w' ⟨v,rfl,hO,hb⟩
     obtain ⟨aw,cw,rfl,hi⟩:=OI.form hO
     exact ⟨aw,cw,by rw [iN];simp,hi,hb⟩
    refine Go.wp_region_held (S:=fun W=>aD W w.heap.size 61 16 (au NN QQ)) (by kernel_rfl) ?_
    change Go.wpAnyH _ _ _ _ _ _ _ _ (World.drew _)
    refine tk 0 (.slice a ps.length c) rfl (by kernel_rfl) (by rfl) (fun _ _ _ h=>h) (HSB.out _ _ HO0.out aA) (fun W hW=>?_) ?_
    ·go_simp
    refine tk 2 (.agg #[.string NN.nm,.int .i64 NN.op.k,.slice QQ.p.ea NN.op.ex.length QQ.p.ec,.slice QQ.p.na NN.op.nm.length QQ.p.nc,.slice QQ.p.ca NN.op.c.length QQ.p.cc,.slice QQ.p.ra NN.op.r.length QQ.p.rc,.slice QQ.p.ka NN.op.ks.length QQ.p.kc,.slice QQ.p.oa NN.op.os.length QQ.p.oc,.int .i64 NN.op.wk,.int .i64 NN.op.ws,.int .i64 NN.op.wt,.slice QQ.p.ga NN.op.ag.length QQ.p.gc,.bool NN.op.ou,.slice QQ.ia NN.ins.length QQ.ic,.slice QQ.ka NN.cols.length QQ.kc,.int .i64 NN.bd]) rfl (by kernel_rfl) (by rfl) (fun _ _ _ h=>h) (HSB.out _ _ HO0.out aA) (fun W hW=>?_) ?_
    ·have l9:=hW.lt
     have e0:=hW.c 0 rfl
     have e1:=hW.c 1 rfl
     have e2:=hW.c 2 rfl
     have e3:=hW.c 3 rfl
     have e4:=hW.c 4 rfl
     have e5:=hW.c 5 rfl
     have e6:=hW.c 6 rfl
     have e7:=hW.c 7 rfl
     have e8:=hW.c 8 rfl
     have e9:=hW.c 9 rfl
     have e10:=hW.c 10 rfl
     have e11:=hW.c 11 rfl
     have e12:=hW.c 12 rfl
     have e13:=hW.c 13 rfl
     have e14:=hW.c 14 rfl
     have e15:=hW.c 15 rfl
     go_simp
    refine Go.wpAnyH_all (rs:=[1,3]) (by kernel_rfl) (by simp) (fun j hj=>?_)
    simp only [List.mem_cons,List.not_mem_nil,or_false] at hj
    rcases hj with rfl | rfl
    ·refine wpOp_step rfl (fun K hK=>?_)
     go_simp
     refine (yX a ps c wU.drew (HPX.out.later aA) (by omega)).mono ?_
     rintro e w4 ⟨a',c',rfl,hO4,hb4⟩
     have HB4:=jg (HD0.out.trans (hb4.mono HD0.out.size))
     have HS4:=jg (HSB.out _ _ (HSB.out _ _ HO0.out aA) hb4)
     have HO4:=jg hO4
     clear hO4 hb4
     refine hK _ _ ⟨HS4.out,?_⟩
     clear hK K
     refine bH 3 (by kernel_rfl) rfl (fun K hK=>?_)
     go_simp
     refine hK _ _ ⟨HSB.out w4 _ HS4.out (ae w4 _),?_⟩
     clear hK K
     refine bH 4 (by kernel_rfl) rfl (fun K hK=>?_)
     have HBW:Hid (Below wU.heap.size wU (w4.alloc (.cells #[.string NN.nm,.int .i64 NN.op.k,.slice QQ.p.ea NN.op.ex.length QQ.p.ec,.slice QQ.p.na NN.op.nm.length QQ.p.nc,.slice QQ.p.ca NN.op.c.length QQ.p.cc,.slice QQ.p.ra NN.op.r.length QQ.p.rc,.slice QQ.p.ka NN.op.ks.length QQ.p.kc,.slice QQ.p.oa NN.op.os.length QQ.p.oc,.int .i64 NN.op.wk,.int .i64 NN.op.ws,.int .i64 NN.op.wt,.slice QQ.p.ga NN.op.ag.length QQ.p.gc,.bool NN.op.ou,.slice QQ.ia NN.ins.length QQ.ic,.slice QQ.ka NN.cols.length QQ.kc,.int .i64 NN.bd] 61))):=HB4.out.trans ((ae w4 _).mono HB4.out.size)
     have HROW:Hid (((w4.alloc (.cells #[.string NN.nm,.int .i64 NN.op.k,.slice QQ.p.ea NN.op.ex.length QQ.p.ec,.slice QQ.p.na NN.op.nm.length QQ.p.nc,.slice QQ.p.ca NN.op.c.length QQ.p.cc,.slice QQ.p.ra NN.op.r.length QQ.p.rc,.slice QQ.p.ka NN.op.ks.length QQ.p.kc,.slice QQ.p.oa NN.op.os.length QQ.p.oc,.int .i64 NN.op.wk,.int .i64 NN.op.ws,.int .i64 NN.op.wt,.slice QQ.p.ga NN.op.ag.length QQ.p.gc,.bool NN.op.ou,.slice QQ.ia NN.ins.length QQ.ic,.slice QQ.ka NN.cols.length QQ.kc,.int .i64 NN.bd] 61))).ownsRow wU.heap.size 61 16 (.slice a' ps.length c') ps.length (ps.flatMap bU)):=HO4.out.alloc _
     have HSW:Hid (aD (w4.alloc (.cells #[.string NN.nm,.int .i64 NN.op.k,.slice QQ.p.ea NN.op.ex.length QQ.p.ec,.slice QQ.p.na NN.op.nm.length QQ.p.nc,.slice QQ.p.ca NN.op.c.length QQ.p.cc,.slice QQ.p.ra NN.op.r.length QQ.p.rc,.slice QQ.p.ka NN.op.ks.length QQ.p.kc,.slice QQ.p.oa NN.op.os.length QQ.p.oc,.int .i64 NN.op.wk,.int .i64 NN.op.ws,.int .i64 NN.op.wt,.slice QQ.p.ga NN.op.ag.length QQ.p.gc,.bool NN.op.ou,.slice QQ.ia NN.ins.length QQ.ic,.slice QQ.ka NN.cols.length QQ.kc,.int .i64 NN.bd] 61)) w.heap.size 61 16 (au NN QQ)):=HSB.out w4 _ HS4.out (ae w4 _)
     have HSRC:Hid (aD (w4.alloc (.cells #[.string NN.nm,.int .i64 NN.op.k,.slice QQ.p.ea NN.op.ex.length QQ.p.ec,.slice QQ.p.na NN.op.nm.length QQ.p.nc,.slice QQ.p.ca NN.op.c.length QQ.p.cc,.slice QQ.p.ra NN.op.r.length QQ.p.rc,.slice QQ.p.ka NN.op.ks.length QQ.p.kc,.slice QQ.p.oa NN.op.os.length QQ.p.oc,.int .i64 NN.op.wk,.int .i64 NN.op.ws,.int .i64 NN.op.wt,.slice QQ.p.ga NN.op.ag.length QQ.p.gc,.bool NN.op.ou,.slice QQ.ia NN.ins.length QQ.ic,.slice QQ.ka NN.cols.length QQ.kc,.int .i64 NN.bd] 61)) w4.heap.size 61 16 (au NN QQ)):=aD.new w4 61 16 #[.string NN.nm,.int .i64 NN.op.k,.slice QQ.p.ea NN.op.ex.length QQ.p.ec,.slice QQ.p.na NN.op.nm.length QQ.p.nc,.slice QQ.p.ca NN.op.c.length QQ.p.cc,.slice QQ.p.ra NN.op.r.length QQ.p.rc,.slice QQ.p.ka NN.op.ks.length QQ.p.kc,.slice QQ.p.oa NN.op.os.length QQ.p.oc,.int .i64 NN.op.wk,.int .i64 NN.op.ws,.int .i64 NN.op.wt,.slice QQ.p.ga NN.op.ag.length QQ.p.gc,.bool NN.op.ou,.slice QQ.ia NN.ins.length QQ.ic,.slice QQ.ka NN.cols.length QQ.kc,.int .i64 NN.bd] rfl
     refine step_append_lies _ (by rfl) _ _ _ (by rfl) wU.heap.size 61 i0 _ 16 280 Tryz.underlying22 hi0 hz0 hz1 hz2 rfl (by decide) (.slice a' ps.length c') ps.length (ps.flatMap bU) (by rfl) HROW.out ⟨w4.heap.size,0,none⟩ 1 1 (au NN QQ) (by rfl) (by rfl) (ya HSRC.out) (gI (NN,QQ)) (by decide) (by unfold maxLen;omega) (by omega) HBW.out.size _ rfl ?_
     intro gg cap w5 hown hgrow hgg hlt
     have HB5:=jg (HBW.out.grown hgrow HBW.out.size (fun k hk=>(World.ownsRow.lt HROW.out k hk).1))
     have HS5:=jg (HSW.out.grown hgrow (fun e=>by have:=(World.ownsRow.lt HROW.out _ e.symm).1;omega))
     have HNL:=jg (HNLW.out w5 gg cap HB5.out hown)
     clear hown hgrow hgg
     refine hK _ _ ⟨HS5.out,?_⟩
     clear hK K
     refine bH 5 (by kernel_rfl) rfl (fun K hK=>?_)
     go_simp
     refine hK _ _ ⟨HS5.out,?_⟩
     clear hK K
     refine bH 6 (by kernel_rfl) rfl (fun K hK=>?_)
     go_simp
     refine (HWGT.out w5 _ cap HNL.out).mono ?_
     rintro e w7 ⟨aw,cw,rfl,hia,hb7⟩
     have HB7:=jg (HB5.out.trans (hb7.mono HB5.out.size))
     have HS7:=jg (HS5.out.later hb7)
     have HIA:=jg hia
     clear hia hb7
     refine hK _ _ ⟨HS7.out,?_⟩
     clear hK K
     refine bH 7 (by kernel_rfl) rfl (fun K hK=>?_)
     go_simp
     refine hK _ _ ⟨HS7.out,?_⟩
     clear hK K
     refine Go.wpAnyH_done (by kernel_rfl) ?_ _
     go_wp2_with fail
     go_meet
     exact ⟨aw,cw,rfl,HIA.out,HB7.out⟩
    ·refine wpOp_step rfl (fun K hK=>?_)
     go_simp
     refine hK _ _ ⟨HSB.out wU.drew _ (HSB.out _ _ HO0.out aA) (ae wU.drew _),?_⟩
     clear hK K
     have HA1:Hid (Below wU.heap.size wU (wU.drew.alloc (.cells #[.string NN.nm,.int .i64 NN.op.k,.slice QQ.p.ea NN.op.ex.length QQ.p.ec,.slice QQ.p.na NN.op.nm.length QQ.p.nc,.slice QQ.p.ca NN.op.c.length QQ.p.cc,.slice QQ.p.ra NN.op.r.length QQ.p.rc,.slice QQ.p.ka NN.op.ks.length QQ.p.kc,.slice QQ.p.oa NN.op.os.length QQ.p.oc,.int .i64 NN.op.wk,.int .i64 NN.op.ws,.int .i64 NN.op.wt,.slice QQ.p.ga NN.op.ag.length QQ.p.gc,.bool NN.op.ou,.slice QQ.ia NN.ins.length QQ.ic,.slice QQ.ka NN.cols.length QQ.kc,.int .i64 NN.bd] 61))):=HD0.out.trans ((ae wU.drew _).mono HD0.out.size)
     have HAO:Hid (aD (wU.drew.alloc (.cells #[.string NN.nm,.int .i64 NN.op.k,.slice QQ.p.ea NN.op.ex.length QQ.p.ec,.slice QQ.p.na NN.op.nm.length QQ.p.nc,.slice QQ.p.ca NN.op.c.length QQ.p.cc,.slice QQ.p.ra NN.op.r.length QQ.p.rc,.slice QQ.p.ka NN.op.ks.length QQ.p.kc,.slice QQ.p.oa NN.op.os.length QQ.p.oc,.int .i64 NN.op.wk,.int .i64 NN.op.ws,.int .i64 NN.op.wt,.slice QQ.p.ga NN.op.ag.length QQ.p.gc,.bool NN.op.ou,.slice QQ.ia NN.ins.length QQ.ic,.slice QQ.ka NN.cols.length QQ.kc,.int .i64 NN.bd] 61)) wU.heap.size 61 16 (au NN QQ)):=aD.new wU.drew 61 16 #[.string NN.nm,.int .i64 NN.op.k,.slice QQ.p.ea NN.op.ex.length QQ.p.ec,.slice QQ.p.na NN.op.nm.length QQ.p.nc,.slice QQ.p.ca NN.op.c.length QQ.p.cc,.slice QQ.p.ra NN.op.r.length QQ.p.rc,.slice QQ.p.ka NN.op.ks.length QQ.p.kc,.slice QQ.p.oa NN.op.os.length QQ.p.oc,.int .i64 NN.op.wk,.int .i64 NN.op.ws,.int .i64 NN.op.wt,.slice QQ.p.ga NN.op.ag.length QQ.p.gc,.bool NN.op.ou,.slice QQ.ia NN.ins.length QQ.ic,.slice QQ.ka NN.cols.length QQ.kc,.int .i64 NN.bd] rfl
     refine bH 1 (by kernel_rfl) rfl (fun K hK=>?_)
     go_simp
     refine (yX a ps c (wU.drew.alloc (.cells #[.string NN.nm,.int .i64 NN.op.k,.slice QQ.p.ea NN.op.ex.length QQ.p.ec,.slice QQ.p.na NN.op.nm.length QQ.p.nc,.slice QQ.p.ca NN.op.c.length QQ.p.cc,.slice QQ.p.ra NN.op.r.length QQ.p.rc,.slice QQ.p.ka NN.op.ks.length QQ.p.kc,.slice QQ.p.oa NN.op.os.length QQ.p.oc,.int .i64 NN.op.wk,.int .i64 NN.op.ws,.int .i64 NN.op.wt,.slice QQ.p.ga NN.op.ag.length QQ.p.gc,.bool NN.op.ou,.slice QQ.ia NN.ins.length QQ.ic,.slice QQ.ka NN.cols.length QQ.kc,.int .i64 NN.bd] 61)) (HPX.out.later HA1.out) (by omega)).mono ?_
     rintro e w4 ⟨a',c',rfl,hO4,hb4⟩
     have HB4:=jg (HA1.out.trans (hb4.mono HA1.out.size))
     have HS4:=jg (HO0.out.later HB4.out)
     have HO4:Hid (w4.ownsRow wU.heap.size 61 16 (.slice a' ps.length c') ps.length (ps.flatMap bU)):=World.ownsRow.mono hO4 (by simp)
     have HA4:=jg (HAO.out.later hb4)
     clear hO4 hb4
     refine hK _ _ ⟨HS4.out,?_⟩
     clear hK K
     refine bH 4 (by kernel_rfl) rfl (fun K hK=>?_)
     have HBW:=jg HB4.out
     have HROW:=jg HO4.out
     have HSW:=jg HS4.out
     have HSRC:=jg HA4.out
     refine step_append_lies _ (by rfl) _ _ _ (by rfl) wU.heap.size 61 i0 _ 16 280 Tryz.underlying22 hi0 hz0 hz1 hz2 rfl (by decide) (.slice a' ps.length c') ps.length (ps.flatMap bU) (by rfl) HROW.out ⟨wU.heap.size,0,none⟩ 1 1 (au NN QQ) (by rfl) (by rfl) (ya HSRC.out) (gI (NN,QQ)) (by decide) (by unfold maxLen;omega) (by omega) HBW.out.size _ rfl ?_
     intro gg cap w5 hown hgrow hgg hlt
     have HB5:=jg (HBW.out.grown hgrow HBW.out.size (fun k hk=>(World.ownsRow.lt HROW.out k hk).1))
     have HS5:=jg (HSW.out.grown hgrow (fun e=>by have:=(World.ownsRow.lt HROW.out _ e.symm).1;omega))
     have HNL:=jg (HNLW.out w5 gg cap HB5.out hown)
     clear hown hgrow hgg
     refine hK _ _ ⟨HS5.out,?_⟩
     clear hK K
     refine bH 5 (by kernel_rfl) rfl (fun K hK=>?_)
     go_simp
     refine hK _ _ ⟨HS5.out,?_⟩
     clear hK K
     refine bH 6 (by kernel_rfl) rfl (fun K hK=>?_)
     go_simp
     refine (HWGT.out w5 _ cap HNL.out).mono ?_
     rintro e w7 ⟨aw,cw,rfl,hia,hb7⟩
     have HB7:=jg (HB5.out.trans (hb7.mono HB5.out.size))
     have HS7:=jg (HS5.out.later hb7)
     have HIA:=jg hia
     clear hia hb7
     refine hK _ _ ⟨HS7.out,?_⟩
     clear hK K
     refine bH 7 (by kernel_rfl) rfl (fun K hK=>?_)
     go_simp
     refine hK _ _ ⟨HS7.out,?_⟩
     clear hK K
     refine Go.wpAnyH_done (by kernel_rfl) ?_ _
     go_wp2_with fail
     go_meet
     exact ⟨aw,cw,rfl,HIA.out,HB7.out⟩
   case rest=>
    obtain ⟨aw,cw,hv,hia,hby⟩:=hcut
    subst hv
    have HBY:=jg (HBX.out.trans (hby.mono HBX.out.size))
    have HA0:=jg (HO0.out.later hby)
    have HA1:=jg (HO1.out.later hby)
    have HN3:=jg (HN2.out.later hby)
    obtain ⟨b,off,e,hce⟩:=hia ps.length (by rw [iN];simp)
    subst e
    have hlast:(gq ((ps.map fun p=>du p.1)++[du n]) [])[ps.length]?=some (wI (du n) (gq ((ps.map (·.1)).map du) [])):=by
     rw [qG,List.getElem?_append_right (by rw [iN];simp),iN]
     simp [Function.comp_def]
    rw [(List.getElem?_eq_some_iff.1 hlast).2] at hce
    have hbl:=bL hce
    have HXM:Hid ((if 16<ps.length+1\/20000<wI (du n) (gq ((ps.map (·.1)).map du) []) then .error 5 else .ok NN)=O):=by
     have:=HXN.out
     rw [List.length_map] at this
     exact this
    clear hlast HXN hia hby HBX HO0 HO1 HN2 HBD HWT HPX HPS
    generalize wI (du n) (gq ((ps.map (·.1)).map du) [])=G at *
    generalize hL1:ps.length+1=L1 at *
    have h0:(0:Int)<=(ps.length:Int):=by omega
    have hlt:(ps.length:Int)<(L1:Int):=by omega
    have hltn:ps.length<L1:=by omega
    by_cases h16:16<L1
    ·have h16i:(16:Int)<(L1:Int):=by omega
     have HY:Hid (.error 5=O):=by have:=HXM.out;rw [if_pos (.inl h16)] at this;exact this
     go_wp2_with fail
     refine (bf 5 _).mono ?_
     rintro e w3 ⟨rfl,h3⟩
     have h3':=h3.symm
     subst h3'
     unfold cm
     go_wp2_with fail
     rw [<-HY.out]
     exact ⟨HBY.out,rfl⟩
    ·have h16i:¬ (16:Int)<(L1:Int):=by omega
     by_cases h2:20000<G
     ·have HY:Hid (.error 5=O):=by have:=HXM.out;rw [if_pos (.inr h2)] at this;exact this
      go_wp2_with fail
      refine (bf 5 _).mono ?_
      rintro e w3 ⟨rfl,h3⟩
      have h3':=h3.symm
      subst h3'
      unfold cm
      go_wp2_with fail
      rw [<-HY.out]
      exact ⟨HBY.out,rfl⟩
     ·have HY:Hid (.ok NN=O):=by have:=HXM.out;rw [if_neg (fun h=>h.elim h16 h2)] at this;exact this
      have HR3:=jg HA0.out.row
      have HR2:=jg HA1.out.row
      have HI3:Hid ((Tryz.prog.info? 61).map (·.size)=some (au NN QQ).toArray.size):=dE
      have ho1:Hid ((au NN QQ).toArray.all (·.oneCell')=true):=by unfold Hid au;simp [Value.oneCell']
      have HSZ:Hid ((#[.string ⟨#[]⟩,.int .i64 0,.slice none 0 0,.slice none 0 0,.slice none 0 0,.slice none 0 0,.slice none 0 0,.slice none 0 0,.int .i64 0,.int .i64 0,.int .i64 0,.slice none 0 0,.bool false,.slice none 0 0,.slice none 0 0,.int .i64 0]:Array Value).size=(au NN QQ).toArray.size):=rfl
      generalize hCC:(au NN QQ).toArray=CC at *
      have HCCe:=jg hCC.symm
      clear hCC
      go_upto_region 12 with fail
      go_wp2_with (first
       | (refine wpList_load_row rfl 61 _ rfl w.heap.size rfl 61 CC (0,0) _ HR3.out Tryz.underlying61 rfl HI3.out ?_)
       | (refine wpList_store_row rfl 61 _ _ rfl (w.heap.size+1) CC rfl rfl 61 #[.string ⟨#[]⟩,.int .i64 0,.slice none 0 0,.slice none 0 0,.slice none 0 0,.slice none 0 0,.slice none 0 0,.slice none 0 0,.int .i64 0,.int .i64 0,.int .i64 0,.slice none 0 0,.bool false,.slice none 0 0,.slice none 0 0,.int .i64 0] HR2.out HI3.out HSZ.out ho1.out ?_))
      have hG:=iq wc (w.heap.size+1) CC
      refine bodyPost_ret (v:=.agg CC) (results_cell_row rfl _ _ (w.heap.size+1) 61 CC (0,0) _ rfl (setRow_heap _ _ _ _ _ _ HR2.out) Tryz.underlying61 rfl HI3.out) rfl ?_
      have hBF:=HBY.out.grown hG HBY.out.size (fun k hk=>by cases hk;omega)
      rw [<-HY.out]
      have hfr:=HFR.out
      refine ⟨hBF,ka,kc,by rw [HCCe.out,hQQ],?_,hfr.mono (by omega)⟩
      have hc3:=HN3.out.c
      subst hNN
      subst hQQ
      refine ⟨HNA.out.o.later hBF,HNA.out.i.later hBF,?_⟩
      exact ap.kept hc3 hG (fun b off e e2=>by have:=hfr b off e;have:=sI e2;omega)
end Jp
namespace Jp
open Go.RowKit Oo
noncomputable def dM (rd:R1) (pf:P1) (ckF:List Co->ByteArray->Except Nat Int) (nodes:List aJ) (line:ByteArray):Except Nat (List aJ):=match tok line.size 0 line.data.toList with
 | .error _=>.error 1
 | .ok []=>.ok nodes
 | .ok (t::ts)=>bnd (dx rd pf nodes line (t::ts)) fun n ts'=>bnd (aM line.size [⟨#[]⟩] ts') fun _ _=>match ix (ckF n.op.c) nodes n with
  | .error e=>.error e
  | .ok n'=>.ok (nodes++[n'])
def EH (m:Wd):Prop:=m.ins.length<=4096/\(0<=m.ws/\m.ws<=1048576)/\m.wt<=9223372036854775807
structure Gd (nodes:List aJ):Prop where
 len:nodes.length<=16
 cx:∀ n∈nodes,bP n.cols
 bd:∀ n∈nodes,EH (du n)
 wt:∀ x∈gq (nodes.map du) [],0<=x/\x<=20000
theorem xF:Gd []:=⟨Nat.zero_le _,fun n h=>(by cases h),fun n h=>(by cases h),fun x h=>(by cases h)⟩
theorem oP:∀ (l m:List Wd) (acc:List Int),gq (l++m) acc=gq m (gq l acc)
 | [],m,acc=>rfl
 | n::l,m,acc=>by rw [List.cons_append,gq,oP l m,gq]
theorem ui:∀ (l:List Wd) (acc:List Int),acc <+: gq l acc
 | [],acc=>List.prefix_refl _
 | n::l,acc=>by rw [gq];exact (List.prefix_append acc _).trans (ui l _)
theorem Gd.wti {nodes:List aJ} (h:Gd nodes) (i:Nat):∀ x∈gq ((nodes.map du).take i) [],0<=x/\x<=20000:=fun x hx=>h.wt x (by
 have e:nodes.map du=(nodes.map du).take i++(nodes.map du).drop i:=(List.take_append_drop _ _).symm
 rw [e,oP]
 exact (ui _ _).subset hx)
theorem xw {l:List Co} (h:bP l):∀ x∈l,x.nm.size<=12:=fun x hx=>by
 obtain ⟨i,hi,rfl⟩:=List.getElem_of_mem hx
 have h1:=(h.2 i hi).1
 unfold pg at h1
 simp at h1
 exact h1.2
theorem bB {nodes:List aJ} (hg:∀ m∈nodes,bP m.cols) (i:Int):(ak nodes i).length<=8/\∀ x∈ak nodes i,x.nm.size<=12:=by
 unfold ak
 cases h:nodes[i.toNat]? with
 | none=>exact ⟨by simp,fun x hx=>by simp at hx⟩
 | some n=>
  have hm:=hg n (List.mem_of_getElem? h)
  exact ⟨hm.1,xw hm⟩
def wT (rd:R1):Prop:=∀ s n,rd s=some n->-9223372036854775808<=n/\n<=9223372036854775807
theorem lV {rd:R1} (hr:wT rd) {n:Int} (h:Nu rd n):-9223372036854775808<=n/\n<=9223372036854775807:=by
 obtain ⟨s,_,_,h⟩:=h
 exact hr s n h
theorem eI {rd:R1} (hr:wT rd) {v:Int × Int × Int} (h:jT rd v):(-9223372036854775808<=v.2.1/\v.2.1<=9223372036854775807)/\(-9223372036854775808<=v.2.2/\v.2.2<=9223372036854775807):=by
 rcases h with ⟨-,h1,h2⟩ | ⟨-,h1,h2⟩ | ⟨-,h1,h2⟩
 ·rw [h1,h2];decide
 ·exact ⟨lV hr h1,lV hr h2⟩
 ·rw [h2];exact ⟨lV hr h1,by decide⟩
theorem CH {n:Int} (h:-9223372036854775808<=n/\n<=9223372036854775807):(Lit.int .i64 n).wf=true:=by
 have h':IntKind.i64.min<=n/\n<=IntKind.i64.max:=h
 simpa [Lit.wf] using h'
structure Eo (n:aJ):Prop where
 sz:iv n.op
 c:n.op.c.length<=4096
 cn:∀ x∈n.op.c,x.nm.size<=12
 i:n.ins.length<=4096
theorem yi {rd:R1} {pf:P1} {nodes:List aJ} {n:aJ} (hr:wT rd) (hg:∀ m∈nodes,bP m.cols) (h:jV rd pf nodes n):Eo n:=by
 have z0:(Lit.int .i64 0).wf=true:=CH (by decide)
 cases h with
 | stream nm cs bd h1 h2 h3 h4 h5=>
  have hn:∀ x∈cs,x.nm.size<=12:=fun x hx=>bD (h4 x hx).1
  exact ⟨⟨by simp [aB],by simp [aB],by show cs.length<=_;omega,by simp [aB],by simp [aB],by simp [aB],by simp [aB],fun x hx=>by have:=hn x hx;omega,fun x hx=>by simp [aB] at hx,fun x hx=>by simp [aB] at hx,z0⟩,by show cs.length<=_;omega,hn,by simp⟩
 | sink nm i h1 h2=>
  obtain ⟨a1,a2⟩:=bB hg i
  exact ⟨⟨by simp [aB],by simp [aB],by show (ak nodes i).length<=_;omega,by simp [aB],by simp [aB],by simp [aB],by simp [aB],fun x hx=>by have:=a2 x hx;omega,fun x hx=>by simp [aB] at hx,fun x hx=>by simp [aB] at hx,z0⟩,by show (ak nodes i).length<=_;omega,a2,by simp⟩
 | wher nm i x h1 h2 h3=>
  obtain ⟨a1,a2⟩:=bB hg i
  exact ⟨⟨by simp [aB],by simp [aB],by show (ak nodes i).length<=_;omega,by simp [aB],by simp [aB],by simp [aB],by simp [aB],fun x hx=>by have:=a2 x hx;omega,fun x hx=>by simp [aB] at hx,fun x hx=>by simp [aB] at hx,z0⟩,by show (ak nodes i).length<=_;omega,a2,by simp⟩
 | selct nm i l h1 h2 h3 h4 h5=>
  obtain ⟨a1,a2⟩:=bB hg i
  exact ⟨⟨by simp [aB];omega,by simp [aB];omega,by show (ak nodes i).length<=_;omega,by simp [aB],by simp [aB],by simp [aB],by simp [aB],fun x hx=>by have:=a2 x hx;omega,fun x hx=>by simp [aB] at hx,fun x hx=>by
   obtain ⟨p,hp,rfl⟩:=List.mem_map.1 (show x∈l.map (·.1) from hx)
   have:=bD (h5 p hp).1
   omega,z0⟩,by show (ak nodes i).length<=_;omega,a2,by simp⟩
 | wind nm i ks v l h1 h2 h3 h4 h5 h6 h7=>
  obtain ⟨a1,a2⟩:=bB hg i
  exact ⟨⟨by simp [aB],by simp [aB];omega,by show (ak nodes i).length<=_;omega,by simp [aB],by show ks.length<=_;omega,by simp [aB],by simp [aB];omega,fun x hx=>by have:=a2 x hx;omega,fun x hx=>by simp [aB] at hx,fun x hx=>by
   obtain ⟨p,hp,rfl⟩:=List.mem_map.1 (show x∈l.map (·.1) from hx)
   have:=bD (h7 p hp).1
   omega,CH (eI hr h6).1⟩,by show (ak nodes i).length<=_;omega,a2,by simp⟩
 | union nm i l h1 h2 h3 h4 h5 h6=>
  obtain ⟨a1,a2⟩:=bB hg i
  exact ⟨⟨by simp [aB],by simp [aB],by show (ak nodes i).length<=_;omega,by simp [aB],by simp [aB],by simp [aB],by simp [aB],fun x hx=>by have:=a2 x hx;omega,fun x hx=>by simp [aB] at hx,fun x hx=>by simp [aB] at hx,z0⟩,by show (ak nodes i).length<=_;omega,a2,by simp;omega⟩
 | join nm i j ou l v h1 h2 h3 h4 h5 h6 h7=>
  obtain ⟨a1,a2⟩:=bB hg i
  obtain ⟨b1,b2⟩:=bB hg j
  exact ⟨⟨by simp [aB],by simp [aB],by show (ak nodes i).length<=_;omega,by show (ak nodes j).length<=_;omega,by simp [aB];omega,by simp [aB];omega,by simp [aB],fun x hx=>by have:=a2 x hx;omega,fun x hx=>by have:=b2 x hx;omega,fun x hx=>by simp [aB] at hx,CH (eI hr h7).1⟩,by show (ak nodes i).length<=_;omega,a2,by simp⟩
theorem nL {k s t:Int} (h:Wn.validB k s t=true):(0<=s/\s<=1048576)/\t<=9223372036854775807:=by
 unfold Wn.validB at h
 split at h
 ·simp at h;omega
 ·split at h
  ·simp at h;omega
  ·split at h
   ·simp at h;omega
   ·cases h
theorem yK {rd:R1} {pf:P1} {ck:ByteArray->Except Nat Int} {nodes:List aJ} {n:aJ} {cs:List Co} (h:jV rd pf nodes n) (hc:eC ck n=.ok cs):(0<=(du n).ws/\(du n).ws<=1048576)/\(du n).wt<=9223372036854775807:=by
 cases h with
 | stream nm cs bd h1 h2 h3 h4 h5=>exact ⟨⟨Int.le_refl 0,(show (0:Int)<=1048576 by decide)⟩,(show (0:Int)<=9223372036854775807 by decide)⟩
 | sink nm i h1 h2=>exact ⟨⟨Int.le_refl 0,(show (0:Int)<=1048576 by decide)⟩,(show (0:Int)<=9223372036854775807 by decide)⟩
 | wher nm i x h1 h2 h3=>exact ⟨⟨Int.le_refl 0,(show (0:Int)<=1048576 by decide)⟩,(show (0:Int)<=9223372036854775807 by decide)⟩
 | selct nm i l h1 h2 h3 h4 h5=>exact ⟨⟨Int.le_refl 0,(show (0:Int)<=1048576 by decide)⟩,(show (0:Int)<=9223372036854775807 by decide)⟩
 | union nm i l h1 h2 h3 h4 h5 h6=>exact ⟨⟨Int.le_refl 0,(show (0:Int)<=1048576 by decide)⟩,(show (0:Int)<=9223372036854775807 by decide)⟩
 | wind nm i ks v l h1 h2 h3 h4 h5 h6 h7=>
  unfold eC at hc
  rw [if_neg (by show ¬ (4:Int)=1;decide)] at hc
  unfold gf at hc
  split at hc
  ·unfold ji at hc
   rw [if_neg (by show ¬ (4:Int)=2;decide),if_neg (by show ¬ (4:Int)=3;decide),if_pos (show (4:Int)=4 from rfl)] at hc
   unfold ef at hc
   by_cases hp:cI ks (ak nodes i).length=true/\pY { aB with k:=4,c:=ak nodes i,nm:=l.map (·.1),ks:=ks,wk:=v.1,ws:=v.2.1,wt:=v.2.2,ag:=l.map (·.2) }=true/\(l.map (·.1)).length=(l.map (·.2)).length
   ·exact nL hp.2.1
   ·rw [if_neg hp] at hc;cases hc
  ·cases hc
 | join nm i j ou l v h1 h2 h3 h4 h5 h6 h7=>
  unfold eC at hc
  rw [if_neg (by show ¬ (5:Int)=1;decide)] at hc
  unfold gf at hc
  split at hc
  ·unfold ji at hc
   rw [if_neg (by show ¬ (5:Int)=2;decide),if_neg (by show ¬ (5:Int)=3;decide),if_neg (by show ¬ (5:Int)=4;decide),if_pos (show (5:Int)=5 from rfl)] at hc
   unfold iu at hc
   by_cases hp:cI (l.map (·.1)) (ak nodes i).length=true/\cI (l.map (·.2)) (ak nodes j).length=true/\(l.map (·.1)).length=(l.map (·.2)).length/\pY { aB with k:=5,c:=ak nodes i,r:=ak nodes j,ks:=l.map (·.1),os:=l.map (·.2),wk:=v.1,ws:=v.2.1,wt:=v.2.2,ou:=ou }=true
   ·exact nL hp.2.2.2
   ·rw [if_neg hp] at hc;cases hc
  ·cases hc
theorem uu {rd:R1} {pf:P1} {ck:ByteArray->Except Nat Int} {nodes:List aJ} {n:aJ} {cs:List Co} (hr:wT rd) (hg:∀ m∈nodes,bP m.cols) (h:jV rd pf nodes n) (hc:eC ck n=.ok cs):EH (du n):=⟨(yi hr hg h).i,(yK h hc).1,(yK h hc).2⟩
theorem uz {ck:ByteArray->Except Nat Int} {n:aJ} {cs:List Co} (h:eC ck n=.ok cs):bP cs:=by
 unfold eC at h
 split at h
 ·unfold po at h
  split at h
  ·cases h
  ·rename_i hf
   cases h
   split at hf
   ·cases hf
   ·split at hf
    ·assumption
    ·cases hf
 ·exact tR h
theorem pJ {ins ah:List Int} (ha:∀ x∈ah,0<=x) (i:Nat):0<=ja ins ah i:=by
 unfold ja
 split
 ·split
  ·rename_i x _ hx
   rw [List.getD_eq_getElem?_getD]
   cases h:ah[x.toNat]? with
   | none=>simp
   | some y=>simpa using ha y (List.mem_of_getElem? h)
  ·decide
 ·decide
theorem nP {k s t:Int} (hs:0<=s):0<=ct k s t:=by
 unfold ct
 split
 ·split
  ·decide
  ·have:0<=s.tdiv t:=Int.tdiv_nonneg hs (by omega)
   split<;>omega
 ·decide
theorem Cy {n:Wd} {ah:List Int} (hs:0<=n.ws) (ha:∀ x∈ah,0<=x):0<=wI n ah:=by
 unfold wI dQ
 split
 ·decide
 ·split
  ·exact Int.mul_nonneg (pJ ha 0) (nP hs)
  ·split
   ·exact Int.mul_nonneg (Int.mul_nonneg (pJ ha 0) (pJ ha 1)) (nP hs)
   ·unfold lA
    have:∀ l:List Nat,0<=(l.map (ja n.ins ah)).sum:=by
     intro l
     induction l with
     | nil=>simp
     | cons a l ih=>simp only [List.map_cons,List.sum_cons];have:=pJ (ins:=n.ins) ha a;omega
    exact this _
theorem fd {ck:ByteArray->Except Nat Int} {nodes:List aJ} {n n':aJ} (h:ix ck nodes n=.ok n'):dN nodes n.nm=none/\∃ cs,eC ck n=.ok cs/\n'={ n with cols:=cs }/\nodes.length+1<=16/\wI (du n) (gq (nodes.map du) [])<=20000:=by
 unfold ix at h
 split at h
 ·cases h
 ·rename_i hi
  split at h
  ·cases h
  ·rename_i cs hc
   split at h
   ·cases h
   ·rename_i hb
    cases h
    exact ⟨by simpa using hi,cs,hc,rfl,by omega,by omega⟩
theorem uH {rd:R1} {pf:P1} {ck:ByteArray->Except Nat Int} {nodes:List aJ} {n n':aJ} (hr:wT rd) (hg:Gd nodes) (h:jV rd pf nodes n) (hs:ix ck nodes n=.ok n'):Gd (nodes++[n']):=by
 obtain ⟨_,cs,hc,rfl,h1,h2⟩:=fd hs
 have hb:=uu hr hg.cx h hc
 refine ⟨by simp;omega,fun m hm=>?_,fun m hm=>?_,fun x hx=>?_⟩
 ·rcases List.mem_append.1 hm with hm | hm
  ·exact hg.cx m hm
  ·simp at hm;subst hm;exact uz hc
 ·rcases List.mem_append.1 hm with hm | hm
  ·exact hg.bd m hm
  ·simp at hm;subst hm;exact hb
 ·rw [List.map_append,oP] at hx
  simp only [List.map_cons,List.map_nil,gq] at hx
  rcases List.mem_append.1 hx with hx | hx
  ·exact hg.wt x hx
  ·have hx':x=wI (du n) (gq (nodes.map du) []):=List.mem_singleton.1 hx
   rw [hx']
   exact ⟨Cy hb.2.1.1 (fun y hy=>(hg.wt y hy).1),h2⟩
theorem rM {rd:R1} {pf:P1} {ckF:List Co->ByteArray->Except Nat Int} {nodes nodes':List aJ} {line:ByteArray} (hl:line.size<=3000) (h:dM rd pf ckF nodes line=.ok nodes'):nodes'=nodes\/∃ n n',jV rd pf nodes n/\ix (ckF n.op.c) nodes n=.ok n'/\nodes'=nodes++[n']:=by
 unfold dM at h
 cases ht:tok line.size 0 line.data.toList with
 | error p=>rw [ht] at h;cases h
 | ok l=>
  rw [ht] at h
  cases l with
  | nil=>cases h;exact .inl rfl
  | cons t ts=>
   simp only at h
   have hT:=tS hl ht
   have hz:(t::ts).length<=3000:=by
    have:=(fS _ _ _ _ ht).1
    have e:line.data.toList.length=line.size:=by simp
    omega
   cases hn:dx rd pf nodes line (t::ts) with
   | error e=>rw [hn] at h;cases h
   | ok p=>
    obtain ⟨n,ts'⟩:=p
    rw [hn] at h
    simp only [bnd] at h
    have hsh:=(qJ line hl hT hz n ts' hn).1
    cases hw:aM line.size [⟨#[]⟩] ts' with
    | error e=>rw [hw] at h;cases h
    | ok p=>
     rw [hw] at h
     simp only at h
     cases hs:ix (ckF n.op.c) nodes n with
     | error e=>rw [hs] at h;cases h
     | ok n'=>
      rw [hs] at h
      cases h
      exact .inr ⟨n,n',hsh,hs,rfl⟩
theorem zC {rd:R1} {pf:P1} {ckF:List Co->ByteArray->Except Nat Int} {nodes nodes':List aJ} {line:ByteArray} (hr:wT rd) (hl:line.size<=3000) (hg:Gd nodes) (h:dM rd pf ckF nodes line=.ok nodes'):Gd nodes':=by
 rcases rM hl h with rfl | ⟨n,n',h1,h2,rfl⟩
 ·exact hg
 ·exact uH hr hg h1 h2
end Jp
end Go.Proofs.YtiiliobffnhpmaaGreatDoor
