import Derived.Test.YtiiliobffnhpmaaGreatDoorGbs
import Derived.Test.YtiiliobffnhpmaaGreatDoorGbu
import Derived.Test.YtiiliobffnhpmaaGreatDoorGbv
set_option linter.all false
set_option maxRecDepth 100000
set_option maxHeartbeats 4000000
namespace Go.Proofs.YtiiliobffnhpmaaGreatDoor
namespace Jp
open Go.RowKit Oo
theorem DC {e:Value} {n:Int} (h:DJ e n) (w:World) (hg:Td.Ety w):Calls Tryz.prog 11 #[e] w fun e w'=>e=.returned (.int .i64 n)/\Below w.heap.size w w':=by
 rcases h with ⟨rfl,rfl⟩ | rfl
 ·refine (Td.told_nil w).mono ?_
  rintro e w' ⟨rfl,rfl⟩
  exact ⟨rfl,bR⟩
 ·exact Td.told_errno n w hg
theorem vV {w w':World} (h:Td.Ety w) (hb:Below w.heap.size w w'):Td.Ety w':=af hb h
theorem CO {rd:R1} {pf:P1} {ckF:List Co->ByteArray->Except Nat Int} (hr:wT rd) {nodes:List aJ} (h:Jb rd pf ckF nodes):∀ n∈nodes,BF n:=fun n hn=>by
 obtain ⟨i,hi,rfl⟩:=List.getElem_of_mem hn
 obtain ⟨n0,a1,a2,a3⟩:=nT h _ hi
 obtain ⟨_,cs,hc,hn,_⟩:=fd a2
 have hg:=(xx hr a3).cx
 have hcs:=(uz hc).1
 rw [hn]
 cases a1 with
 | stream nm c bd h1 h2 h3 h4 h5=>exact ⟨⟨by simp [aB],by simp [aB],by show c.length<=_;omega,by simp [aB],by simp [aB],by simp [aB],by simp [aB]⟩,by simp,by show cs.length<=_;omega⟩
 | sink nm i h1 h2=>
  obtain ⟨x1,x2⟩:=bB hg i
  exact ⟨⟨by simp [aB],by simp [aB],by show (ak _ i).length<=_;omega,by simp [aB],by simp [aB],by simp [aB],by simp [aB]⟩,by simp,by show cs.length<=_;omega⟩
 | wher nm i x h1 h2 h3=>
  obtain ⟨x1,x2⟩:=bB hg i
  exact ⟨⟨by simp [aB],by simp [aB],by show (ak _ i).length<=_;omega,by simp [aB],by simp [aB],by simp [aB],by simp [aB]⟩,by simp,by show cs.length<=_;omega⟩
 | selct nm i l h1 h2 h3 h4 h5=>
  obtain ⟨x1,x2⟩:=bB hg i
  exact ⟨⟨by simp [aB];omega,by simp [aB];omega,by show (ak _ i).length<=_;omega,by simp [aB],by simp [aB],by simp [aB],by simp [aB]⟩,by simp,by show cs.length<=_;omega⟩
 | wind nm i ks v l h1 h2 h3 h4 h5 h6 h7=>
  obtain ⟨x1,x2⟩:=bB hg i
  exact ⟨⟨by simp [aB],by simp [aB];omega,by show (ak _ i).length<=_;omega,by simp [aB],by show ks.length<=_;omega,by simp [aB],by simp [aB];omega⟩,by simp,by show cs.length<=_;omega⟩
 | union nm i l h1 h2 h3 h4 h5 h6=>
  obtain ⟨x1,x2⟩:=bB hg i
  exact ⟨⟨by simp [aB],by simp [aB],by show (ak _ i).length<=_;omega,by simp [aB],by simp [aB],by simp [aB],by simp [aB]⟩,by simp;omega,by show cs.length<=_;omega⟩
 | join nm i j ou l v h1 h2 h3 h4 h5 h6 h7=>
  obtain ⟨x1,x2⟩:=bB hg i
  obtain ⟨y1,y2⟩:=bB hg j
  exact ⟨⟨by simp [aB],by simp [aB],by show (ak _ i).length<=_;omega,by show (ak _ j).length<=_;omega,by simp [aB];omega,by simp [aB];omega,by simp [aB]⟩,by simp,by show cs.length<=_;omega⟩
theorem vC {rd:R1} {pf pf':P1} {ckF:List Co->ByteArray->Except Nat Int} (text:ByteArray) (m:Int) (w:World) (hE:lz w rd pf ckF) (hPF:∀ s,bV rd pf ckF s=bV rd pf' ckF s) (hN:AF rd) (hX:Br pf') (hNC:BC rd) (hXC:CW pf') (hm:w.cell? ⟨1,0,none⟩=some (.int .i64 m)) (hT:Vl.Tab w) (hEt:Td.Ety w) (hs:text.size<=140737488355328) :
 Calls Tryz.prog 4 #[.string text] w fun e w'=>e=.returned (.bool true)/\Below w.heap.size w w':=by
 have HPA:Hid (∀ s W,s.size<=140737488355328->Below w.heap.size w W->Calls Tryz.prog 5 #[.string s] W (EC W (bV rd pf' ckF s))):=fun s W hs hW=>by rw [<-hPF];exact parse_any s m W (hE.later hW) (af hW hm) hs
 have HPR:Hid (∀ s W,s.size<=140737488355328->Below w.heap.size w W->Calls Tryz.prog 10 #[.string s] W (EE W (bV rd pf' ckF s))):=fun s W hs hW=>by rw [<-hPF];exact sP s m W (hE.later hW) (af hW hm) (Vl.Tab.later hT hW) hs
 have HTO:Hid (∀ W e n,Below w.heap.size w W->DJ e n->Calls Tryz.prog 11 #[e] W fun e w'=>e=.returned (.int .i64 n)/\Below W.heap.size W w'):=fun W e n hW h=>DC h W (vV hEt hW)
 have HCS:Hid (bV rd pf' ckF zS=.ok [zL,Er]):=CF hN hX
 have HJB:=jg (fun nodes (h:bV rd pf' ckF text=.ok nodes)=>Bh h)
 have HBK:=jg (fun nodes (h:Jb rd pf' ckF nodes) (s:ByteArray) (h1:s.data.toList=j8 nodes nodes) (h2:s.size<=2900)=>zF hN hX hNC hXC h h1 h2)
 have HBD:=jg (fun nodes (h:Jb rd pf' ckF nodes) (s:ByteArray) (h1:s.data.toList=j8 nodes nodes++[115,105,110,107,32,61,32,51]) (h2:s.size<=2908)=>Ao hN hX hNC hXC h h1 h2)
 have HRG:=jg hE.fg
 have hP0:=HPA.out zS w (by decide) bR
 rw [HCS.out] at hP0
 unfold zS at hP0
 have HP0:=jg hP0
 go_in
 go_wp2_with fail
 refine HP0.out.mono ?_
 rintro e w1 ⟨hb1,hr⟩
 obtain ⟨a0,c0,ps0,hpe0,rfl,-,-,-⟩:=hr
 have hl0:ps0.length=2:=by have:=congrArg List.length hpe0;simpa using this
 rw [hl0]
 have HB1:Hid (Below w.heap.size w (w1.alloc (.cells #[.slice a0 2 c0] 24))):=hb1.trans ((ae w1 _).mono hb1.size)
 have HOC:=jg (aD.new w1 24 1 #[.slice a0 2 c0] rfl)
 go_upto_region 2 with fail
 generalize w1.alloc (.cells #[.slice a0 2 c0] 24)=W1 at *
 have cc0:=HOC.out.c 0 rfl
 have hlc0:=bL cc0
 have HP1:=jg (HPR.out text W1 hs HB1.out)
 go_wp2_with fail
 refine HP1.out.mono ?_
 rintro e w2 ⟨hb2,hr2⟩
 have HB2:=jg (HB1.out.trans (hb2.mono HB1.out.size))
 have HP2:=jg (HPA.out text w2 hs HB2.out)
 cases hO:bV rd pf' ckF text with
 | error p=>
  rw [hO] at hr2 HP2
  simp only at hr2
  subst hr2
  go_wp2_with fail
  refine HP2.out.mono ?_
  rintro e w3 ⟨hb3,hr3⟩
  simp only at hr3
  subst hr3
  have HB3:Hid (Below w.heap.size w (w3.alloc (.cells #[.slice none 0 0] 24))):=(HB2.out.trans (hb3.mono HB2.out.size)).trans ((ae w3 _).mono (HB2.out.trans (hb3.mono HB2.out.size)).size)
  go_upto_region 6 with fail
  generalize w3.alloc (.cells #[.slice none 0 0] 24)=W3 at *
  have HT3:=jg (HTO.out W3 (.iface 37 (.int .i64 (p.2:Int))) p.2 HB3.out (.inr rfl))
  go_wp2_with fail
  refine HT3.out.mono ?_
  rintro e w4 ⟨rfl,hb4⟩
  have HB4:=jg (HB3.out.trans (hb4.mono HB3.out.size))
  have HT4:=jg (HTO.out w4 (.iface 37 (.int .i64 (p.2:Int))) p.2 HB4.out (.inr rfl))
  go_wp2_with fail
  refine HT4.out.mono ?_
  rintro e w5 ⟨rfl,hb5⟩
  have HB5:=jg (HB4.out.trans (hb5.mono HB4.out.size))
  go_wp2_with fail
  go_ret
  exact ⟨rfl,HB5.out⟩
 | ok nodes=>
  have HJ:=jg (HJB.out nodes hO)
  rw [hO] at hr2 HP2
  simp only at hr2
  subst hr2
  obtain ⟨S,HS⟩:∃ S:ByteArray,Hid (S=⟨(j8 nodes nodes).toArray⟩):=⟨_,jg rfl⟩
  have HSL:Hid (S.data.toList=j8 nodes nodes):=by rw [HS.out];exact jg (by simp)
  rw [<-HS.out]
  go_wp2_with fail
  refine HP2.out.mono ?_
  rintro e w3 ⟨hb3,hr3⟩
  obtain ⟨a1,c1,ps1,hpe1,rfl,hnl1,hgd1,-⟩:=hr3
  have HB3:Hid (Below w.heap.size w (w3.alloc (.cells #[.slice a1 ps1.length c1] 24))):=(HB2.out.trans (hb3.mono HB2.out.size)).trans ((ae w3 _).mono (HB2.out.trans (hb3.mono HB2.out.size)).size)
  have HNL1:=jg (hnl1.later (ae w3 (.cells #[.slice a1 ps1.length c1] 24)))
  have HPE1:=jg hpe1
  have hgl:=hgd1.len
  have hln:nodes.length=ps1.length:=by rw [<-hpe1];simp
  have HOJ1:=jg (aD.new w3 24 1 #[.slice a1 ps1.length c1] rfl)
  go_upto_region 6 with fail
  generalize w3.alloc (.cells #[.slice a1 ps1.length c1] 24)=W3 at *
  have HT3:=jg (HTO.out W3 .nilIface 0 HB3.out (.inl ⟨rfl,rfl⟩))
  go_wp2_with fail
  refine HT3.out.mono ?_
  rintro e w4 ⟨rfl,hb4⟩
  have HB4:=jg (HB3.out.trans (hb4.mono HB3.out.size))
  have HNL4:=jg (HNL1.out.later hb4)
  have HOJ4:=jg (HOJ1.out.later hb4)
  have HT4:=jg (HTO.out w4 .nilIface 0 HB4.out (.inl ⟨rfl,rfl⟩))
  go_wp2_with fail
  refine HT4.out.mono ?_
  rintro e w5 ⟨rfl,hb5⟩
  have HB5:=jg (HB4.out.trans (hb5.mono HB4.out.size))
  have HNL5:=jg (HNL4.out.later hb5)
  have HOJ5:=jg (HOJ4.out.later hb5)
  by_cases h29:2900<S.size
  ·have h29i:(2900:Int)<(S.size:Int):=by omega
   go_wp2_with fail
   go_ret
   exact ⟨rfl,HB5.out⟩
  ·have h29i:¬ (2900:Int)<(S.size:Int):=by omega
   have hP5:=HPA.out S w5 (by omega) HB5.out
   rw [HBK.out nodes HJ.out S HSL.out (by omega)] at hP5
   have HP5:=jg hP5
   go_wp2_with fail
   refine HP5.out.mono ?_
   rintro e w6 ⟨hb6,hr6⟩
   obtain ⟨a2,c2,ps2,hpe2,rfl,hnl2,-,-⟩:=hr6
   have hl2:ps2.length=ps1.length:=by
    have h1:=congrArg List.length hpe2
    rw [List.length_map] at h1
    omega
   rw [hl2]
   have HB6:Hid (Below w.heap.size w (w6.alloc (.cells #[.slice a2 ps1.length c2] 24))):=(HB5.out.trans (hb6.mono HB5.out.size)).trans ((ae w6 _).mono (HB5.out.trans (hb6.mono HB5.out.size)).size)
   have HNL6:=jg ((HNL5.out.later hb6).later (ae w6 (.cells #[.slice a2 ps1.length c2] 24)))
   have HOJ6:=jg ((HOJ5.out.later hb6).later (ae w6 (.cells #[.slice a2 ps1.length c2] 24)))
   have HNLb:=jg (hnl2.later (ae w6 (.cells #[.slice a2 ps1.length c2] 24)))
   have HOJb:=jg (aD.new w6 24 1 #[.slice a2 ps1.length c2] rfl)
   have HPE2:=jg hpe2
   go_upto_region 13 with fail
   generalize w6.alloc (.cells #[.slice a2 ps1.length c2] 24)=W6 at *
   have hP6:=HPR.out S W6 (by omega) HB6.out
   rw [HBK.out nodes HJ.out S HSL.out (by omega)] at hP6
   have HP6:Hid (Calls Tryz.prog 10 #[.string S] W6 fun e w'=>Below W6.heap.size W6 w'/\e=.returned (.tuple #[.string S,.int .i64 0,.nilIface])):=by
    refine hP6.mono ?_
    rintro e w' ⟨h1,h2⟩
    exact ⟨h1,by rw [HS.out];exact h2⟩
   go_wp2_with fail
   refine HP6.out.mono ?_
   rintro e w7 ⟨hb7,rfl⟩
   have HB7:=jg (HB6.out.trans (hb7.mono HB6.out.size))
   have HNL7:=jg (HNL6.out.later hb7)
   have HNLb7:=jg (HNLb.out.later hb7)
   have HOJ7:=jg (HOJ6.out.later hb7)
   have HOJb7:=jg (HOJb.out.later hb7)
   have HSM:=jg (xy ps1 ps2 a1 a2 c1 c2 w7 HNL7.out HNLb7.out (by rw [HPE1.out,HPE2.out]) (by omega) (fun q hq=>CO HRG.out HJ.out q.1 (by rw [<-HPE1.out];exact List.mem_map_of_mem hq)))
   have k1:=HOJ7.out.c 0 rfl
   have k2:=HOJb7.out.c 0 rfl
   have hk1:=HOJ7.out.lt
   have hk2:=HOJb7.out.lt
   go_wp2_with fail
   refine HSM.out.mono ?_
   rintro e w8 ⟨rfl,hb8⟩
   have HB8:=jg (HB7.out.trans (hb8.mono HB7.out.size))
   have HOJ8:=jg (HOJ7.out.later hb8)
   have jz:(9223372036854775807<S.size+8)=False:=by simp;omega
   have hP8:=HPA.out (S++⟨#[115,105,110,107,32,61,32,51]⟩) w8 (by rw [ByteArray.size_append];have:(⟨#[115,105,110,107,32,61,32,51]⟩:ByteArray).size=8:=rfl;omega) HB8.out
   rw [HBD.out nodes HJ.out (S++⟨#[115,105,110,107,32,61,32,51]⟩) (by rw [nA,HSL.out]) (by rw [ByteArray.size_append];have:(⟨#[115,105,110,107,32,61,32,51]⟩:ByteArray).size=8:=rfl;omega)] at hP8
   have HP8:=jg hP8
   go_wp2_with fail
   refine HP8.out.mono ?_
   rintro e w9 ⟨hb9,hr9⟩
   simp only at hr9
   subst hr9
   have HB9:Hid (Below w.heap.size w (w9.alloc (.cells #[.slice none 0 0] 24))):=(HB8.out.trans (hb9.mono HB8.out.size)).trans ((ae w9 _).mono (HB8.out.trans (hb9.mono HB8.out.size)).size)
   have HOJ9:=jg ((HOJ8.out.later hb9).later (ae w9 (.cells #[.slice none 0 0] 24)))
   go_upto_region 16 with fail
   generalize w9.alloc (.cells #[.slice none 0 0] 24)=W9 at *
   have HT9:=jg (HTO.out W9 (.iface 37 (.int .i64 1)) 1 HB9.out (.inr rfl))
   go_wp2_with fail
   refine HT9.out.mono ?_
   rintro e w10 ⟨rfl,hb10⟩
   have HB10:=jg (HB9.out.trans (hb10.mono HB9.out.size))
   have HOJ10:=jg (HOJ9.out.later hb10)
   have k1:=HOJ10.out.c 0 rfl
   have hk1:=HOJ10.out.lt
   go_wp2_with fail
   go_ret
   exact ⟨rfl,HB10.out⟩
end Jp
namespace Jp
open Go.RowKit
theorem wJ {n pl:Nat} {c:UInt8} {r:List UInt8} {ts:List Tk} (hc:eO c=false) (h:tok n pl (c::r)=.ok ts):∃ t u,ts=t::u/\t.pl=pl:=by
 cases n with
 | zero=>cases h
 | succ n=>
  rw [dK,if_neg (by simp [hc])] at h
  cases ht:bJ (c::r) with
  | none=>rw [ht] at h;cases h
  | some p=>
   obtain ⟨kd,len⟩:=p
   rw [ht] at h
   obtain ⟨l',_,rfl⟩:=Bp.map_ok h
   exact ⟨_,_,rfl,rfl⟩
def km (q:Nat) (ts:List Tk):Nat:=(ts.getLast?.map fun t=>t.pl+t.tx.size).getD q
theorem wK (q:Nat) (t:Tk) (ts:List Tk):km q (t::ts)=km (t.pl+t.tx.size) ts:=by
 unfold km
 cases ts with
 | nil=>rfl
 | cons u v=>rw [List.getLast?_cons_cons];cases h:(u::v).getLast? with
  | none=>simp at h
  | some x=>rfl
theorem AQ (q d:Nat) (ts:List Tk):km (q+d) (ts.map (sh d))=km q ts+d:=by
 unfold km
 rw [List.getLast?_map]
 cases ts.getLast? with
 | none=>rfl
 | some t=>show t.pl+d+t.tx.size=t.pl+t.tx.size+d;omega
theorem lU:∀ (n pl:Nat) (l:List UInt8) (ts:List Tk),tok n pl l=.ok ts->(∃ i d,l=i++[d]/\eO d=false)->km pl ts=pl+l.length
 | n,pl,[],ts,h,⟨i,d,e,_⟩=>by simp at e
 | 0,pl,c::r,ts,h,_=>by cases h
 | n+1,pl,c::r,ts,h,⟨i,d,e,hd⟩=>by
  rw [dK] at h
  have hr:r≠[]->∃ i d,r=i++[d]/\eO d=false:=fun hr=>by
   cases i with
   | nil=>simp at e;exact absurd e.2 hr
   | cons x i=>exact ⟨i,d,by simpa using (List.cons.inj e).2,hd⟩
  split at h
  ·rename_i hs
   have hne:r≠[]:=fun hr0=>by
    subst hr0
    cases i with
    | nil=>simp at e;rw [e] at hs;rw [hd] at hs;cases hs
    | cons x i=>simp at e
   have:=lU n (pl+1) r ts h (hr hne)
   have h9:ts≠[]:=fun h0=>by
    subst h0
    have h0:km (pl+1) []=pl+1:=rfl
    rw [h0] at this
    have:0<r.length:=List.length_pos_iff.2 hne
    omega
   have e2:km pl ts=km (pl+1) ts:=by
    unfold km
    cases h8:ts.getLast? with
    | none=>simp at h8;exact absurd h8 h9
    | some t=>rfl
   rw [e2,this,List.length_cons];omega
  ·cases ht:bJ (c::r) with
   | none=>rw [ht] at h;cases h
   | some p=>
    obtain ⟨kd,len⟩:=p
    rw [ht] at h
    obtain ⟨l',h1,rfl⟩:=Bp.map_ok h
    have hl:=fh ht
    rw [wK]
    have hz:=Bp.size_take _ _ hl.2
    show km (pl+(⟨((c::r).take len).toArray⟩:ByteArray).size) l'=_
    rw [hz]
    by_cases he:(c::r).drop len=[]
    ·rw [he,iL] at h1
     cases h1
     have:len=(c::r).length:=by
      have:=congrArg List.length he
      rw [List.length_drop] at this
      simp at this hl ⊢
      omega
     show pl+len=_
     rw [this]
    ·have:=lU n (pl+len) _ l' h1 (by
      rw [e,List.drop_append_of_le_length (by
       have h2:=congrArg List.length e
       rw [List.length_append,List.length_singleton] at h2
       have:((c::r).drop len).length≠0:=fun h0=>he (List.eq_nil_of_length_eq_zero h0)
       rw [List.length_drop] at this
       omega)]
      exact ⟨_,d,rfl,hd⟩)
     rw [this,List.length_drop]
     omega
def SC (o:Nat) (ts:List Tk) (o':Nat):Prop:=∀ q rest,cW o q (ts++rest)=cW o' (km q ts) rest
theorem SC.nil (o:Nat):SC o [] o:=fun q rest=>rfl
theorem SC.app {o o' o'':Nat} {a b:List Tk} (h:SC o a o') (k:SC o' b o''):SC o (a++b) o'':=fun q rest=>by
 rw [List.append_assoc,h,k]
 congr 1
 unfold km
 rw [List.getLast?_append]
 cases b.getLast?<;>rfl
theorem SC.one {o:Nat} {t:Tk} (h:¬ (o=0/\(t.tx=Jp.bAs\/t.tx=dw))):SC o [t] (r8 o t):=fun q rest=>by
 show cW o q (t::rest)=_
 rw [cW,if_neg h]
 rfl
theorem SC.cons {o o':Nat} {t:Tk} {ts:List Tk} (h:¬ (o=0/\(t.tx=Jp.bAs\/t.tx=dw))) (k:SC (r8 o t) ts o'):SC o (t::ts) o':=(SC.one h).app k
def r9 (s:ByteArray):Prop:=s≠Jp.bAs/\s≠dw/\s≠jb/\s≠ii
theorem r9.sc {t:Tk} (h:r9 t.tx) (o:Nat) {ts:List Tk} {o':Nat} (k:SC o ts o'):SC o (t::ts) o':=by
 refine SC.cons (fun e=>e.2.elim h.1 h.2.1) ?_
 have:r8 o t=o:=by unfold r8;rw [if_neg h.2.2.1,if_neg h.2.2.2]
 rw [this]
 exact k
theorem BG {t:Tk} (h:t.tx=jb) (o:Nat) {ts:List Tk} {o':Nat} (k:SC (o+1) ts o'):SC o (t::ts) o':=by
 refine SC.cons (fun e=>?_) ?_
 ·rw [h] at e;exact e.2.elim (by decide) (by decide)
 ·have:r8 o t=o+1:=by unfold r8;rw [if_pos h]
  rw [this]
  exact k
theorem Bi {t:Tk} (h:t.tx=ii) (o:Nat):SC (o+1) [t] o:=by
 refine SC.cons (fun e=>by omega) ?_
 have:r8 (o+1) t=o:=by unfold r8;rw [if_neg (by rw [h];decide),if_pos h];rfl
 rw [this]
 exact SC.nil _
theorem DT {t:Tk} (h:t.tx=dw) (o:Nat) {ts:List Tk} {o':Nat} (k:SC (o+1) ts o'):SC (o+1) (t::ts) o':=by
 refine SC.cons (fun e=>by omega) ?_
 have:r8 (o+1) t=o+1:=by unfold r8;rw [if_neg (by rw [h];decide),if_neg (by rw [h];decide)]
 rw [this]
 exact k
theorem ze {s:ByteArray} (h:Bp.NmOk s):r9 s:=by
 refine ⟨fun e=>h.2.1 (.inr (.inr (.inr (.inr (.inr e))))),fun e=>?_,h.2.2.2,fun e=>?_⟩
 ·subst e;have:=Bp.tk_kd (kd':=4) (n:=1) h.1 (by decide);omega
 ·subst e;have:=Bp.tk_kd (kd':=4) (n:=1) h.1 (by decide);omega
theorem Bb {kd:Nat} {s:ByteArray} (h:Bp.TkOk kd s) (hl:kd=2\/kd=3\/s=iJ\/s=fY):r9 s:=by
 refine ⟨fun e=>?_,fun e=>?_,fun e=>?_,fun e=>?_⟩
 ·subst e
  have:=Bp.tk_kd (kd':=1) (n:=2) h (by decide)
  rcases hl with h1 | h1 | h1 | h1
  ·omega
  ·omega
  ·exact absurd h1 (by decide)
  ·exact absurd h1 (by decide)
 all_goals
  subst e
  have:=Bp.tk_kd (kd':=4) (n:=1) h (by decide)
  rcases hl with h1 | h1 | h1 | h1
  ·omega
  ·omega
  ·exact absurd h1 (by decide)
  ·exact absurd h1 (by decide)
theorem CE {s:ByteArray} (h:bW s≠7):r9 s:=⟨fun e=>h (by rw [e];decide),fun e=>h (by rw [e];decide),fun e=>h (by rw [e];decide),fun e=>h (by rw [e];decide)⟩
theorem AR {s:ByteArray} (h:s=dz\/s=bh):r9 s:=by
 rcases h with rfl | rfl
 ·exact ⟨by decide,by decide,by decide,by decide⟩
 ·exact ⟨by decide,by decide,by decide,by decide⟩
theorem B9 {x y:X} {b:Bool} {lev d o:Nat} {u:List Tk} (hw:Bp.WB (Bp.W x) b lev) (h:Bp.TB (Bp.TX x) b y u)
 (ih:∀ lev x' ts o,Bp.W x lev->Bp.TX x x' ts->SC o (ts.map (sh d)) o):SC o (u.map (sh d)) o:=by
 unfold Bp.TB at h
 unfold Bp.WB at hw
 cases b with
 | false=>
  simp only [Bool.false_eq_true,if_false] at h hw
  exact ih _ _ _ _ hw h
 | true=>
  simp only [if_true] at h hw
  obtain ⟨t1,t2,v,rfl,-,h1,h2,h3⟩:=h
  rw [List.map_cons,List.map_append]
  exact BG (t:=sh d t1) h1 o ((ih _ _ _ (o+1) hw.2 h3).app (Bi (t:=sh d t2) h2 o))
mutual
theorem vK (d:Nat):∀ (x:X) (lev:Nat) (x':X) (ts:List Tk) (o:Nat),Bp.W x lev->Bp.TX x x' ts->SC o (ts.map (sh d)) o
 | .lit k n t,lev,x',ts,o,hw,h=>by
  unfold Bp.TX at h
  unfold Bp.W at hw
  obtain ⟨tk,rfl,h1,h2,-⟩:=h
  obtain ⟨-,kd,h3,h4⟩:=hw
  exact r9.sc (t:=sh d tk) (by show r9 tk.tx;rw [h1];exact Bb h3 h4) o (SC.nil o)
 | .col p nm,lev,x',ts,o,hw,h=>by
  unfold Bp.TX at h
  unfold Bp.W at hw
  obtain ⟨tk,rfl,h1,h2,-⟩:=h
  exact r9.sc (t:=sh d tk) (by show r9 tk.tx;rw [h1];exact ze hw) o (SC.nil o)
 | .pre p s x,lev,x',ts,o,hw,h=>by
  unfold Bp.TX at h
  unfold Bp.W at hw
  obtain ⟨tk,y,u,rfl,h1,h2,-⟩:=h
  exact r9.sc (t:=sh d tk) (by show r9 tk.tx;rw [h1];exact AR hw.2.1) o (B9 hw.2.2 h2 (vK d x))
 | .inf p s l r,lev,x',ts,o,hw,h=>by
  unfold Bp.TX at h
  unfold Bp.W at hw
  obtain ⟨tk,y,z,u,v,rfl,h1,h2,h3,-⟩:=h
  rw [List.map_append,List.map_cons]
  exact (B9 hw.2.2.1 h2 (vK d l)).app (r9.sc (t:=sh d tk) (by show r9 tk.tx;rw [h1];exact CE hw.1) o (B9 hw.2.2.2 h3 (vK d r)))
 | .app p nm l,lev,x',ts,o,hw,h=>by
  unfold Bp.TX at h
  unfold Bp.W at hw
  obtain ⟨tk,t1,t2,ys,u,rfl,h1,-,h3,h4,h5,-⟩:=h
  rw [List.map_cons,List.map_cons,List.map_append]
  exact r9.sc (t:=sh d tk) (by show r9 tk.tx;rw [h1];exact ze hw.2.1) o (BG (t:=sh d t1) h3 o ((DH d l _ ys u o hw.2.2 h5).app (Bi (t:=sh d t2) h4 o)))
theorem DH (d:Nat):∀ (l:List X) (lev:Nat) (ys:List X) (u:List Tk) (o:Nat),Bp.Ws l lev->Bp.TXs l ys u->SC (o+1) (u.map (sh d)) (o+1)
 | [],lev,ys,u,o,hw,h=>by unfold Bp.TXs at h;rw [h.2];exact SC.nil _
 | x::l,lev,ys,u,o,hw,h=>by
  unfold Bp.TXs at h
  unfold Bp.Ws at hw
  obtain ⟨y,ys',v,v',h1,h2,-,rfl⟩:=h
  rw [List.map_append]
  exact (vK d x lev y v (o+1) hw.1 h1).app (BJ d l lev ys' v' o hw.2 h2)
theorem BJ (d:Nat):∀ (l:List X) (lev:Nat) (ys:List X) (u:List Tk) (o:Nat),Bp.Ws l lev->Bp.TXt l ys u->SC (o+1) (u.map (sh d)) (o+1)
 | [],lev,ys,u,o,hw,h=>by unfold Bp.TXt at h;rw [h.2];exact SC.nil _
 | x::l,lev,ys,u,o,hw,h=>by
  unfold Bp.TXt at h
  unfold Bp.Ws at hw
  obtain ⟨y,ys',tk,v,v',h0,h1,h2,-,rfl⟩:=h
  rw [List.map_cons,List.map_append]
  exact DT (t:=sh d tk) h0 o ((vK d x lev y v (o+1) hw.1 h1).app (BJ d l lev ys' v' o hw.2 h2))
end
def rT (l:List UInt8):Prop:=∃ c r,l=c::r/\eO c=false
def cK (l:List UInt8):Prop:=∃ i d,l=i++[d]/\eO d=false
theorem rT.app {a:List UInt8} (h:rT a) (b:List UInt8):rT (a++b):=by
 obtain ⟨c,r,rfl,h⟩:=h;exact ⟨c,r++b,rfl,h⟩
theorem cK.app {b:List UInt8} (h:cK b) (a:List UInt8):cK (a++b):=by
 obtain ⟨i,d,rfl,h⟩:=h;exact ⟨a++i,d,by simp,h⟩
theorem sq:∀ {l:List UInt8},bp l=l.length->∀ c∈l,dZ c=true
 | [],_,c,h=>by cases h
 | x::r,h,c,hc=>by
  rw [Bp.wLen_cons] at h
  by_cases hx:dZ x=true
  ·rw [if_pos hx] at h
   rcases List.mem_cons.1 hc with rfl | hc
   ·exact hx
   ·exact sq (by simpa using h) c hc
  ·rw [if_neg hx] at h;simp at h
theorem Bs {c:UInt8} (h:dZ c=true):eO c=false:=by
 cases hs:eO c with
 | false=>rfl
 | true=>
  exfalso
  unfold eO at hs
  simp at hs
  rcases hs with (rfl | rfl) | rfl
  ·exact absurd h (by decide)
  ·exact absurd h (by decide)
  ·exact absurd h (by decide)
theorem xU {l:List UInt8} (hl:l≠[]) (h:∀ c∈l,eO c=false):cK l:=⟨l.dropLast,l.getLast hl,(List.dropLast_concat_getLast hl).symm,h _ (List.getLast_mem hl)⟩
theorem yP {kd:Nat} {s:ByteArray} (h:Bp.TkOk kd s):cK s.data.toList:=by
 obtain ⟨⟨c,r,e,hs⟩,h⟩:=h
 have h:=h [] (by intro c hc;cases hc)
 have hz:s.size=s.data.toList.length:=by simp
 rw [List.append_nil,hz,e,Bp.tokAt_cons] at h
 rw [e]
 by_cases hd:eS c=true
 ·rw [if_pos hd] at h
  simp only [Option.some.injEq,Prod.mk.injEq] at h
  exact xU (by simp) (fun x hx=>Bs (sq h.2 x hx))
 rw [if_neg hd] at h
 by_cases hw:dZ c=true
 ·rw [if_pos hw] at h
  simp only [Option.some.injEq,Prod.mk.injEq] at h
  exact xU (by simp) (fun x hx=>Bs (sq h.2 x hx))
 rw [if_neg hw] at h
 by_cases hq:c=39
 ·rw [if_pos hq] at h
  cases hf:r.findIdx? (·==39) with
  | none=>rw [hf] at h;cases h
  | some i=>
   rw [hf] at h
   simp only [Option.map_some,Option.some.injEq,Prod.mk.injEq,List.length_cons] at h
   obtain ⟨h1,h2,h3⟩:=List.findIdx?_eq_some_iff_getElem.1 hf
   have hr:r≠[]:=fun h0=>by subst h0;simp at h1
   refine ⟨c::r.dropLast,39,?_,by decide⟩
   have:r.getLast hr=39:=by
    rw [List.getLast_eq_getElem]
    have e1:r.length-1=i:=by omega
    simp only [e1]
    simpa using h2
   have e2:=List.dropLast_concat_getLast hr
   rw [this] at e2
   rw [List.cons_append,e2]
 rw [if_neg hq] at h
 by_cases h0:0<cL (c::r)
 ·rw [if_pos h0] at h
  simp only [Option.some.injEq,Prod.mk.injEq] at h
  have h2:=h.2
  unfold cL at h2
  by_cases g2:(c::r).take 2∈[[60,62],[60,61],[62,61],[43,43]]
  ·rw [if_pos g2] at h2
   have e2:(c::r).take 2=c::r:=List.take_of_length_le (by omega)
   rw [e2] at g2
   simp at g2
   rcases g2 with ⟨rfl,rfl⟩ | ⟨rfl,rfl⟩ | ⟨rfl,rfl⟩ | ⟨rfl,rfl⟩
   ·exact ⟨[60],62,rfl,by decide⟩
   ·exact ⟨[60],61,rfl,by decide⟩
   ·exact ⟨[62],61,rfl,by decide⟩
   ·exact ⟨[43],43,rfl,by decide⟩
  ·rw [if_neg g2] at h2
   split at h2
   ·have:r=[]:=by
     cases r with
     | nil=>rfl
     | cons a b=>simp at h2
    subst this
    exact ⟨[],c,rfl,hs⟩
   ·simp at h2
 ·rw [if_neg h0] at h;cases h
theorem Dx {x:X} {b:Bool} (h:rT (cu x).data.toList):rT (jI b (cu x)).data.toList:=by
 unfold jI
 cases b with
 | false=>exact h
 | true=>
  simp only [if_true]
  rw [Bp.l_app,Bp.l_app]
  exact ⟨40,_,rfl,by decide⟩
theorem Bg {x:X} {b:Bool} (h:cK (cu x).data.toList):cK (jI b (cu x)).data.toList:=by
 unfold jI
 cases b with
 | false=>exact h
 | true=>
  simp only [if_true]
  rw [Bp.l_app]
  exact cK.app ⟨[],41,rfl,by decide⟩ _
theorem uP {x:X} {b:Bool} {lev:Nat} (h:Bp.WB (Bp.W x) b lev):∃ l,Bp.W x l:=by
 unfold Bp.WB at h
 split at h
 ·exact ⟨_,h.2⟩
 ·exact ⟨_,h⟩
theorem oQ:∀ (x:X) (lev:Nat),Bp.W x lev->rT (cu x).data.toList/\cK (cu x).data.toList
 | .lit k n t,lev,hw=>by
  unfold Bp.W at hw
  unfold cu
  obtain ⟨-,kd,h3,h4⟩:=hw
  exact ⟨h3.1,yP h3⟩
 | .col p nm,lev,hw=>by
  unfold Bp.W at hw
  unfold cu
  exact ⟨hw.1.1,yP hw.1⟩
 | .pre p s x,lev,hw=>by
  unfold Bp.W at hw
  unfold cu
  obtain ⟨l,hl⟩:=uP hw.2.2
  have ih:=oQ x l hl
  rw [Bp.l_app]
  refine ⟨rT.app ?_ _,cK.app (Bg ih.2) _⟩
  rcases hw.2.1 with rfl | rfl
  ·exact ⟨110,[111,116,32],rfl,by decide⟩
  ·exact ⟨45,[],rfl,by decide⟩
 | .inf p s l r,lev,hw=>by
  unfold Bp.W at hw
  unfold cu
  obtain ⟨l1,hl⟩:=uP hw.2.2.1
  obtain ⟨l2,hr⟩:=uP hw.2.2.2
  have ih1:=oQ l l1 hl
  have ih2:=oQ r l2 hr
  constructor
  ·rw [Bp.l_app,Bp.l_app,Bp.l_app,Bp.l_app]
   exact rT.app (rT.app (rT.app (rT.app (Dx ih1.1) _) _) _) _
  ·rw [Bp.l_app]
   exact cK.app (Bg ih2.2) _
 | .app p nm l,lev,hw=>by
  unfold Bp.W at hw
  unfold cu
  constructor
  ·rw [Bp.l_app,Bp.l_app,Bp.l_app]
   exact rT.app (rT.app (rT.app hw.2.1.1.1 _) _) _
  ·rw [Bp.l_app]
   exact cK.app ⟨[],41,rfl,by decide⟩ _
theorem zX {s:ByteArray} {x:X} (h:PX Dc.LV s (.ok x)) (hs:(cu x).size<=200):∃ x' ts,Bp.TX x x' ts/\Bp.W x 0/\tok (cu x).size 0 (cu x).data.toList=.ok ts/\PX Dc.LV (cu x) (.ok x'):=by
 have hw:=Bp.px_w h
 have hb:Bp.Bdy []:=by intro c hc;cases hc
 obtain ⟨n',pl',ts,-,⟨x',hx⟩,e⟩:=Bp.tks_x x 0 (cu x).size 0 [] hw hb (by simp)
 have ht:tok (cu x).size 0 (cu x).data.toList=.ok ts:=by
  rw [List.append_nil] at e
  rw [e,iL]
  simp [Except.map]
 refine ⟨x',ts,hx,hw,ht,.ok (ts:=ts) hs ht ?_⟩
 have h1:=(Bp.gd_x (E:=(cu x).size) x 0 x' ts hw hx 0 (Bp.rk_nn x)).d [] ⟨fun q h1 h2 h3=>by
  have h4:bW (⟨#[]⟩:ByteArray)=q:=h3
  have h5:bW (⟨#[]⟩:ByteArray)=7:=by decide +kernel
  omega,by show (⟨#[]⟩:ByteArray)≠cf;decide +kernel⟩
 rw [List.append_nil] at h1
 exact h1
theorem Cl.take {l:List UInt8} (h:Cl l) (n:Nat):Cl (l.take n):=fun c hc=>h c (List.mem_of_mem_take hc)
theorem Cl.drop {l:List UInt8} (h:Cl l) (n:Nat):Cl (l.drop n):=fun c hc=>h c (List.mem_of_mem_drop hc)
theorem sv:∀ (n pl:Nat) (l:List UInt8) (ts:List Tk),tok n pl l=.ok ts->Cl l->∀ t∈ts,eV t.tx
 | n,pl,[],ts,h,hc=>by rw [iL] at h;cases h;intro t ht;cases ht
 | 0,pl,c::r,ts,h,hc=>by cases h
 | n+1,pl,c::r,ts,h,hc=>by
  rw [dK] at h
  split at h
  ·exact sv n _ r ts h (hc.drop 1)
  ·cases ht:bJ (c::r) with
   | none=>rw [ht] at h;cases h
   | some p=>
    obtain ⟨kd,len⟩:=p
    rw [ht] at h
    obtain ⟨l',h1,rfl⟩:=Bp.map_ok h
    intro t ht
    rcases List.mem_cons.1 ht with rfl | ht
    ·show Cl ((c::r).take len).toArray.toList
     exact hc.take len
    ·exact sv n _ _ l' h1 (hc.drop len) t ht
mutual
def CX:X->Prop
 | .lit k n t=>eV (Vl.showB k n t)
 | .col _ _=>True
 | .pre _ _ x=>CX x
 | .inf _ _ l r=>CX l/\CX r
 | .app _ _ l=>pP l
def pP:List X->Prop
 | []=>True
 | x::l=>CX x/\pP l
end
theorem pP.snoc {x:X} (hx:CX x):∀ {l:List X},pP l->pP (l++[x])
 | [],_=>by rw [List.nil_append];unfold pP;exact ⟨hx,by unfold pP;trivial⟩
 | y::l,h=>by unfold pP at h;rw [List.cons_append];unfold pP;exact ⟨h.1,pP.snoc hx h.2⟩
def MC:Mode->Prop
 | .D _=>True
 | .J _ l=>CX l
 | .Z _ _=>True
 | .A _ _ l=>pP l
theorem Ev {E:Nat} {m:Mode} {lev:Nat} {ts:List Tk} {o:PR} (h:Ps Dc.LV E m lev ts o) :
 (∀ t∈ts,eV t.tx)->MC m->∀ x ts',o=.ok (x,ts')->CX x:=by
 induction h with
 | jend h=>intro hw hm x ts' e;cases e;exact hm
 | jok hj hp _ ih1 ih2=>
  intro hw hm x ts' e
  exact ih2 (fun t ht=>hw t (hp.suffix _ _ rfl t ht)) (ih1 hw trivial _ _ rfl) x ts' e
 | @jstep r l lev t ts x ts1 fB hs hp _ ih1 ih2=>
  intro hw hm x' ts' e
  have hw1:=fun t ht=>hw t (List.mem_cons_of_mem _ ht)
  refine ih2 (fun t ht=>hw1 t (hp.suffix _ _ rfl t ht)) ?_ x' ts' e
  show CX (.inf t.pl t.tx l x)
  unfold CX
  exact ⟨hm,ih1 hw1 trivial _ _ rfl⟩
 | @pok r s lev t ts x ts1 hpr ht hne _ ih1=>
  intro hw hm x' ts' e
  cases e
  unfold CX
  exact ih1 (fun t ht=>hw t (List.mem_cons_of_mem _ ht)) trivial _ _ rfl
 | pnone _ _ _ ih1=>intro hw hm x ts' e;exact ih1 hw trivial _ _ e
 | cnone _ _ ih1=>intro hw hm x ts' e;cases e;exact ih1 hw trivial _ _ rfl
 | @cok lev ts l t ts1 x ts2 hp hs hp2 ih1 ih2=>
  intro hw hm x' ts' e
  cases e
  have hw1:=fun t ht=>hw t (hp.suffix _ _ rfl t ht)
  unfold CX
  exact ⟨ih1 hw trivial _ _ rfl,ih2 (fun t ht=>hw1 t (List.mem_cons_of_mem _ ht)) trivial _ _ rfl⟩
 | @lit lev t ts k n s hl hk=>
  intro hw hm x ts' e
  cases e
  unfold CX
  rw [hk.2.2.2]
  exact hw _ (List.mem_cons_self ..)
 | ncol h1 h2 h3 h4 h5 h6=>intro hw hm x ts' e;cases e;unfold CX;trivial
 | zend=>intro hw hm x ts' e;cases e;unfold CX pP;trivial
 | aend=>intro hw hm x ts' e;cases e;unfold CX;exact hm
 | @ook lev t ts x t1 ts1 _ _ hne _ _ ih1=>
  intro hw hm x' ts' e
  cases e
  exact ih1 (fun t ht=>hw t (List.mem_cons_of_mem _ ht)) trivial _ _ rfl
 | nargs a1 a2 a3 a4 a5 a6 hne _ ih1=>
  intro hw hm x ts' e
  exact ih1 (fun t ht=>hw t (List.mem_cons_of_mem _ (List.mem_cons_of_mem _ ht))) trivial _ _ e
 | zok _ hp _ ih1 ih2=>
  intro hw hm x ts' e
  have h1:=ih1 hw trivial _ _ rfl
  exact ih2 (fun t ht=>hw t (hp.suffix _ _ rfl t ht)) (by show pP [_];unfold pP;exact ⟨h1,by unfold pP;trivial⟩) x ts' e
 | aok _ hp _ ih1 ih2=>
  intro hw hm x ts' e
  have hw1:=fun t ht=>hw t (List.mem_cons_of_mem _ ht)
  have h1:=ih1 hw1 trivial _ _ rfl
  exact ih2 (fun t ht=>hw1 t (hp.suffix _ _ rfl t ht)) (pP.snoc h1 hm) x ts' e
 | _=>intro hw hm x ts' e;cases e
theorem El {s:ByteArray} {x:X} (hs:eV s) (h:PX Dc.LV s (.ok x)):CX x:=by
 cases h with
 | ok h1 h2 h3=>exact Ev h3 (sv _ _ _ _ h2 hs) trivial _ _ rfl
theorem yn {s:ByteArray} (h:Bp.TkOk 1 s):eV s:=by
 obtain ⟨⟨c,r,e,hs⟩,h⟩:=h
 have h:=h [] (by intro c hc;cases hc)
 have hz:s.size=s.data.toList.length:=by simp
 rw [List.append_nil,hz,e,Bp.tokAt_cons] at h
 unfold eV
 rw [e]
 by_cases hd:eS c=true
 ·rw [if_pos hd] at h
  simp at h
 rw [if_neg hd] at h
 by_cases hw:dZ c=true
 ·rw [if_pos hw] at h
  simp only [Option.some.injEq,Prod.mk.injEq] at h
  exact xv h.2
 rw [if_neg hw] at h
 split at h
 ·cases hf:r.findIdx? (·==39) with
  | none=>rw [hf] at h;cases h
  | some i=>rw [hf] at h;simp at h
 ·split at h
  ·simp at h
  ·cases h
theorem DG {s:ByteArray} (h:bW s≠7):eV s:=by
 unfold bW at h
 split at h
 ·rename_i e;subst e;decide
 split at h
 ·rename_i e;subst e;decide
 split at h
 ·rename_i e
  rcases e with rfl | rfl | rfl | rfl | rfl | rfl<;>decide
 split at h
 ·rename_i e
  rcases e with rfl | rfl | rfl<;>decide
 split at h
 ·rename_i e
  rcases e with rfl | rfl | rfl<;>decide
 ·exact absurd rfl h
theorem CY {x:X} {b:Bool} (h:eV (cu x)):eV (jI b (cu x)):=by
 unfold jI
 cases b with
 | false=>exact h
 | true=>
  simp only [if_true]
  exact dS (dS (by decide) h) (by decide)
mutual
theorem yy:∀ (x:X) (lev:Nat),Bp.W x lev->CX x->eV (cu x)
 | .lit k n t,lev,hw,h=>by unfold CX at h;unfold cu;exact h
 | .col p nm,lev,hw,h=>by unfold Bp.W at hw;unfold cu;exact yn hw.1
 | .pre p s x,lev,hw,h=>by
  unfold Bp.W at hw
  unfold CX at h
  unfold cu
  obtain ⟨l,hl⟩:=uP hw.2.2
  refine dS ?_ (CY (yy x l hl h))
  rcases hw.2.1 with rfl | rfl
  ·decide
  ·decide
 | .inf p s l r,lev,hw,h=>by
  unfold Bp.W at hw
  unfold CX at h
  unfold cu
  obtain ⟨l1,hl⟩:=uP hw.2.2.1
  obtain ⟨l2,hr⟩:=uP hw.2.2.2
  exact dS (dS (dS (dS (CY (yy l l1 hl h.1)) (by decide)) (DG hw.1)) (by decide)) (CY (yy r l2 hr h.2))
 | .app p nm l,lev,hw,h=>by
  unfold Bp.W at hw
  unfold CX at h
  unfold cu
  refine dS (dS (dS (yn hw.2.1.1) (by decide)) ?_) (by decide)
  have:=BE l _ hw.2.2 h
  unfold eV dG
  exact uj (by decide) _ (fun y hy=>by obtain ⟨z,hz,rfl⟩:=List.mem_map.1 hy;exact this z hz)
theorem BE:∀ (l:List X) (lev:Nat),Bp.Ws l lev->pP l->∀ y∈dg l,eV y
 | [],lev,hw,h=>by unfold dg;intro y hy;cases hy
 | x::l,lev,hw,h=>by
  unfold Bp.Ws at hw
  unfold pP at h
  unfold dg
  intro y hy
  rcases List.mem_cons.1 hy with rfl | hy
  ·exact yy x lev hw.1 h.1
  ·exact BE l lev hw.2 h.2 y hy
end
open Classical in
noncomputable def wh (s:ByteArray):Except Nat ByteArray:=if h:∃ o,PX Dc.LV s o then (match h.choose with | .ok x=>.ok (cu x) | .error f=>.error f.why) else .error 0
theorem su {s:ByteArray} {o:Except jK X} (h:PX Dc.LV s o):wh s=match (generalizing:=false) o with | .ok x=>.ok (cu x) | .error f=>.error f.why:=by
 have hx:∃ o,PX Dc.LV s o:=⟨o,h⟩
 unfold wh
 rw [dif_pos hx,hx.choose_spec.one Dc.oneLV h]
theorem pk {s t:ByteArray} (h:wh s=.ok t):∃ x,PX Dc.LV s (.ok x)/\t=cu x:=by
 by_cases hx:∃ o,PX Dc.LV s o
 ·obtain ⟨o,ho⟩:=hx
  rw [su ho] at h
  cases o with
  | error f=>cases h
  | ok x=>cases h;exact ⟨x,ho,rfl⟩
 ·unfold wh at h
  rw [dif_neg hx] at h
  cases h
open Classical in
noncomputable def sT (s:ByteArray):Except Nat ByteArray:=if eV s then wh s else .error 0
theorem EG:CW sT:=fun x h=>by
 obtain ⟨s,-,h,-⟩:=h
 unfold sT at h
 split at h
 ·rename_i hs
  obtain ⟨x0,h1,rfl⟩:=pk h
  exact yy x0 0 (Bp.px_w h1) (El hs h1)
 ·cases h
theorem Al {line:ByteArray} {rest:List Tk} (h:ED line rest) (q:Nat):cW 0 q rest=(q,rest):=by
 cases rest with
 | nil=>rfl
 | cons t ts=>
  have hh:(0:Nat)=0/\(t.tx=Jp.bAs\/t.tx=dw):=⟨rfl,h.resolve_left (by simp)⟩
  rw [cW,if_pos hh]
theorem EL:Br sT:=fun x h=>by
 have hc:=EG x h
 obtain ⟨s,-,h,hz⟩:=h
 unfold sT at h
 split at h
 ·obtain ⟨x0,h1,rfl⟩:=pk h
  obtain ⟨x',ts,a1,a2,a3,a4⟩:=zX h1 hz
  obtain ⟨hf,hl⟩:=oQ x0 0 a2
  have hb:sT (cu x0)=.ok (cu x0):=by
   unfold sT
   rw [if_pos hc,su a4]
   show Except.ok (cu x')=_
   rw [Bp.pr_same x0 x' ts a1]
  refine ⟨?_,ts,?_,fun line p hS rest hr=>?_⟩
  ·obtain ⟨c,r,e,-⟩:=hf
   exact t8 e
  ·unfold Tt
   have:(cu x0).data.toList.length=(cu x0).size:=by simp
   rw [this]
   exact a3
  ·obtain ⟨c,r,e,hsp⟩:=hf
   have hlast:=lU _ _ _ _ a3 hl
   have ha3:=a3
   rw [e] at ha3
   obtain ⟨t,u,rfl,ht⟩:=wJ hsp ha3
   have e1:(hd line.size ((t::u).map (sh p)++rest)).pl=p:=by
    show t.pl+p=p
    omega
   have e2:cW 0 p ((t::u).map (sh p)++rest)=(p+(cu x0).size,rest):=by
    rw [vK p x0 0 x' (t::u) 0 a2 a1,Al hr]
    have:=AQ 0 p (t::u)
    rw [Nat.zero_add] at this
    rw [this,hlast]
    have:(cu x0).data.toList.length=(cu x0).size:=by simp
    rw [this,Nat.zero_add,Nat.add_comm]
   unfold eU
   rw [e1,e2]
   have e3:sub line p (p+(cu x0).size)=cu x0:=by
    unfold sub
    unfold vu at hS
    have:(cu x0).data.toList.length=(cu x0).size:=by simp
    rw [show p+(cu x0).size-p=(cu x0).data.toList.length by omega,hS]
   simp only
   rw [e3,hb]
   simp only
   rw [if_neg (by omega)]
 ·cases h
end Jp
end Go.Proofs.YtiiliobffnhpmaaGreatDoor
