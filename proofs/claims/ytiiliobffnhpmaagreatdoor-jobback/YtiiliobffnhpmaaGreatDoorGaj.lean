import Derived.Test.YtiiliobffnhpmaaGreatDoorGai
set_option linter.all false
set_option maxRecDepth 100000
set_option maxHeartbeats 4000000
namespace Go.Proofs.YtiiliobffnhpmaaGreatDoor
section
open Go.RowKit
attribute [local go_sem] an
def yV (L:ByteArray->Int->Int->ByteArray->Prop) (w:World) (g E lev:Nat) (ts:List Tk) (e:Ending) (w':World):Prop:=w.grownBy w' (some g)/\
 ((∃ f,e=.panicked [{ v:=df f.pl f.why,recovered:=false }]/\∀ pl nm,Ps L E (.Z pl nm) lev ts (.error f))\/
  ∃ l us ts' pa pn pc,e=.returned (.slice pa pn pc)/\cK w' (w.heap.size-1) (.slice pa pn pc) us/\ez w' (w.heap.size-1) l us/\PS w' g E ts' lev/\∀ pl nm,Ps L E (.Z pl nm) lev ts (.ok (.app pl nm l,ts')))
theorem zG:(Tryz.prog.info? 256).map (fun i=>(i.zero,i.size,i.bytes))=some (some .nilIface,1,16):=by kernel_rfl
theorem cK.ofOwn {w:World} {B n:Nat} {v:Value} {us:List Value} (h:w.ownsRow (B+1) 256 1 v n us):cK w B v us:=by
 have hl:=h.1
 rcases h.2 with ⟨h1,h2⟩ | ⟨g,c,cur,h1,h2,h3,h4,h5,h6⟩
 ·exact .inl ⟨h1,List.eq_nil_of_length_eq_zero (by omega)⟩
 ·refine .inr ⟨g,c,?_,by omega,by omega,h5,fun i hi=>?_⟩
  ·rw [h1,show us.length=n by omega]
  ·rw [h1] at h
   rw [World.ownsRow.cellAt h i (by omega),List.getElem?_eq_getElem hi]
theorem tF {w w':World} {a:Addr} {v:Value} (h:w.cell? a=some v) (hb:w'.heap[a.block]?=w.heap[a.block]?):w'.cell? a=some v:=by
 rw [<-h];unfold World.cell?;rw [hb]
def Ag (B:Nat) (w w':World):Prop:=∀ i,B<i->i<w.heap.size->w'.heap[i]?=w.heap[i]?
theorem cK.ag {w w':World} {B:Nat} {x:Value} {vs:List Value} (h:cK w B x vs) (hg:Ag B w w'):cK w' B x vs:=by
 rcases h with h | ⟨b,c,h1,h2,h3,h4,h5⟩
 ·exact .inl h
 ·exact .inr ⟨b,c,h1,h2,h3,h4,fun i hi=>tF (h5 i hi) (hg b h2 (bL (h5 i hi)))⟩
theorem aF.ag {w w':World} {B:Nat} (hg:Ag B w w'):∀ {c:pQ} {v:Value},aF w B c v->aF w' B c v
 | .raw n,v,h=>h
 | .bool n b,v,⟨a,h1,h2,h3⟩=>⟨a,h1,h2,tF h3 (hg a h2 (bL h3))⟩
 | .one n c,v,⟨a,u,h1,h2,h3,h4⟩=>⟨a,u,h1,h2,tF h3 (hg a h2 (bL h3)),aF.ag hg h4⟩
mutual
theorem Nd.ag {w w':World} {B:Nat} (hg:Ag B w w'):∀ (x:X) (v:Value),Nd w B x v->Nd w' B x v
 | .lit k n t,v,h=>h
 | .col pl nm,v,h=>h
 | .pre pl s x,v,h=>by
  rw [Nd] at h ⊢
  obtain ⟨tk,f,ps,u,h1,h2,h3,h4,h5⟩:=h
  exact ⟨tk,f,ps,u,h1,h2.ag hg,h3.ag hg,h4.ag hg,Nd.ag hg x u h5⟩
 | .inf pl s l r',v,h=>by
  rw [Nd] at h ⊢
  obtain ⟨tk,f,ps,u,u',h1,h0,h2,h3,h4,h5,h6⟩:=h
  exact ⟨tk,f,ps,u,u',h1,h0,h2.ag hg,h3.ag hg,h4.ag hg,Nd.ag hg l u h5,Nd.ag hg r' u' h6⟩
 | .app pl nm l,v,h=>by
  rw [Nd] at h ⊢
  obtain ⟨tk,gv,f,ps,us,h1,h2,h3,h4,h9⟩:=h
  exact ⟨tk,gv,f,ps,us,h1,fun o ho=>⟨(h2 o ho).1,(h2 o ho).2.1.ag hg,(h2 o ho).2.2.ag hg⟩,h3.ag hg,ez.ag hg l us h4,h9⟩
theorem ez.ag {w w':World} {B:Nat} (hg:Ag B w w'):∀ (l:List X) (us:List Value),ez w B l us->ez w' B l us
 | [],us,h=>h
 | x::l,us,h=>by
  rw [ez] at h ⊢
  obtain ⟨u,us',h1,h2,h3⟩:=h
  exact ⟨u,us',h1,Nd.ag hg x u h2,ez.ag hg l us' h3⟩
end
def NR (w:World) (g B:Nat) (r:Value) (l:List X) (us:List Value):Prop:=∀ w',(∀ i,i<w.heap.size->i≠g->some i≠r.ownBlock->w'.heap[i]?=w.heap[i]?)->ez w' B l us
theorem NR.grown {w w':World} {g B:Nat} {r:Value} {l:List X} {us:List Value} (h:NR w g B r l us) (hg:w.grownBy w' (some g)):NR w' g B r l us:=fun w'' hw=>h w'' fun i hi h1 h2=>(hw i (lL hi hg.size) h1 h2).trans (hg.block i hi (fun e=>h1 (sI e)))
theorem NR.out {w w':World} {g B:Nat} {r:Value} {l:List X} {us:List Value} (h:NR w g B r l us) (hg:w.grownBy w' (some g)):ez w' B l us:=h w' fun i hi h1 _=>hg.block i hi (fun e=>h1 (sI e))
theorem np {L:ByteArray->Int->Int->ByteArray->Prop} {G:World->Prop} {g E n:Nat} (hL:fl L) (hG:∀ W W',G W->W.grownBy W' (some g)->G W') (hG2:∀ W W' k,G W->W.grownBy W' (some k)->g<k->G W') (hP:gu L G g E 247 0 n) (ts:List Tk) (lev:Nat) (w:World) (hn:ts.length<=n) (hf:kp ts) (h:PS w g E ts lev) (hw:G w) :
 Calls Tryz.prog 342 #[.pointer (some ⟨g,0,none⟩)] w (yV L w g E lev ts):=by
 obtain ⟨i0,hi0,hz0,hz1,hz2⟩:=info_parts zG
 have HP:=jg hP
 have HG:=jg hG
 have HG2:=jg hG2
 have HF:=jg hf
 have HLL:=jg hL
 have H:=jg h
 have HW:=jg hw
 have hf2:=pp
 have hgw:g<=w.heap.size-1:=by have:=h.lt;omega
 have hgw0:0<w.heap.size:=by have:=h.lt;omega
 have h200:ts.length<=200:=by obtain ⟨_,_,_,_,_,_,_,_,_,h7,_⟩:=h;exact h7
 clear hP hG hG2 hf h hw hL
 by_cases hsh:(hd E ts).tx=dA
 ·cases ts with
  | nil=>exact absurd hsh (by show ¬ (⟨#[]⟩:ByteArray)=dA;decide +kernel)
  | cons t ts=>
   have ht2:(t.tx.toList==[41])=true:=by rw [xl];exact decide_eq_true hsh
   have HT:Hid (t.tx=dA):=hsh
   clear hsh
   go_in
   go_wp2_with fail
   refine (bK g E lev (t::ts) _ H.out).mono ?_
   rintro e w1 ⟨rfl,hb1⟩
   rw [show hd E (t::ts)=t from rfl]
   unfold eA
   have HB1:=jg hb1
   clear hb1
   go_wp2_with fail
   refine (bt g E lev (t::ts) _ (H.out.later HB1.out)).mono ?_
   rintro e w2 ⟨rfl,hg2,hp2⟩
   go_wp2_with fail
   go_ret
   exact ⟨ai (aj HB1.out) hg2,.inr ⟨[],[],ts,_,_,_,rfl,.inl ⟨rfl,rfl⟩,rfl,hp2,fun pl nm=>.zend HT.out⟩⟩
 ·have ht2:=ni hsh
  have HT:=jg hsh
  clear hsh
  go_in
  go_wp2_with fail
  refine (bK g E lev ts _ H.out).mono ?_
  rintro e w1 ⟨rfl,hb1⟩
  unfold eA
  have B5:Hid (w.grownBy w1 (some g)):=aj hb1
  have B4:=jg (H.out.later hb1)
  have B6:=jg (HG.out _ _ HW.out B5.out)
  have hz:=hb1.size
  clear hb1
  go_wp2_with fail
  refine (HP.out ts lev _ hn HF.out B4.out B6.out).mono ?_
  intro e w2 hpp
  rcases hpp.iface with ⟨hg2,x,ts1,t1,p1,hp1,rfl,hn1,hs1⟩ | ⟨hg2,f,hp1,rfl⟩
  ·have hw2:=Nat.le_trans hz hg2.size
   have HO0:=jg (World.ownsRow_lit (base:=w.heap.size-1+1) (e:=256) (size:=1) w2 #[.iface t1 p1] 1 (by omega) (by decide) rfl)
   have HN1:Hid (Nd w2 (w.heap.size-1) x (.iface t1 p1)):=Nd.up (by omega) _ _ hn1
   have HG1:=jg (ai B5.out hg2)
   have HS1:=jg hs1
   have HP1:=jg hp1
   clear hg2 hn1 hs1 hp1 hpp B4 B5 B6 H
   go_wp2_with fail
   go_loopg [3] ts1.length (fun k parts wr=>∃ (l:List X) (us:List Value) (ts2:List Tk),ts2.length=k/\ts2.length<=n/\us.length+ts2.length<=201/\kp ts2/\wr.ownsRow (w.heap.size-1+1) 256 1 parts us.length us/\NR wr g (w.heap.size-1) parts l us/\PS wr g E ts2 lev/\w.grownBy wr (some g)/\G wr/\∀ pl nm o,Ps L E (.A pl nm l) lev ts2 o->Ps L E (.Z pl nm) lev ts o)
   case atStart=>
    have h1:=HP1.out.less
    refine ⟨[x],[.iface t1 p1],ts1,rfl,by omega,by simp;omega,kp.on HP1.out HF.out,HO0.out,?_,HS1.out.later (ae _ _),ai HG1.out (aj (ae _ _)),HG.out _ _ HW.out (ai HG1.out (aj (ae _ _))),fun pl nm o ho=>.zok HT.out HP1.out ho⟩
    intro w' hw'
    rw [ez]
    refine ⟨_,[],rfl,Nd.ag ?_ _ _ HN1.out,rfl⟩
    intro i hi hlt
    have h1:=hw' i (by simp;omega) (by omega) (by simp [Value.ownBlock];omega)
    rw [h1]
    exact (ae w2 _).block i hlt
   case round=>
    obtain ⟨l,us,ts2,hk,hle,h201,hfew,hown,hnds,hps,hgr,hgw',himp⟩:=hrel
    have A1:=jg hk
    have A2:=jg hfew
    have A3:=jg hnds
    have A4:=jg hps
    have A5:=jg hgr
    have A6:=jg hgw'
    have A7:=jg himp
    have A8:=jg hown
    clear hk hfew hnds hps hgr hgw' himp hown HN1 HS1 HP1 HG1 HO0
    go_wp2_with fail
    refine (bK g E lev ts2 _ A4.out).mono ?_
    rintro e w3 ⟨rfl,hb3⟩
    have B3:=jg (A3.out.grown (aj hb3))
    have B4:=jg (A4.out.later hb3)
    have B5:=jg (ai A5.out (aj hb3))
    have B6:=jg (HG.out _ _ A6.out (aj hb3))
    have B8:=jg (aO A8.out hb3)
    clear hb3 A3 A4 A5 A6 A8
    unfold eA
    by_cases hcm:(hd E ts2).tx=iA
    ·cases ts2 with
     | nil=>exact absurd hcm (by show ¬ (⟨#[]⟩:ByteArray)=iA;decide +kernel)
     | cons t3 ts3=>
      have ht3:((hd E (t3::ts3)).tx.toList==[44])=true:=by rw [xl];exact decide_eq_true hcm
      have HC:Hid (t3.tx=iA):=hcm
      clear hcm
      go_wp2_with fail
      refine (bt g E lev (t3::ts3) _ B4.out).mono ?_
      rintro e w4 ⟨rfl,hg4,hp4⟩
      have C3:=jg (B3.out.grown hg4)
      have C4:Hid (PS w4 g E ts3 lev):=hp4
      have C5:=jg (ai B5.out hg4)
      have C6:=jg (HG.out _ _ B6.out hg4)
      have C8:=jg (aI B8.out hg4 (fun k hk e=>by have h1:=(World.ownsRow.lt B8.out k hk).1;have h2:=sI e;omega))
      clear hg4 hp4 B3 B4 B5 B6 B8
      rw [show hd E (t3::ts3)=t3 from rfl] at *
      unfold eA
      have D2:Hid (kp ts3):=fun t ht=>A2.out t (by simp [ht])
      have hle3:ts3.length<=n:=by simp at hle;omega
      have h201':us.length+1+ts3.length<=201:=by simp at h201;omega
      have D1:Hid (ts3.length<gk):=by have:=A1.out;unfold Hid;simp at this;omega
      clear A1 A2 hle h201
      obtain ⟨pa,pn,pc,hu3⟩:=(cK.ofOwn C8.out).form
      subst hu3
      go_wp2_with fail
      refine (HP.out ts3 lev _ hle3 D2.out C4.out C6.out).mono ?_
      intro e w5 hpp
      rcases hpp.iface with ⟨hg5,y,ts5,t5,p5,hp5,rfl,hn5,hs5⟩ | ⟨hg5,f,hp5,rfl⟩
      ·have E3:=jg (C3.out.grown hg5)
       have E9:=jg hn5
       have hkw:∀ k,(Value.slice pa pn pc).ownBlock=some k->k<w4.heap.size:=fun k hk=>(World.ownsRow.lt C8.out k hk).2
       have hw4:=C5.out.size
       have hg4l:=C4.out.lt
       have hw45:=hg5.size
       have E4:=jg hs5
       have E5:=jg (ai C5.out hg5)
       have E6:=jg (HG.out _ _ C6.out hg5)
       have E8:=jg (aI C8.out hg5 (fun k hk e=>by have h1:=(World.ownsRow.lt C8.out k hk).1;have h2:=sI e;omega))
       have EP:=jg hp5
       have hw5:=E5.out.size
       have hg5l:=hs5.lt
       clear hg5 hn5 hs5 hp5 hpp C3 C4 C5 C6 C8
       go_wp2_with (first
        | (at_builtin;refine wpList_append_own_at _ rfl _ _ 292 rfl (w.heap.size-1+1) 256 i0 .nilIface 1 16 Tryz.underlying292 hi0 hz0 hz1 hz2 rfl (by decide) _ us.length us rfl (World.ownsRow.alloc E8.out _) ⟨w5.heap.size,0,none⟩ 1 1 [.iface t5 p5] rfl rfl (cell_one_new _ _ _) ?c2 ?c3 ?c4 ?c5 ?_))
       case c2=>intro u hu;simp at hu;subst hu;rfl
       case c3=>unfold maxLen;omega
       case c4=>omega
       case c5=>simp;omega
       ·intro v' w6 hown' hgrow _ hat
        have hne:∀ k,(Value.slice pa pn pc).ownBlock=some k->w.heap.size<=k:=fun k hk=>by have:=(World.ownsRow.lt E8.out k hk).1;omega
        have hb5:=ae w5 (.cells #[.iface t5 p5] 256)
        have hown7:w6.ownsRow (w.heap.size-1+1) 256 1 v' (us++[Value.iface t5 p5]).length (us++[Value.iface t5 p5]):=by rw [List.length_append];exact hown'
        have hG6:=bv (ai E5.out (aj hb5)) hgrow hne
        have hP6:=(E4.out.later hb5).grown hgrow (fun k hk=>by have:=hne k hk;omega)
        have hgG:G w6:=by
         have h0:=HG.out _ _ E6.out (aj hb5)
         cases hob:(Value.slice pa pn pc).ownBlock with
         | none=>rw [hob] at hgrow;exact HG.out _ _ h0 ⟨hgrow.os,hgrow.tape,hgrow.output,hgrow.size,fun i hi _=>hgrow.block i hi (by simp)⟩
         | some k=>rw [hob] at hgrow;exact HG2.out _ _ k h0 hgrow (by have:=hne k hob;omega)
        have hNR:NR w6 g (w.heap.size-1) v' (l++[y]) (us++[.iface t5 p5]):=by
         intro w' hw'
         have key:∀ i,i<w5.heap.size->i≠g->some i≠(Value.slice pa pn pc).ownBlock->w'.heap[i]?=w5.heap[i]?:=fun i hi h1 h2=>by
          have h3:=(hgrow.block i (by simp;omega) h2).trans (hb5.block i hi)
          rw [<-h3]
          refine hw' i (lL (by simp;omega) hgrow.size) h1 ?_
          rcases hat with hat | hat
          ·rw [hat];exact h2
          ·rw [hat];simp;omega
         refine ez.snoc (E3.out w' key) (Nd.up (by omega) _ _ (Nd.ag ?_ _ _ E9.out))
         intro i hi hlt
         exact key i hlt (by omega) (fun e=>by have:=hkw i e.symm;omega)
        have FW:Hid (∃ (l:List X) (us:List Value) (ts2:List Tk),ts2.length=ts5.length/\ts2.length<=n/\us.length+ts2.length<=201/\kp ts2/\w6.ownsRow (w.heap.size-1+1) 256 1 v' us.length us/\NR w6 g (w.heap.size-1) v' l us/\PS w6 g E ts2 lev/\w.grownBy w6 (some g)/\G w6/\∀ pl nm o,Ps L E (.A pl nm l) lev ts2 o->Ps L E (.Z pl nm) lev ts o):=by
         have h1:=EP.out.less
         exact ⟨l++[y],us++[.iface t5 p5],ts5,rfl,by omega,by simp;omega,kp.on EP.out D2.out,hown7,hNR,hP6,hG6,hgG,fun pl nm o ho=>A7.out pl nm _ (.aok HC.out EP.out ho)⟩
        clear hown' hgrow hat hne hb5 hown7 hG6 hP6 hgG hNR E3 E9 E4 E5 E6 E8
        go_wp2_with fail
        go_roundg ts5.length
        case measure=>have h1:=EP.out.less;have h2:=D1.out;omega
        case rel=>exact FW.out
      ·refine ⟨rfl,?_⟩
       exact ⟨ai C5.out hg5,.inl ⟨f,rfl,fun pl nm=>A7.out pl nm _ (.abad HC.out hp5)⟩⟩
    ·have ht3:=ni hcm
     have HC:=jg hcm
     clear hcm
     go_wp2_with fail
     refine (gt g E lev ts2 _ _ B4.out).mono ?_
     rintro e w4 ⟨hg4,hp4⟩
     by_cases hsh2:(hd E ts2).tx=⟨#[41]⟩
     ·rw [if_pos hsh2] at hp4
      obtain ⟨rfl,hp4⟩:=hp4
      cases ts2 with
      | nil=>exact absurd hsh2 (by show ¬ (⟨#[]⟩:ByteArray)=⟨#[41]⟩;decide +kernel)
      | cons t3 ts3=>
       have FIN:Hid (∀ pa pn pc,u3=.slice pa pn pc->yV L w g E lev ts (.returned (.slice pa pn pc)) w4):=fun pa pn pc hu=>⟨ai B5.out hg4,.inr ⟨l,us,ts3,pa,pn,pc,rfl,(cK.ofOwn (hu▸B8.out)).grownB hg4 (fun k hk=>by cases hk;exact hgw),B3.out.out hg4,hp4,fun pl nm=>A7.out pl nm _ (.aend hsh2)⟩⟩
       obtain ⟨pa,pn,pc,rfl⟩:=(cK.ofOwn B8.out).form
       clear hp4 hg4 B3 B4 B5 B6 B8
       go_wp2_with fail
       go_ret
       exact FIN.out _ _ _ rfl
     ·rw [if_neg hsh2] at hp4
      subst hp4
      refine ⟨rfl,?_⟩
      exact ⟨ai B5.out hg4,.inl ⟨⟨(hd E ts2).pl,1⟩,rfl,fun pl nm=>A7.out pl nm _ (.anone HC.out hsh2)⟩⟩
  ·refine ⟨rfl,?_⟩
   exact ⟨ai B5.out hg2,.inl ⟨f,rfl,fun pl nm=>.zbad HT.out hp1⟩⟩
end
section
open Go.RowKit
attribute [local go_sem] an
theorem vf {L:ByteArray->Int->Int->ByteArray->Prop} {G:World->Prop} {g E n:Nat} (hL:fl L) (hG:∀ W W',G W->W.grownBy W' (some g)->G W') (hG2:∀ W W' k,G W->W.grownBy W' (some k)->g<k->G W') (hP:gu L G g E 247 0 n) (t:Tk) (ts:List Tk) (lev:Nat) (w:World) (hn:ts.length<=n) (hf:kp (t::ts)) (h:PS w g E ts lev) (hw:G w)
 (h1:¬ cR t) (h2:t.tx≠cf) (h3:t.kd=1) (h4:¬ fB t.tx) :
 Calls Tryz.prog 341 #[.pointer (some ⟨g,0,none⟩),eA t] w (bI L w g E (.D 7) lev (t::ts)):=by
 have H:=jg h
 have HW:=jg hw
 have HG:=jg hG
 have Q1:=jg h1
 have Q2:=jg h2
 have Q3:=jg h3
 have Q4:=jg h4
 have hgl:=h.lt
 have hgw:g<=w.heap.size-1:=by omega
 have HA:Hid (∀ (ts':List Tk) (lev':Nat) (W:World),ts'.length<=n->kp ts'->PS W g E ts' lev'->G W->Calls Tryz.prog 342 #[.pointer (some ⟨g,0,none⟩)] W (yV L W g E lev' ts')):=fun ts' lev' W a b c d=>np hL hG hG2 hP ts' lev' W a b c d
 have HF:=jg hf
 have hf2:=pp
 have hsz:=hf t (by simp)
 clear hL hG hG2 hP hf h hw h1 h2 h3 h4
 unfold eA
 by_cases hlen:12<t.tx.size
 ·have hli:(12:Int)<(t.tx.size:Int):=by omega
  go_in
  go_wp2_with fail
  exact ⟨rfl,aj (ae _ _),.error ⟨t.pl,4⟩,.nlong Q1.out Q2.out Q3.out Q4.out hlen,rfl⟩
 ·have hli:¬ (12:Int)<(t.tx.size:Int):=by omega
  have HLN:Hid (t.tx.size<=12):=by unfold Hid;omega
  clear hlen
  by_cases hop:(hd E ts).tx=cf
  ·cases ts with
   | nil=>exact absurd hop (by show ¬ (⟨#[]⟩:ByteArray)=cf;decide +kernel)
   | cons t1 ts1=>
    have ho2:((hd E (t1::ts1)).tx.toList==[40])=true:=by rw [xl];exact decide_eq_true hop
    have HOP:Hid (t1.tx=cf):=hop
    clear hop
    go_in
    go_wp2_with fail
    refine (bK g E lev (t1::ts1) _ (H.out.later (ae _ _))).mono ?_
    rintro e w1 ⟨rfl,hb1⟩
    have s0:w1.cell? ⟨w.heap.size,0,none⟩=some (.int .i64 t.pl):=af hb1 (by go_simp)
    have s1:w1.cell? ⟨w.heap.size,1,none⟩=some (.int .i64 t.kd):=af hb1 (by go_simp)
    have s2:w1.cell? ⟨w.heap.size,2,none⟩=some (.string t.tx):=af hb1 (by go_simp)
    have HB1:=jg ((ae w _).trans (hb1.mono (by simp)))
    clear hb1
    unfold eA
    have hne8:some w.heap.size≠some g:=fun e=>by have:=sI e;omega
    go_wp2_with fail
    refine (bt g E lev (t1::ts1) _ (H.out.later HB1.out)).mono ?_
    rintro e w2 ⟨rfl,hg2,hp2⟩
    replace s0:=hg2.cell s0 hne8
    replace s1:=hg2.cell s1 hne8
    replace s2:=hg2.cell s2 hne8
    have B4:Hid (PS w2 g E ts1 lev):=hp2
    have B5:=jg (ai (aj HB1.out) hg2)
    clear hg2 hp2 HB1
    rw [show hd E (t1::ts1)=t1 from rfl] at *
    have HTK:Hid (∀ W,PS W g E ts1 lev->Calls Tryz.prog 312 #[.pointer (some ⟨g,0,none⟩),.agg #[.int .i64 t1.pl,.int .i64 t1.kd,.string t1.tx]] W (iZ W g E lev ts1 t1.pl)):=fun W hW=>ku g E lev ts1 t1 W hW
    unfold eA
    go_wp2_with fail
    refine (HTK.out _ B4.out).mono ?_
    rintro e w3 ⟨hg3,hp3⟩
    replace s0:=hg3.cell s0 hne8
    replace s1:=hg3.cell s1 hne8
    replace s2:=hg3.cell s2 hne8
    have C5:=jg (ai B5.out hg3)
    clear B4 B5 hg3
    by_cases hl:lev=12
    ·rw [if_pos hl] at hp3
     subst hp3
     subst hl
     exact ⟨rfl,C5.out,.error ⟨t1.pl,4⟩,.ndeep Q1.out Q2.out Q3.out Q4.out HLN.out HOP.out,rfl⟩
    ·rw [if_neg hl] at hp3
     obtain ⟨rfl,hp3⟩:=hp3
     have C4:=jg hp3
     have C6:=jg (HG.out _ _ HW.out C5.out)
     have HLV:=jg hl
     have HF1:Hid (kp ts1):=fun x hx=>HF.out x (by simp [hx])
     have hn1:ts1.length<=n:=by simp at hn;omega
     have hz3:=C5.out.size
     clear hl hp3
     go_wp2_with fail
     refine (HA.out ts1 (lev+1) _ hn1 HF1.out C4.out C6.out).mono ?_
     rintro e w4 ⟨hg4,hq4⟩
     replace s0:=hg4.cell s0 hne8
     replace s1:=hg4.cell s1 hne8
     replace s2:=hg4.cell s2 hne8
     rcases hq4 with ⟨f,rfl,hf4⟩ | ⟨l,us,ts5,pa,pn,pc,rfl,hl4,hn4,hp4,hps⟩
     ·exact ⟨rfl,ai C5.out hg4,.error f,.nargs Q1.out Q2.out Q3.out Q4.out HLN.out HOP.out HLV.out (hf4 _ _),rfl⟩
     ·have D3:Hid (cK w4 (w.heap.size-1) (.slice pa pn pc) us):=hl4.up (by omega)
      have D9:Hid (ez w4 (w.heap.size-1) l us):=ez.up (by omega) _ _ hn4
      have D4:=jg hp4
      have D5:=jg (ai C5.out hg4)
      have DP:=jg hps
      clear hl4 hn4 hp4 hps hg4 C4 C5 C6
      go_wp2_with fail
      refine (gA g E lev ts5 _ D4.out).mono ?_
      rintro e w5 ⟨rfl,hg5,hp5⟩
      replace s0:=hg5.cell s0 hne8
      replace s1:=hg5.cell s1 hne8
      replace s2:=hg5.cell s2 hne8
      have E3:=jg (D3.out.grownB hg5 (fun k hk=>by cases hk;exact hgw))
      have E9:=jg (ez.grownB hg5 (fun k hk=>by cases hk;exact hgw) _ _ D9.out)
      have E4:=jg hp5
      have E5:=jg (ai D5.out hg5)
      have hw5:w.heap.size-1<w5.heap.size:=by have:=E5.out.size;omega
      have HC:Hid (Calls Tryz.prog 343 #[.agg #[.int .i64 t.pl,.int .i64 t.kd,.string t.tx],.slice pa pn pc] w5 fun e w'=>Below w5.heap.size w5 w'/\∃ p,e=.returned p/\Nd w' (w.heap.size-1) (.app t.pl t.tx l) (.iface 302 p)):=qh t l pa pn pc us (w.heap.size-1) w5 hw5 E3.out E9.out
      clear hg5 hp5 D3 D9 D4 D5 E3 E9
      go_wp2_with fail
      refine HC.out.mono ?_
      rintro e w6 ⟨hb6,p6,rfl,hn6⟩
      have FIN:Hid (bI L w g E (.D 7) lev (t::t1::ts1) (.returned (.iface 302 p6)) w6):=⟨ai E5.out (aj hb6),.ok (_,ts5),.nargs Q1.out Q2.out Q3.out Q4.out HLN.out HOP.out HLV.out (DP.out _ _),_,rfl,hn6,E4.out.later hb6⟩
      clear hb6 hn6 HC E4 E5
      go_wp2_with fail
      go_ret
      exact FIN.out
  ·have ho2:=ni hop
   have HOP:=jg hop
   clear hop
   go_in
   go_wp2_with fail
   refine (bK g E lev ts _ (H.out.later (ae _ _))).mono ?_
   rintro e w1 ⟨rfl,hb1⟩
   have s0:w1.cell? ⟨w.heap.size,0,none⟩=some (.int .i64 t.pl):=af hb1 (by go_simp)
   have s1:w1.cell? ⟨w.heap.size,1,none⟩=some (.int .i64 t.kd):=af hb1 (by go_simp)
   have s2:w1.cell? ⟨w.heap.size,2,none⟩=some (.string t.tx):=af hb1 (by go_simp)
   have HB1:=jg ((ae w _).trans (hb1.mono (by simp)))
   clear hb1
   unfold eA
   go_wp2_with fail
   go_ret
   exact ⟨aj HB1.out,.ok (.col t.pl t.tx,ts),.ncol Q1.out Q2.out Q3.out Q4.out HLN.out HOP.out,_,rfl,rfl,H.out.later HB1.out⟩
end
section
open Go.RowKit
attribute [local go_sem] an
def yg (L:ByteArray->Int->Int->ByteArray->Prop) (w:World) (s:ByteArray) (e:Ending) (w':World):Prop:=Below w.heap.size w w'/\
 ((∃ k n t,L s k n t/\e=.returned (.tuple #[.agg #[.int .i64 k,.int .i64 n,.string t],.nilIface]))\/
  ((∀ k n t,¬ L s k n t)/\∃ ty v,e=.returned (.tuple #[.agg #[.int .i64 0,.int .i64 0,.string ⟨#[]⟩],.iface ty v])))
def oB (L:ByteArray->Int->Int->ByteArray->Prop) (G:World->Prop):Prop:=∀ (s:ByteArray) (W:World),s.size<=200->G W->Calls Tryz.prog 172 #[.string s] W (yg L W s)
theorem vq {L:ByteArray->Int->Int->ByteArray->Prop} {G:World->Prop} {g E:Nat} (hG:∀ W W',G W->W.grownBy W' (some g)->G W') (hR:oB L G) (t:Tk) (ts:List Tk) (lev:Nat) (w:World) (hf:t.tx.size<=200) (h:PS w g E (t::ts) lev) (hw:G w) (hl:cR t) :
 Calls Tryz.prog 340 #[.pointer (some ⟨g,0,none⟩)] w (bI L w g E (.D 7) lev (t::ts)):=by
 have H:=jg h
 have HL:=jg hl
 have HR:Hid (∀ W,w.grownBy W (some g)->Calls Tryz.prog 172 #[.string t.tx] W (yg L W t.tx)):=fun W hW=>hR t.tx W hf (hG _ _ hw hW)
 have hgl:=h.lt
 have hk0:((t.kd:Int)==2)=decide (t.kd=2):=by rw [Bool.eq_iff_iff];simp;omega
 have hk1:((t.kd:Int)==3)=decide (t.kd=3):=by rw [Bool.eq_iff_iff];simp;omega
 have hk2:(t.tx.toList==[116,114,117,101])=decide (t.tx=iJ):=xl _ _
 have hk3:(t.tx.toList==[102,97,108,115,101])=decide (t.tx=fY):=xl _ _
 clear hf h hw hG hR
 unfold cR at hl
 have hcase:(decide (t.kd=2)=true)\/(decide (t.kd=2)=false/\decide (t.kd=3)=true)\/(decide (t.kd=2)=false/\decide (t.kd=3)=false/\decide (t.tx=iJ)=true)\/(decide (t.kd=2)=false/\decide (t.kd=3)=false/\decide (t.tx=iJ)=false/\decide (t.tx=fY)=true):=by
  by_cases a:t.kd=2
  ·exact .inl (decide_eq_true a)
  by_cases b:t.kd=3
  ·exact .inr (.inl ⟨decide_eq_false a,decide_eq_true b⟩)
  by_cases c:t.tx=iJ
  ·exact .inr (.inr (.inl ⟨decide_eq_false a,decide_eq_false b,decide_eq_true c⟩))
  by_cases d:t.tx=fY
  ·exact .inr (.inr (.inr ⟨decide_eq_false a,decide_eq_false b,decide_eq_false c,decide_eq_true d⟩))
  exact absurd hl (by simp [a,b,c,d])
 clear hl
 go_in
 go_wp2_with fail
 refine (bt g E lev (t::ts) _ H.out).mono ?_
 rintro e w1 ⟨rfl,hg1,hp1⟩
 have B4:Hid (PS w1 g E ts lev):=hp1
 have B5:=jg hg1
 clear hg1 hp1 H
 rw [show hd E (t::ts)=t from rfl]
 unfold eA
 generalize decide (t.kd=2)=d0 at *
 generalize decide (t.kd=3)=d1 at *
 generalize decide (t.tx=iJ)=d2 at *
 generalize decide (t.tx=fY)=d3 at *
 have hb2:=ae w1 (.cells #[.int .i64 t.pl,.int .i64 t.kd,.string t.tx] 136)
 have C5:=jg (ai B5.out (aj hb2))
 have C4:=jg (B4.out.later hb2)
 clear hb2 B4 B5
 rcases hcase with rfl | ⟨rfl,rfl⟩ | ⟨rfl,rfl,rfl⟩ | ⟨rfl,rfl,rfl,rfl⟩
 all_goals
  go_wp2_with fail
  refine (HR.out _ C5.out).mono ?_
  rintro e w2 ⟨hb2,hq⟩
  have s0:w2.cell? ⟨w1.heap.size,0,none⟩=some (.int .i64 t.pl):=af hb2 (by go_simp)
  have hl2:=bL s0
  have D4:=jg (C4.out.later hb2)
  have D5:=jg (ai C5.out (aj hb2))
  clear hb2 C4 C5
  rcases hq with ⟨k,m,s,hLL,rfl⟩ | ⟨hLL,ty,v,rfl⟩
  ·have FIN:Hid (∀ w3,Below w2.heap.size w2 w3->bI L w g E (.D 7) lev (t::ts) (.returned (.iface 286 (.agg #[.int .i64 k,.int .i64 m,.string s]))) w3):=fun w3 hb3=>⟨ai D5.out (aj hb3),.ok (.lit k m s,ts),.lit HL.out hLL,_,rfl,rfl,D4.out.later hb3⟩
   clear hLL D4 D5 HR
   go_wp2_with fail
   go_ret
   exact FIN.out _ (by repeat (first | exact bR | exact ae _ _))
  ·have FIN:Hid (∀ w3,Below w2.heap.size w2 w3->bI L w g E (.D 7) lev (t::ts) (.panicked [{ v:=df t.pl 1,recovered:=false }]) w3):=fun w3 hb3=>⟨ai D5.out (aj hb3),.error ⟨t.pl,1⟩,.lbad HL.out hLL,rfl⟩
   clear hLL D4 D5 HR
   go_wp2_with fail
   exact ⟨rfl,FIN.out _ (by first | exact bR | exact ae _ _)⟩
theorem sm {L:ByteArray->Int->Int->ByteArray->Prop} {G:World->Prop} {g E:Nat} (hG:∀ W W',G W->W.grownBy W' (some g)->G W') (t:Tk) (ts:List Tk) (hP:gu L G g E 247 0 ts.length) (lev:Nat) (w:World) (hf:kp ts) (h:PS w g E (t::ts) lev) (hw:G w) (hl:¬ cR t) (ho:t.tx=cf) :
 Calls Tryz.prog 340 #[.pointer (some ⟨g,0,none⟩)] w (bI L w g E (.D 7) lev (t::ts)):=by
 have H:=jg h
 have HL:=jg hl
 have HO:=jg ho
 have HG:=jg hG
 have HW:=jg hw
 have HP:=jg hP
 have HF:=jg hf
 have hgl:=h.lt
 have hgw:g<=w.heap.size-1:=by omega
 have hk0:((t.kd:Int)==2)=false:=by rw [beq_eq_false_iff_ne];intro e;exact hl (.inl (by omega))
 have hk1:((t.kd:Int)==3)=false:=by rw [beq_eq_false_iff_ne];intro e;exact hl (.inr (.inl (by omega)))
 have hk2:=ni (fun e=>hl (.inr (.inr (.inl e))))
 have hk3:=ni (fun e=>hl (.inr (.inr (.inr e))))
 have hk4:(t.tx.toList==[40])=true:=by rw [xl];exact decide_eq_true ho
 clear hf h hw hG hP hl ho
 go_in
 go_wp2_with fail
 refine (bt g E lev (t::ts) _ H.out).mono ?_
 rintro e w1 ⟨rfl,hg1,hp1⟩
 have B4:Hid (PS w1 g E ts lev):=hp1
 have B5:=jg hg1
 clear hg1 hp1 H
 rw [show hd E (t::ts)=t from rfl]
 unfold eA
 have hb2:=ae w1 (.cells #[.int .i64 t.pl,.int .i64 t.kd,.string t.tx] 136)
 have C5:=jg (ai B5.out (aj hb2))
 have C4:=jg (B4.out.later hb2)
 clear hb2 B4 B5
 go_wp2_with fail
 refine (ku g E lev ts t _ C4.out).mono ?_
 rintro e w2 ⟨hg2,hp2⟩
 have D5:=jg (ai C5.out hg2)
 clear hg2 C4 C5
 by_cases hlv:lev=12
 ·rw [if_pos hlv] at hp2
  subst hp2
  subst hlv
  exact ⟨rfl,D5.out,.error ⟨t.pl,4⟩,.odeep HL.out HO.out,rfl⟩
 ·rw [if_neg hlv] at hp2
  obtain ⟨rfl,hp2⟩:=hp2
  have D4:=jg hp2
  have D6:=jg (HG.out _ _ HW.out D5.out)
  have HLV:=jg hlv
  clear hlv hp2
  go_wp2_with fail
  refine (HP.out ts (lev+1) _ lR HF.out D4.out D6.out).mono ?_
  intro e w3 hpp
  rcases hpp.iface with ⟨hg3,x,ts3,t3,p3,hp3,rfl,hn3,hs3⟩ | ⟨hg3,f,hp3,rfl⟩
  ·have E3:Hid (Nd w3 (w.heap.size-1) x (.iface t3 p3)):=Nd.up (by have:=D5.out.size;omega) _ _ hn3
   have E4:=jg hs3
   have E5:=jg (ai D5.out hg3)
   have EP:=jg hp3
   clear hn3 hs3 hg3 hp3 hpp D4 D5 D6
   go_wp2_with fail
   refine (gt g E (lev+1) ts3 _ _ E4.out).mono ?_
   rintro e w4 ⟨hg4,hp4⟩
   by_cases hsh:(hd E ts3).tx=⟨#[41]⟩
   ·rw [if_pos hsh] at hp4
    obtain ⟨rfl,hp4⟩:=hp4
    cases ts3 with
    | nil=>exact absurd hsh (by show ¬ (⟨#[]⟩:ByteArray)=⟨#[41]⟩;decide +kernel)
    | cons t4 ts4=>
     have HSH:Hid (t4.tx=dA):=hsh
     have F4:Hid (PS w4 g E ts4 (lev+1)):=hp4
     have F3:=jg (Nd.grownB hg4 (fun k hk=>by cases hk;exact hgw) _ _ E3.out)
     have F5:=jg (ai E5.out hg4)
     clear hsh hp4 hg4 E3 E4 E5
     go_wp2_with fail
     refine (gA g E lev ts4 _ F4.out).mono ?_
     rintro e w5 ⟨rfl,hg5,hp5⟩
     have FIN:Hid (bI L w g E (.D 7) lev (t::ts) (.returned (.iface t3 p3)) w5):=⟨ai F5.out hg5,.ok (x,ts4),.ook HL.out HO.out HLV.out EP.out HSH.out,_,rfl,Nd.grownB hg5 (fun k hk=>by cases hk;exact hgw) _ _ F3.out,hp5⟩
     clear hg5 hp5 F3 F4 F5
     go_wp2_with fail
     go_ret
     exact FIN.out
   ·rw [if_neg hsh] at hp4
    subst hp4
    exact ⟨rfl,ai E5.out hg4,.error ⟨(hd E ts3).pl,1⟩,.oopen HL.out HO.out HLV.out EP.out hsh,rfl⟩
  ·exact ⟨rfl,ai D5.out hg3,.error f,.obad HL.out HO.out HLV.out hp3,rfl⟩
theorem qa {L:ByteArray->Int->Int->ByteArray->Prop} {G:World->Prop} {g E:Nat} (hL:fl L) (hG:∀ W W',G W->W.grownBy W' (some g)->G W') (hG2:∀ W W' k,G W->W.grownBy W' (some k)->g<k->G W') (t:Tk) (ts:List Tk) (hP:gu L G g E 247 0 ts.length) (lev:Nat) (w:World) (hf:kp (t::ts)) (h:PS w g E (t::ts) lev) (hw:G w) (hl:¬ cR t) (ho:t.tx≠cf) :
 Calls Tryz.prog 340 #[.pointer (some ⟨g,0,none⟩)] w (bI L w g E (.D 7) lev (t::ts)):=by
 have H:=jg h
 have HL:=jg hl
 have HO:=jg ho
 have HR:Hid (∀ W,Calls Tryz.prog 174 #[.string t.tx] W fun e w'=>e=.returned (.bool (decide (fB t.tx)))/\w'=W):=fun W=>fe t.tx W
 have hk0:((t.kd:Int)==2)=false:=by rw [beq_eq_false_iff_ne];intro e;exact hl (.inl (by omega))
 have hk1:((t.kd:Int)==3)=false:=by rw [beq_eq_false_iff_ne];intro e;exact hl (.inr (.inl (by omega)))
 have hk2:=ni (fun e=>hl (.inr (.inr (.inl e))))
 have hk3:=ni (fun e=>hl (.inr (.inr (.inr e))))
 have hk4:=ni ho
 by_cases h1:t.kd=1
 ·have hk5:((t.kd:Int)==1)=true:=by rw [h1];rfl
  by_cases hre:fB t.tx
  ·have hrd:=decide_eq_true hre
   have FIN:Hid (∀ w2,w.grownBy w2 (some g)->bI L w g E (.D 7) lev (t::ts) (.panicked [{ v:=df t.pl 1,recovered:=false }]) w2):=fun w2 hg=>⟨hg,.error ⟨t.pl,1⟩,.none hl ho (fun e=>e.2 hre),rfl⟩
   clear hf h hw hG hG2 hP hl ho hre h1 hL
   go_in
   go_wp2_with fail
   refine (bt g E lev (t::ts) _ H.out).mono ?_
   rintro e w1 ⟨rfl,hg1,hp1⟩
   have B4:Hid (PS w1 g E ts lev):=hp1
   have B5:=jg hg1
   clear hg1 hp1 H
   rw [show hd E (t::ts)=t from rfl]
   unfold eA
   have hb2:=ae w1 (.cells #[.int .i64 t.pl,.int .i64 t.kd,.string t.tx] 136)
   have C5:=jg (ai B5.out (aj hb2))
   have C4:=jg (B4.out.later hb2)
   clear hb2 B4 B5
   go_wp2_with fail
   refine (HR.out _).mono ?_
   rintro e w2 ⟨rfl,h2⟩
   have h2:=h2.symm
   subst h2
   rw [hrd]
   go_wp2_with fail
   exact ⟨rfl,FIN.out _ C5.out⟩
  ·have hrd:=decide_eq_false hre
   have HN:Hid (∀ W,w.grownBy W (some g)->PS W g E ts lev->Calls Tryz.prog 341 #[.pointer (some ⟨g,0,none⟩),.agg #[.int .i64 t.pl,.int .i64 t.kd,.string t.tx]] W (bI L W g E (.D 7) lev (t::ts))):=fun W hW hp=>vf hL hG hG2 hP t ts lev W lR hf hp (hG _ _ hw hW) hl ho h1 hre
   clear hf h hw hG hG2 hP hl ho hre h1 hL
   go_in
   go_wp2_with fail
   refine (bt g E lev (t::ts) _ H.out).mono ?_
   rintro e w1 ⟨rfl,hg1,hp1⟩
   have B4:Hid (PS w1 g E ts lev):=hp1
   have B5:=jg hg1
   clear hg1 hp1 H
   rw [show hd E (t::ts)=t from rfl]
   unfold eA
   have hb2:=ae w1 (.cells #[.int .i64 t.pl,.int .i64 t.kd,.string t.tx] 136)
   have C5:=jg (ai B5.out (aj hb2))
   have C4:=jg (B4.out.later hb2)
   clear hb2 B4 B5
   go_wp2_with fail
   refine (HR.out _).mono ?_
   rintro e w2 ⟨rfl,h2⟩
   have h2:=h2.symm
   subst h2
   rw [hrd]
   go_wp2_with fail
   refine (HN.out _ C5.out C4.out).mono ?_
   intro e w3 hpp
   have HPP:Hid (bI L w g E (.D 7) lev (t::ts) e w3):=by
    obtain ⟨hg,o,hp,hq⟩:=hpp
    refine ⟨ai C5.out hg,o,hp,?_⟩
    cases o with
    | error f=>exact hq
    | ok q=>
     obtain ⟨x,ts'⟩:=q
     obtain ⟨v,a1,a2,a3⟩:=hq
     exact ⟨v,a1,Nd.up (by have:=C5.out.size;omega) _ _ a2,a3⟩
   rcases hpp.iface with ⟨_,x,ts1,t',p,_,rfl,_,_⟩ | ⟨_,f,_,rfl⟩
   ·clear hpp
    go_wp2_with fail
    go_ret
    exact HPP.out
   ·exact ⟨rfl,HPP.out⟩
 ·have hk5:((t.kd:Int)==1)=false:=by rw [beq_eq_false_iff_ne];omega
  have FIN:Hid (∀ w2,w.grownBy w2 (some g)->bI L w g E (.D 7) lev (t::ts) (.panicked [{ v:=df t.pl 1,recovered:=false }]) w2):=fun w2 hg=>⟨hg,.error ⟨t.pl,1⟩,.none hl ho (fun e=>h1 e.1),rfl⟩
  clear hf h hw hG hG2 hP hl ho h1 hL
  go_in
  go_wp2_with fail
  refine (bt g E lev (t::ts) _ H.out).mono ?_
  rintro e w1 ⟨rfl,hg1,hp1⟩
  have B4:Hid (PS w1 g E ts lev):=hp1
  have B5:=jg hg1
  clear hg1 hp1 H
  rw [show hd E (t::ts)=t from rfl]
  unfold eA
  have hb2:=ae w1 (.cells #[.int .i64 t.pl,.int .i64 t.kd,.string t.tx] 136)
  have C5:=jg (ai B5.out (aj hb2))
  have C4:=jg (B4.out.later hb2)
  clear hb2 B4 B5
  go_wp2_with fail
  exact ⟨rfl,FIN.out _ C5.out⟩
theorem uK {L:ByteArray->Int->Int->ByteArray->Prop} {g E:Nat} (lev:Nat) (w:World) (h:PS w g E [] lev) :
 Calls Tryz.prog 340 #[.pointer (some ⟨g,0,none⟩)] w (bI L w g E (.D 7) lev []):=by
 have H:=jg h
 have FIN:Hid (∀ w2,w.grownBy w2 (some g)->bI L w g E (.D 7) lev [] (.panicked [{ v:=df E 1,recovered:=false }]) w2):=fun w2 hg=>⟨hg,.error ⟨E,1⟩,.none (ts:=[]) (by show ¬ cR ⟨E,0,⟨#[]⟩⟩;unfold cR;simp;decide +kernel) (by show ¬ (⟨#[]⟩:ByteArray)=cf;decide +kernel) (by simp [hd]),rfl⟩
 clear h
 go_in
 go_wp2_with fail
 refine (bt g E lev [] _ H.out).mono ?_
 rintro e w1 ⟨rfl,hg1,hp1⟩
 have B5:=jg hg1
 clear hg1 hp1 H
 simp only [hd,eA]
 go_wp2_with fail
 exact ⟨rfl,FIN.out _ (ai B5.out (aj (ae _ _)))⟩
end
section
open Go.RowKit
attribute [local go_sem] an
theorem ww {L:ByteArray->Int->Int->ByteArray->Prop} {G:World->Prop} {g E n:Nat} (hL:fl L) (hG:∀ W W',G W->W.grownBy W' (some g)->G W') (hG2:∀ W W' k,G W->W.grownBy W' (some k)->g<k->G W') (hR:oB L G) (hP:∀ m,m<n->gu L G g E 247 0 m):gu L G g E 340 7 n:=by
 intro ts lev w hn hf h hw
 cases ts with
 | nil=>exact uK lev w h
 | cons t ts=>
  have hlt:ts.length<n:=by simp at hn;omega
  by_cases hl:cR t
  ·exact vq hG hR t ts lev w (hf t (by simp)) h hw hl
  ·by_cases ho:t.tx=cf
   ·exact sm hG t ts (hP _ hlt) lev w (fun x hx=>hf x (by simp [hx])) h hw hl ho
   ·exact qa hL hG hG2 t ts (hP _ hlt) lev w hf h hw hl ho
theorem Ac {L:ByteArray->Int->Int->ByteArray->Prop} {G:World->Prop} {g E:Nat} (hL:fl L) (hG:∀ W W',G W->W.grownBy W' (some g)->G W') (hG2:∀ W W' k,G W->W.grownBy W' (some k)->g<k->G W') (hR:oB L G) (n:Nat) :
 gu L G g E 247 0 n/\gu L G g E 284 2 n/\gu L G g E 336 6 n:=by
 induction n using Nat.strongRecOn with
 | ind n ih=>
  have f:=ww (E:=E) hL hG hG2 hR (fun m hm=>(ih m hm).1)
  have mi:=wa hL hG (fun m hm=>(ih m hm).2.2) f
  have c:=mH hL hG (Aj hL hG (qx hL hG mi))
  have no:=Ba hL hG (fun m hm=>(ih m hm).2.1) c
  exact ⟨Cv hL hG (Ab hL hG no),no,mi⟩
theorem fS:∀ (n pl:Nat) (l:List UInt8) (ts:List Tk),tok n pl l=.ok ts->ts.length<=l.length/\∀ t∈ts,t.kd≠0/\t.tx.size≠0/\t.tx.size<=l.length
 | n,pl,[],ts,h=>by
  have:tok n pl []=.ok []:=by cases n<;>rfl
  rw [this] at h
  cases h
  exact ⟨lR,fun t ht=>by cases ht⟩
 | 0,pl,c::r,ts,h=>by cases h
 | n+1,pl,c::r,ts,h=>by
  cases hs:eO c with
  | true=>
   rw [kL hs] at h
   obtain ⟨h1,h2⟩:=fS n _ _ _ h
   simp only [List.length_cons]
   exact ⟨by omega,fun t ht=>⟨(h2 t ht).1,(h2 t ht).2.1,by have:=(h2 t ht).2.2;omega⟩⟩
  | false=>
   cases ht:bJ (c::r) with
   | none=>rw [mh hs ht] at h;cases h
   | some p=>
    obtain ⟨kd,m⟩:=p
    rw [mQ hs ht] at h
    obtain ⟨hm0,hm1⟩:=fh ht
    cases hq:tok n (pl+m) ((c::r).drop m) with
    | error e=>rw [hq] at h;cases h
    | ok l'=>
     rw [hq] at h
     cases h
     obtain ⟨h1,h2⟩:=fS n _ _ _ hq
     rw [List.length_drop] at h1
     refine ⟨by simp only [List.length_cons] at *;omega,fun t ht'=>?_⟩
     rcases List.mem_cons.1 ht' with rfl | ht'
     ·have hk:kd≠0:=by
       unfold bJ at ht
       dsimp only at ht
       split at ht
       ·cases ht;decide
       ·split at ht
        ·cases ht;decide
        ·split at ht
         ·rw [Option.map_eq_some_iff] at ht
          obtain ⟨i,_,h3⟩:=ht
          cases h3;decide
         ·split at ht
          ·cases ht;decide
          ·cases ht
      have hz:(⟨((c::r).take m).toArray⟩:ByteArray).size=m:=by
       show (((c::r).take m).toArray).size=m
       rw [List.size_toArray,List.length_take]
       omega
      exact ⟨hk,by show (⟨((c::r).take m).toArray⟩:ByteArray).size≠0;omega,by show (⟨((c::r).take m).toArray⟩:ByteArray).size<=_;omega⟩
     ·obtain ⟨a,b,c'⟩:=h2 t ht'
      rw [List.length_drop] at c'
      exact ⟨a,b,by omega⟩
inductive PX (L:ByteArray->Int->Int->ByteArray->Prop) (s:ByteArray):Except jK X->Prop
 | full:200<s.size->PX L s (.error ⟨0,5⟩)
 | tok {p}:s.size<=200->tok s.size 0 s.data.toList=.error p->PX L s (.error ⟨p,1⟩)
 | bad {ts f}:s.size<=200->Go.Proofs.YtiiliobffnhpmaaGreatDoor.tok s.size 0 s.data.toList=.ok ts->Ps L s.size (.D 0) 0 ts (.error f)->PX L s (.error f)
 | more {ts x t ts'}:s.size<=200->Go.Proofs.YtiiliobffnhpmaaGreatDoor.tok s.size 0 s.data.toList=.ok ts->Ps L s.size (.D 0) 0 ts (.ok (x,t::ts'))->PX L s (.error ⟨t.pl,1⟩)
 | ok {ts x}:s.size<=200->Go.Proofs.YtiiliobffnhpmaaGreatDoor.tok s.size 0 s.data.toList=.ok ts->Ps L s.size (.D 0) 0 ts (.ok (x,[]))->PX L s (.ok x)
theorem PX.one {L:ByteArray->Int->Int->ByteArray->Prop} {s:ByteArray} (hL:fl L) {o o':Except jK X} (h:PX L s o) (h':PX L s o'):o=o':=by
 cases h with
 | full a=>cases h' with
  | full=>rfl
  | tok b _=>omega
  | bad b _ _=>omega
  | more b _ _=>omega
  | ok b _ _=>omega
 | tok a b=>cases h' with
  | full c=>omega
  | tok _ c=>rw [b] at c;cases c;rfl
  | bad _ c _=>rw [b] at c;cases c
  | more _ c _=>rw [b] at c;cases c
  | ok _ c _=>rw [b] at c;cases c
 | bad a b d=>cases h' with
  | full c=>omega
  | tok _ c=>rw [b] at c;cases c
  | bad _ c e=>rw [b] at c;cases c;cases d.one hL _ e;rfl
  | more _ c e=>rw [b] at c;cases c;cases d.one hL _ e
  | ok _ c e=>rw [b] at c;cases c;cases d.one hL _ e
 | more a b d=>cases h' with
  | full c=>omega
  | tok _ c=>rw [b] at c;cases c
  | bad _ c e=>rw [b] at c;cases c;cases d.one hL _ e
  | more _ c e=>rw [b] at c;cases c;cases d.one hL _ e;rfl
  | ok _ c e=>rw [b] at c;cases c;cases d.one hL _ e
 | ok a b d=>cases h' with
  | full c=>omega
  | tok _ c=>rw [b] at c;cases c
  | bad _ c e=>rw [b] at c;cases c;cases d.one hL _ e
  | more _ c e=>rw [b] at c;cases c;cases d.one hL _ e
  | ok _ c e=>rw [b] at c;cases c;cases d.one hL _ e;rfl
def yR (L:ByteArray->Int->Int->ByteArray->Prop) (w:World) (s:ByteArray) (e:Ending) (w':World):Prop:=Below w.heap.size w w'/\∃ o,PX L s o/\
 match o with
 | .ok x=>∃ t p,e=.returned (.iface t p)/\Nd w' (w.heap.size-1) x (.iface t p)
 | .error f=>e=.panicked [{ v:=df f.pl f.why,recovered:=false }]
theorem parse_any {L:ByteArray->Int->Int->ByteArray->Prop} {G:World->Prop} (hL:fl L) (hR:oB L G) (s:ByteArray) (w:World) (hG:∀ W W' r,(∀ k,r=some k->w.heap.size<=k)->G W->W.grownBy W' r->G W') (hw:G w) :
 Calls Tryz.prog 211 #[.string s] w (yR L w s):=by
 by_cases hs:200<s.size
 ·have hsi:(200:Int)<(s.size:Int):=by omega
  have FIN:Hid (yR L w s (.panicked [{ v:=df 0 5,recovered:=false }]) w):=⟨bR,.error ⟨0,5⟩,.full hs,rfl⟩
  go_in
  go_wp2_with fail
  exact ⟨rfl,FIN.out⟩
 ·have hsi:¬ (200:Int)<(s.size:Int):=by omega
  have hs2:s.size<=200:=by omega
  have HT:=jg (tI s w hs2)
  have HW:=jg hw
  have HG:=jg hG
  have HRD:Hid (∀ g E n,w.heap.size<=g->gu L G g E 247 0 n):=fun g E n hg=>(Ac hL (fun W W' a b=>hG W W' (some g) (fun k hk=>by cases hk;exact hg) a b) (fun W W' k a b c=>hG W W' (some k) (fun j hj=>by cases hj;omega) a b) hR n).1
  go_in
  go_wp2_with fail
  refine HT.out.mono ?_
  rintro e w1 ⟨hb1,hq⟩
  cases ht:tok s.size 0 s.data.toList with
  | error p=>
   rw [ht] at hq
   subst hq
   exact ⟨hb1,.error ⟨p,1⟩,.tok hs2 ht,rfl⟩
  | ok ts=>
   rw [ht] at hq
   obtain ⟨x,rfl,hO⟩:=hq
   have hlen:s.data.toList.length=s.size:=by simp
   obtain ⟨hc1,hc2⟩:=fS _ _ _ _ ht
   rw [hlen] at hc1 hc2
   rcases hO.2 with ⟨-,h0⟩ | ⟨b,cap,cur,rfl,hb,hcur,hle,hmx,-⟩
   ·simp at h0
   have hbl:b<w1.heap.size:=by
    rcases Nat.lt_or_ge b w1.heap.size with h | h
    ·exact h
    ·rw [Array.getElem?_eq_none h] at hcur;cases hcur
   have hPS:PS (w1.alloc (.cells #[.slice (some ⟨b,0,none⟩) (ts.length+1) cap,.int .i64 0] 306)) w1.heap.size s.size ts 0:=by
    have hTk:=hO.at
    refine ⟨b,0,cap,aD.new w1 306 2 #[.slice (some ⟨b,0,none⟩) (ts.length+1) cap,.int .i64 0] rfl,hbl,by simp at hle;omega,hmx,hTk.grown (r:=none) (aj (ae _ _)) (by simp),fun t h=>⟨(hc2 t h).1,(hc2 t h).2.1⟩,by omega,by decide⟩
   have hFew:kp ts:=fun t h=>by have:=(hc2 t h).2.2;omega
   have A4:=jg hPS
   have A2:=jg hFew
   have A0:=jg ht
   have A1:=jg hb1
   have hz1:=hb1.size
   have A6:Hid (G (w1.alloc (.cells #[.slice (some ⟨b,0,none⟩) (ts.length+1) cap,.int .i64 0] 306))):=HG.out _ _ none (by simp) HW.out (aj (hb1.trans ((ae _ _).mono hz1)))
   have HNE:Hid (∀ t∈ts,t.tx.size≠0):=fun t h=>(hc2 t h).2.1
   rw [show (ts++[(⟨s.size,0,⟨#[]⟩⟩:Tk)]).length=ts.length+1 by simp]
   go_wp2_with fail
   refine (HRD.out w1.heap.size s.size ts.length hz1 ts 0 _ lR A2.out A4.out A6.out).mono ?_
   intro e w2 hpp
   rcases hpp.iface with ⟨hg2,x,ts2,t2,p2,hp2,rfl,hn2,hs2'⟩ | ⟨hg2,f,hp2,rfl⟩
   ·have hB2:=eE (A1.out.trans ((ae _ _).mono hz1)) hg2 (fun k hk=>by cases hk;exact hz1)
    have B3:Hid (Nd w2 w1.heap.size x (.iface t2 p2)):=Nd.up (by simp) _ _ hn2
    have B1:=jg hB2
    have B4:=jg hs2'
    have BP:=jg hp2
    go_wp2_with fail
    refine (gt w1.heap.size s.size 0 ts2 _ _ B4.out).mono ?_
    rintro e w3 ⟨hg3,hp3⟩
    have hB3:=eE B1.out hg3 (fun k hk=>by cases hk;exact hz1)
    cases ts2 with
    | nil=>
     rw [if_pos (by rfl)] at hp3
     obtain ⟨rfl,-⟩:=hp3
     have FIN:Hid (yR L w s (.returned (.iface t2 p2)) w3):=⟨hB3,.ok x,.ok hs2 A0.out BP.out,_,_,rfl,Nd.up (by omega) _ _ (Nd.grown hg3 _ _ B3.out)⟩
     go_wp2_with fail
     go_ret
     exact FIN.out
    | cons t3 ts3=>
     have hne:¬ (hd s.size (t3::ts3)).tx=⟨#[]⟩:=fun e=>by
      have h1:t3.tx=⟨#[]⟩:=e
      have h2:=HNE.out t3 (BP.out.suffix x _ rfl t3 (by simp))
      rw [h1] at h2
      exact h2 rfl
     rw [if_neg hne] at hp3
     subst hp3
     exact ⟨rfl,hB3,.error ⟨t3.pl,1⟩,.more hs2 A0.out BP.out,rfl⟩
   ·exact ⟨rfl,eE (A1.out.trans ((ae _ _).mono hz1)) hg2 (fun k hk=>by cases hk;exact hz1),.error f,.bad hs2 A0.out hp2,rfl⟩
end
end Go.Proofs.YtiiliobffnhpmaaGreatDoor
