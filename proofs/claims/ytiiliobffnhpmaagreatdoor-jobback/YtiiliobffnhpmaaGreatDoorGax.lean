import Derived.Test.YtiiliobffnhpmaaGreatDoorGal
set_option linter.all false
set_option maxRecDepth 100000
set_option maxHeartbeats 4000000
namespace Go.Proofs.YtiiliobffnhpmaaGreatDoor
namespace Oo
open Go.RowKit
attribute [local go_sem ↓] kW qX
attribute [local go_sem] iC
def Cj (pl:Int) (r:Except Nat Int):Value:=match r with
 | .ok k=>.tuple #[.int .i64 k,.int .i64 pl,.nilIface]
 | .error n=>.tuple #[.int .i64 0,.int .i64 pl,.iface 37 (.int .i64 n)]
def om (w:World) (c:List Co) (ck:ByteArray->Except Nat Int):Prop:=∀ s W a cc,Below w.heap.size w W->ap W a c->Calls Tryz.prog 217 #[.string s,.slice a c.length cc] W fun e w'=>(∃ pl,e=.returned (Cj pl (ck s)))/\Below W.heap.size W w'
theorem om.later {w wx:World} {c:List Co} {ck:ByteArray->Except Nat Int} (h:om w c ck) (hb:Below w.heap.size w wx):om wx c ck:=fun s W a cc hW hc=>h s W a cc (hb.trans (hW.mono hb.size)) hc
def uw (B:Nat) (a:Option Addr):Prop:=∀ b off,a=some ⟨b,off,none⟩->B<=b
theorem uw.of {w:World} {B B' T size n c:Nat} {a:Option Addr} {xs:List Value} (h:w.ownsRow B T size (.slice a n c) n xs) (hb:B'<=B):uw B' a:=fun b off e=>by
 subst e
 exact Nat.le_trans hb (World.ownsRow.lt h b rfl).1
theorem uw.mono {B B':Nat} {a:Option Addr} (h:uw B a) (hb:B'<=B):uw B' a:=fun b off e=>Nat.le_trans hb (h b off e)
def jM (w:World) (r:Except Nat (List Co)) (e:Ending) (w':World):Prop:=Below w.heap.size w w'/\match r with
 | .error n=>e=.returned (.tuple #[.slice none 0 0,.iface 37 (.int .i64 n)])
 | .ok l=>∃ a c,e=.returned (.tuple #[.slice a l.length c,.nilIface])/\ap w' a l/\uw w.heap.size a
theorem aZ {w w':World} {n:Nat} {e:Ending} (hb:Below w.heap.size w w') (he:e=.returned (.tuple #[.slice none 0 0,.iface 37 (.int .i64 n)])):jM w (.error n) e w':=⟨hb,he⟩
theorem fb {w w':World} {l:List Co} {e:Ending} {a:Option Addr} {c:Nat} (hb:Below w.heap.size w w') (he:e=.returned (.tuple #[.slice a l.length c,.nilIface])) (hc:ap w' a l) (hf:uw w.heap.size a):jM w (.ok l) e w':=⟨hb,a,c,he,hc,hf⟩
theorem vF (ck:ByteArray->Except Nat Int) (o:eJ) (p:mY) (w:World) (hs:iv o) (hat:iw w o p) (hck:om w o.c ck) :
 Calls Tryz.prog 189 #[.agg (cO o p)] w (jM w (gO ck o)):=by
 have HC:=aU hat.c
 have HE:=aU hat.e
 have HK:=aU hck
 have hcl:=hs.c
 obtain ⟨k,ex,nm,c,r,ks,os,wk,ws,wt,ag,ou⟩:=o
 obtain ⟨ea,ec,na,nc,ca,cc,ra,rc,ka,kc,oa,oc,ga,gc⟩:=p
 unfold cO
 simp only at *
 by_cases h1:ex.length=1
 ·obtain ⟨s,rfl⟩:∃ s,ex=[s]:=by
   match ex,h1 with
   | [s],_=>exact ⟨s,rfl⟩
  obtain ⟨b,off,rfl,e1⟩:=HE.out 0 (by simp)
  simp only [List.getElem_cons_zero,Nat.add_zero] at e1
  have hbl:=bL e1
  have hone:[s].length=1:=rfl
  rw [hone]
  have HR:Hid (gO ck ⟨k,[s],nm,c,r,ks,os,wk,ws,wt,ag,ou⟩=match ck s with
   | .error n=>.error n
   | .ok k=>if k=2 then .ok c else .error 3):=rfl
  generalize gO ck ⟨k,[s],nm,c,r,ks,os,wk,ws,wt,ag,ou⟩=R at *
  have HKs:Hid (∀ W,Below w.heap.size w W->Calls Tryz.prog 217 #[.string s,.slice ca c.length cc] W fun e w'=>(∃ pl,e=.returned (Cj pl (ck s)))/\Below W.heap.size W w'):=fun W hW=>HK.out s W ca cc hW (HC.out.later hW)
  cases hks:ck s with
  | error n=>
   rw [hks] at HR HKs
   have HR':=jg HR.out
   unfold Cj at HKs
   simp only at HKs
   go_in
   go_wp2_with fail
   go_region_with (go_at_call 217;refine (HKs.out _ (by first | exact ae _ _ | exact (ae _ _).drew | exact Below.drewN' (ae _ _))).mono ?_;rintro e w1 ⟨⟨pl,rfl⟩,hb1⟩;have HB1:Hid (Below w.heap.size w w1):=(by first | exact (ae w _).trans (hb1.mono (by simp)) | exact ((ae w _).drew).trans (hb1.mono (by simp)) | exact (Below.drewN' (ae w _)).trans (hb1.mono (by simp))))
   all_goals
    go_wp2_with fail
    go_ret2
    rw [HR'.out]
    exact aZ (by first | exact HB1.out | exact HB1.out.drew | exact Below.drewN' HB1.out) rfl
  | ok kd=>
   rw [hks] at HR HKs
   unfold Cj at HKs
   simp only at HKs HR
   have hcl':c.length<=5864062014805:=by omega
   by_cases h2:kd=2
   ·subst h2
    have HR':Hid (R=.ok c):=HR.out
    go_in
    go_wp2_with fail
    go_region_with (go_at_call 217;refine (HKs.out _ (by first | exact ae _ _ | exact (ae _ _).drew | exact Below.drewN' (ae _ _))).mono ?_;rintro e w1 ⟨⟨pl,rfl⟩,hb1⟩;have c3:w1.cell? ⟨w.heap.size,3,none⟩=some (.slice ca c.length cc):=af hb1 (by go_simp);have HB1:Hid (Below w.heap.size w w1):=(by first | exact (ae w _).trans (hb1.mono (by simp)) | exact ((ae w _).drew).trans (hb1.mono (by simp)) | exact (Below.drewN' (ae w _)).trans (hb1.mono (by simp)));have hwl:w.heap.size<w1.heap.size:=bL c3;clear hb1)
    all_goals
     go_wp2_with fail
     refine (lS ca c cc _ (HC.out.later (by first | exact HB1.out | exact HB1.out.drew | exact Below.drewN' HB1.out)) hcl').mono ?_
     rintro e w2 ⟨a',c',rfl,hO,hb2⟩
     have HO:Hid (OC w2 _ (.slice a' c.length c') c):=hO
     have HB2:=jg ((by first | exact HB1.out.trans (hb2.mono HB1.out.size) | exact (HB1.out.drew).trans (hb2.mono (HB1.out.drew).size) | exact (Below.drewN' HB1.out).trans (hb2.mono (Below.drewN' HB1.out).size)))
     go_wp2_with fail
     go_ret2
     rw [HR'.out]
     obtain ⟨a2,c2,e2,hcc,-⟩:=OC.form HO.out
     cases e2
     exact fb (by first | exact HB2.out | exact HB2.out.drew) rfl hcc (uw.of HO.out (by first | exact HB1.out.size | exact HB1.out.drew.size | exact (Below.drewN' HB1.out).size))
   ·have h2b:(kd != 2)=true:=by simp [h2]
    have HR':Hid (R=.error 3):=by show R=.error 3;have:=HR.out;simpa [h2] using this
    go_in
    go_wp2_with fail
    go_region_with (go_at_call 217;refine (HKs.out _ (by first | exact ae _ _ | exact (ae _ _).drew | exact Below.drewN' (ae _ _))).mono ?_;rintro e w1 ⟨⟨pl,rfl⟩,hb1⟩;have HB1:Hid (Below w.heap.size w w1):=(by first | exact (ae w _).trans (hb1.mono (by simp)) | exact ((ae w _).drew).trans (hb1.mono (by simp)) | exact (Below.drewN' (ae w _)).trans (hb1.mono (by simp))))
    all_goals
     go_wp2_with fail
     go_ret2
     rw [HR'.out]
     exact aZ (by first | exact HB1.out | exact HB1.out.drew | exact Below.drewN' HB1.out) rfl
 ·have h1i:((ex.length:Int) != 1)=true:=by simp;omega
  have HR:Hid (gO ck ⟨k,ex,nm,c,r,ks,os,wk,ws,wt,ag,ou⟩=.error 4):=by
   unfold Hid gO
   simp only
   split
   all_goals first | rfl | exact absurd rfl h1
  go_in
  go_wp2_with fail
  go_ret2
  rw [HR.out]
  exact aZ (ae _ _) rfl
end Oo
namespace Oo
open Go.RowKit
theorem vh {n:Nat} (h:256<=n):Builtin.nextslicecap (n+1) n<=n+(n+768) / 4:=by
 unfold Builtin.nextslicecap
 split
 ·omega
 ·split
  ·omega
  ·rw [growBy_four]
   repeat' split
   all_goals omega
theorem yq (w:World) (ty:TypeId) (i:TypeInfo) (hi:Tryz.prog.info? 95=some i) (hz:i.zero=some (.agg #[.string ⟨#[]⟩,.int .i64 0])) (hs:i.size=2) (hb:i.bytes=24) (B:Nat) (v:Value) (s:List Co) (hown:OC w B v s) (ad:Addr) (c:Nat) (x:Co)
 (hx:∀ j u,(aR x)[j]?=some u->w.cell? (ad.add j)=some u) (hm:s.length<=8796093022220) (hB:B<=w.heap.size) :
 ∃ v' w',(Builtin.append_ #[54,54] ty #[v,.slice (some ad) 1 c]).run Tryz.prog w=.ok v' w'/\OC w' B v' (s++[x])/\w.grownBy w' v.ownBlock:=by
 have hfl:(s++[x]).flatMap aR=s.flatMap aR++aR x:=by simp
 have hln:(s++[x]).length=s.length+1:=by simp
 by_cases hsm:(s.length+1)*24<=140737488355328
 ·obtain ⟨v',w',h1,h2,h3,_⟩:=run_append_own (P:=Tryz.prog) w B 54 ty 95 i (.agg #[.string ⟨#[]⟩,.int .i64 0]) 2 24 Tryz.underlying54 hi hz hs hb rfl (by decide) v s.length (s.flatMap aR) hown ad 1 c (aR x) rfl hx (gW x) (by unfold maxLen;omega) hsm hB
  exact ⟨v',w',h1,by unfold OC;rw [hfl,hln];exact h2,h3⟩
 ·rcases hown.2 with ⟨-,h0⟩ | ⟨g,cap,cur,rfl,hbg,hg,hnc,hcm,hcs,htake⟩
  ·omega
  ·by_cases hroom:s.length+1<=cap
   ·obtain ⟨w',h1,h2,h3⟩:=run_append_fits (P:=Tryz.prog) w B 54 ty 95 i 2 Tryz.underlying54 hi hs g s.length cap (s.flatMap aR) hown ad 1 c (aR x) rfl hx (gW x) hroom
    exact ⟨_,w',h1,by unfold OC;rw [hfl,hln];exact h2,h3⟩
   ·have hcap:cap=s.length:=by omega
    subst hcap
    have hfit:Builtin.nextslicecap (s.length+1) s.length*i.bytes<=281474976710656:=by
     have:=vh (n:=s.length) (by omega)
     rw [hb]
     omega
    have hr:=run_append_grow (P:=Tryz.prog) w 54 ty 95 i (.agg #[.string ⟨#[]⟩,.int .i64 0]) Tryz.underlying54 hi hz ⟨g,0,none⟩ s.length s.length (s.flatMap aR) (by rw [hs];exact dB s) (World.ownsRow.cells hown (g:=g) rfl) ad 1 c (aR x) (by rw [hs];rfl) hx (by omega) (by omega) hfit
    refine ⟨_,_,hr,?_,⟨rfl,rfl,rfl,by simp,fun k hk _=>heap_alloc_old w.drew _ hk⟩⟩
    have hge:=grownCap_ge w (s.length+1) s.length 95
    have hgm:=grownCap_le_maxLen w (s.length+1) s.length 95 (by unfold maxLen;omega)
    have hl2:(s.flatMap aR++aR x).length=(s.length+1)*2:=by rw [List.length_append,dB];show _+2=_;omega
    unfold OC
    rw [hfl,hln]
    refine ⟨hl2,.inr ⟨w.heap.size,_,_,rfl,hB,heap_alloc_new w.drew _,hge,hgm,?_,?_⟩⟩
    ·rw [Array.size_append,Array.size_append,size_zeroCells,List.size_toArray,List.size_toArray,dB]
     show s.length*2+2+_*2=_
     omega
    ·rw [Array.toList_append,Array.toList_append,List.toList_toArray,List.toList_toArray,<-hl2]
     exact List.take_left
theorem sQ {w:World} {ops:Array Oper} {rest:List Oper} {o:Oper} {ac:Act} {Q:Exit->Act->World->Prop} (hgd:o.guard=none) (sx x:Operand) (ho:o.op=.call { callee:=.builtin .append,args:=#[sx,x],argTypes:=#[54,54] })
 (B:Nat) (v:Value) (s:List Co) (y:Co) (a:Nat) (c:Nat) (hs:ac.eval sx=v) (hown:OC w B v s) (hx:ac.eval x=.slice (some ⟨a,0,none⟩) 1 c) (hl:ap w (some ⟨a,0,none⟩) [y]) (hm:s.length<=8796093022220) (hB:B<=w.heap.size)
 (h:∀ v' w',OC w' B v' (s++[y])->w.grownBy w' v.ownBlock->wpList Tryz.prog ops Q rest (ac.put o.dst v') w'):wpList Tryz.prog ops Q (o::rest) ac w:=by
 obtain ⟨i0,hi0,hz0,hz1,hz2⟩:=info_parts uF
 have hcl:∀ j u,(aR y)[j]?=some u->w.cell? ((⟨a,0,none⟩:Addr).add j)=some u:=by
  intro j u hj
  rw [WideShapes.add_plain]
  exact kI hl j u (by simpa using hj)
 obtain ⟨v',w',hr,h1,h2⟩:=yq w o.type i0 hi0 hz0 hz1 hz2 B v s hown ⟨a,0,none⟩ c y hcl hm hB
 refine wpList_plain hgd fun K hK=>?_
 unfold Oper.wp execOp
 simp only [ho,resolve,invoke,builtin,Sem.run_bind,Sem.run_pure,Result.andThen_ok,List.map_toArray,List.map_cons,List.map_nil,hs,hx,hr]
 exact hK _ _ (h v' w' h1 h2)
attribute [local go_sem ↓] kW qX
attribute [local go_sem] iC
theorem oE (w:World) (x:Co):ap (w.alloc (.cells #[.string x.nm,.int .i64 x.k] 95)) (some ⟨w.heap.size,0,none⟩) [x]:=by
 intro i hi
 have h0:i=0:=by simpa using hi
 subst h0
 have h1:=aD.new w 95 2 #[.string x.nm,.int .i64 x.k] rfl
 exact ⟨_,0,rfl,h1.cell 0 (by decide),h1.cell 1 (by decide)⟩
theorem Af (ck:ByteArray->Except Nat Int) (o:eJ) (p:mY) (w:World) (hs:iv o) (hat:iw w o p) (hck:om w o.c ck) :
 Calls Tryz.prog 190 #[.agg (cO o p)] w (jM w (nj ck o)):=by
 have HC:=aU hat.c
 have HE:=aU hat.e
 have HN:=aU hat.n
 have HK:=aU hck
 have hel:=hs.e
 clear hck hs hat
 obtain ⟨k,ex,nm,c,r,ks,os,wk,ws,wt,ag,ou⟩:=o
 obtain ⟨ea,ec,na,nc,ca,cc,ra,rc,ka,kc,oa,oc,ga,gc⟩:=p
 unfold cO
 simp only at *
 by_cases hl:nm.length=ex.length
 ·have hlb:((nm.length:Int) != (ex.length:Int))=false:=by simp [hl]
  have HLL:=aU hl
  have HR:Hid (nj ck ⟨k,ex,nm,c,r,ks,os,wk,ws,wt,ag,ou⟩=dX (fun q=>bm (ck q.1) q.2) (ex.zip nm)):=by unfold Hid nj;rw [if_pos hl]
  generalize nj ck ⟨k,ex,nm,c,r,ks,os,wk,ws,wt,ag,ou⟩=R at *
  have hzl:(ex.zip nm).length=ex.length:=by rw [List.length_zip];omega
  have HZL:=aU hzl
  clear hl hzl
  obtain ⟨W1,hW1⟩:∃ W1,W1=w.alloc (.cells #[.int .i64 k,.slice ea ex.length ec,.slice na nm.length nc,.slice ca c.length cc,.slice ra r.length rc,.slice ka ks.length kc,.slice oa os.length oc,.int .i64 wk,.int .i64 ws,.int .i64 wt,.slice ga ag.length gc,.bool ou] 59):=⟨_,rfl⟩
  have HW:Hid (Below w.heap.size w W1):=by rw [hW1];exact ae _ _
  have H3:Hid (W1.cell? ⟨w.heap.size,3,none⟩=some (.slice ca c.length cc)):=by rw [hW1];show _=_;go_simp
  have H2:Hid (W1.cell? ⟨w.heap.size,2,none⟩=some (.slice na nm.length nc)):=by rw [hW1];show _=_;go_simp
  go_in
  go_wp2_with fail
  rw [<-hW1]
  go_loopw [4,21] (fun v i w'=>∃ (j:Nat) (acc:List Co),j<=ex.length/\i=.int .i64 j/\OC w' W1.heap.size v acc/\dX (fun q=>bm (ck q.1) q.2) ((ex.zip nm).take j)=.ok acc/\Below W1.heap.size W1 w') (fun _ i _=>ex.length-(intOf i).toNat)
  case atStart=>exact ⟨0,[],Nat.zero_le _,rfl,OC.nil _ _,rfl,bR⟩
  case round=>
   obtain ⟨j,acc,hj,rfl,hO,hmp,hb⟩:=hrel
   have HO:=aU hO
   have HB:=aU hb
   have HM:=aU hmp
   have HBw:=jg (HW.out.trans (hb.mono HW.out.size))
   clear hO hb hmp hW1
   by_cases hlt:j<ex.length
   ·have hji:(j:Int)<(ex.length:Int):=by omega
    have hjn:j<nm.length:=by have:=HLL.out;omega
    have hjni:(j:Int)<(nm.length:Int):=by omega
    obtain ⟨b,off,rfl,e1⟩:=(HE.out.later HBw.out) j hlt
    obtain ⟨b',off',rfl,e2⟩:=(HN.out.later HBw.out) j hjn
    have hjz:j<(ex.zip nm).length:=by rw [HZL.out];exact hlt
    have hge:(ex.zip nm)[j]=(ex[j],nm[j]):=List.getElem_zip
    obtain ⟨s,hsd⟩:∃ s,s=ex[j]:=⟨_,rfl⟩
    obtain ⟨nn,hnd⟩:∃ nn,nn=nm[j]:=⟨_,rfl⟩
    rw [<-hsd] at e1
    rw [<-hnd] at e2
    have HF:Hid ((fun q:ByteArray × ByteArray=>bm (ck q.1) q.2) (ex.zip nm)[j]=bm (ck s) nn):=by unfold Hid;rw [hge,hsd,hnd]
    have c3:=af HB.out H3.out
    have HKs:Hid (∀ W,Below w.heap.size w W->Calls Tryz.prog 217 #[.string s,.slice ca c.length cc] W fun e w'=>(∃ pl,e=.returned (Cj pl (ck s)))/\Below W.heap.size W w'):=fun W hW=>HK.out s W ca cc hW (HC.out.later hW)
    have hbl:=bL e1
    have hwl:=bL c3
    clear hsd hnd hge
    cases hks:ck s with
    | error n=>
     rw [hks] at HF HKs
     have HR':Hid (R=.error n):=by
      show R=.error n
      rw [HR.out]
      exact nZ HM.out hjz HF.out
     unfold Cj at HKs
     simp only at HKs
     clear hks e2
     go_wp2_with fail
     refine (HKs.out _ HBw.out).mono ?_
     rintro e w1 ⟨⟨pl,rfl⟩,hb1⟩
     have HB1:=jg (HBw.out.trans (hb1.mono HBw.out.size))
     clear hb1
     go_wp2_with fail
     go_ret2
     rw [HR'.out]
     exact aZ HB1.out rfl
    | ok kd=>
     rw [hks] at HF HKs
     have HM':=jg (nE HM.out hjz HF.out)
     have hal:acc.length=j:=by
      have:=iM _ _ _ HM.out
      rw [List.length_take] at this
      have:=HZL.out
      omega
     unfold Cj at HKs
     simp only at HKs
     clear hks
     go_wp2_with fail
     refine (HKs.out _ HBw.out).mono ?_
     rintro e w1 ⟨⟨pl,rfl⟩,hb1⟩
     have HB1:=jg (HB.out.trans (hb1.mono HB.out.size))
     have e2':=af hb1 e2
     have c2':=af HB1.out H2.out
     have HO1:=aU (OC.later HO.out hb1)
     have hbl':=bL e2'
     have hwl1:=bL c2'
     clear hb1 e2 e1 c3 HKs HB HO hbl
     go_wp2_with (at_builtin;refine sQ rfl _ _ rfl W1.heap.size u4 acc ⟨nn,kd⟩ w1.heap.size 1 rfl (OC.later HO1.out (ae _ _)) rfl (oE w1 ⟨nn,kd⟩) (by omega) (Nat.le_trans HB1.out.size (by simp)) ?_)
     intro v' w2 hO2 hg2
     have HO2:=aU hO2
     have HB2:=jg ((HB1.out.trans ((ae w1 _).mono HB1.out.size)).grown hg2 (Nat.le_trans HB1.out.size (by simp)) (fun q hq=>(World.ownsRow.lt HO1.out q hq).1))
     clear hO2 hg2
     go_wp2_with fail
     exact ⟨⟨j+1,acc++[⟨nn,kd⟩],by omega,by go_num,HO2.out,HM'.out,HB2.out⟩,by simp [intOf];omega⟩
   ·obtain rfl:j=ex.length:=by omega
    have hnl:¬ (ex.length:Int)<(ex.length:Int):=by omega
    have HR':Hid (R=.ok acc):=by
     show R=.ok acc
     rw [HR.out]
     have:=HM.out
     rw [List.take_of_length_le (by rw [HZL.out];exact lR)] at this
     exact this
    clear hlt hj
    go_wp2_with fail
    obtain ⟨a2,c2,e2,hcc,-⟩:=OC.form HO.out
    cases e2
    go_ret2
    rw [HR'.out]
    exact fb HBw.out rfl hcc (uw.of HO.out HW.out.size)
 ·have hlb:((nm.length:Int) != (ex.length:Int))=true:=by simp;omega
  have HR:Hid (nj ck ⟨k,ex,nm,c,r,ks,os,wk,ws,wt,ag,ou⟩=.error 4):=by unfold Hid nj;rw [if_neg hl]
  clear HK HE HC HN
  go_in
  go_wp2_with fail
  go_ret2
  rw [HR.out]
  exact aZ (ae _ _) rfl
end Oo
namespace Oo
open Go.RowKit
attribute [local go_sem ↓] kW qX
attribute [local go_sem] iC
theorem i8 {l:List Int} {m:Nat} (h:cI l m=true):l.length<=8/\∀ j (hj:j<l.length),ei l[j] m=true:=by
 unfold cI at h
 rw [Bool.and_eq_true] at h
 refine ⟨of_decide_eq_true h.2,fun j hj=>?_⟩
 exact List.all_eq_true.1 h.1 _ (List.getElem_mem hj)
theorem jF (o:eJ) (p:mY) (w:World) (hs:iv o) (hat:iw w o p) :
 Calls Tryz.prog 191 #[.agg (cO o p)] w (jM w (ef o)):=by
 have HC:=aU hat.c
 have HI:=aU hat.k
 have HN:=aU hat.n
 have HG:=aU hat.g
 have hcl:=hs.c
 have hkl:=hs.k
 have hgl:=hs.g
 have HWF:=aU hs.ws
 clear hs hat
 obtain ⟨k,ex,nm,c,r,ks,os,wk,ws,wt,ag,ou⟩:=o
 obtain ⟨ea,ec,na,nc,ca,cc,ra,rc,ka,kc,oa,oc,ga,gc⟩:=p
 unfold cO
 simp only at *
 obtain ⟨R,hR⟩:∃ R,R=ef ⟨k,ex,nm,c,r,ks,os,wk,ws,wt,ag,ou⟩:=⟨_,rfl⟩
 have HR0:=aU hR
 rw [<-hR]
 clear hR
 obtain ⟨W1,hW1⟩:∃ W1,W1=w.alloc (.cells #[.int .i64 k,.slice ea ex.length ec,.slice na nm.length nc,.slice ca c.length cc,.slice ra r.length rc,.slice ka ks.length kc,.slice oa os.length oc,.int .i64 wk,.int .i64 ws,.int .i64 wt,.slice ga ag.length gc,.bool ou] 59):=⟨_,rfl⟩
 have HW:Hid (Below w.heap.size w W1):=by rw [hW1];exact ae _ _
 have H2:Hid (W1.cell? ⟨w.heap.size,2,none⟩=some (.slice na nm.length nc)):=by rw [hW1];show _=_;go_simp
 have H3:Hid (W1.cell? ⟨w.heap.size,3,none⟩=some (.slice ca c.length cc)):=by rw [hW1];show _=_;go_simp
 have H5:Hid (W1.cell? ⟨w.heap.size,5,none⟩=some (.slice ka ks.length kc)):=by rw [hW1];show _=_;go_simp
 have H7:Hid (W1.cell? ⟨w.heap.size,7,none⟩=some (.int .i64 wk)):=by rw [hW1];show _=_;go_simp
 have H8:Hid (W1.cell? ⟨w.heap.size,8,none⟩=some (.int .i64 ws)):=by rw [hW1];show _=_;go_simp
 have H9:Hid (W1.cell? ⟨w.heap.size,9,none⟩=some (.int .i64 wt)):=by rw [hW1];show _=_;go_simp
 have H10:Hid (W1.cell? ⟨w.heap.size,10,none⟩=some (.slice ga ag.length gc)):=by rw [hW1];show _=_;go_simp
 have HPL:Hid (∀ W,Below w.heap.size w W->Calls Tryz.prog 218 #[.slice ka ks.length kc,.slice ca c.length cc] W fun e w'=>e=.returned (.bool (cI ks c.length))/\Below W.heap.size W w'):=fun W hW=>jJ ks ka kc ca c.length cc W (by omega) hkl (HI.out.later hW)
 have HWV:Hid (∀ W,Calls Tryz.prog 219 #[.agg #[.int .i64 wk,.int .i64 ws,.int .i64 wt]] W fun e w'=>e=.returned (.bool (Wn.validB wk ws wt))/\Below W.heap.size W w'):=fun W=>Wn.valid_any wk ws wt HWF.out W
 have hW1l:=bL H2.out
 cases hP:cI ks c.length with
 | false=>
  have HR:Hid (R=.error 4):=by show R=.error 4;rw [HR0.out];unfold ef;rw [if_neg];simp [hP]
  rw [hP] at HPL
  go_in
  go_wp2_with fail
  rw [<-hW1]
  refine (HPL.out _ HW.out).mono ?_
  rintro e w1 ⟨rfl,hb1⟩
  have HB1:=jg (HW.out.trans (hb1.mono HW.out.size))
  clear hb1
  go_wp2_with fail
  go_ret2
  rw [HR.out]
  exact aZ HB1.out rfl
 | true=>
  rw [hP] at HPL
  cases hV:Wn.validB wk ws wt with
  | false=>
   have HR:Hid (R=.error 4):=by show R=.error 4;rw [HR0.out];unfold ef pY;rw [if_neg];simp [hV]
   rw [hV] at HWV
   go_in
   go_wp2_with fail
   rw [<-hW1]
   refine (HPL.out _ HW.out).mono ?_
   rintro e w1 ⟨rfl,hb1⟩
   have HB1:=jg (HW.out.trans (hb1.mono HW.out.size))
   have c7:=af hb1 H7.out
   have c8:=af hb1 H8.out
   have c9:=af hb1 H9.out
   have hwl:=bL c7
   clear hb1
   go_wp2_with fail
   refine (HWV.out _).mono ?_
   rintro e w2 ⟨rfl,hb2⟩
   have HB2:=jg (HB1.out.trans (hb2.mono HB1.out.size))
   clear hb2
   go_wp2_with fail
   go_ret2
   rw [HR.out]
   exact aZ HB2.out rfl
  | true=>
   rw [hV] at HWV
   by_cases hl:nm.length=ag.length
   ·have hlb:((nm.length:Int) != (ag.length:Int))=false:=by simp [hl]
    have HPA:=aU (i8 hP)
    have HR:Hid (R=match dX (fun q=>bm (cV c q.1) q.2) (ag.zip nm) with
     | .error n=>.error n
     | .ok l=>.ok (ks.map (bX c)++l)):=by show R=_;rw [HR0.out];unfold ef pY;rw [if_pos ⟨hP,hV,hl⟩];rfl
    have hzl:(ag.zip nm).length=ag.length:=by rw [List.length_zip];omega
    have HZL:=aU hzl
    have HLL:=aU hl
    clear hl hzl HR0 hP hV
    go_in
    go_wp2_with fail
    rw [<-hW1]
    refine (HPL.out _ HW.out).mono ?_
    rintro e w1 ⟨rfl,hb1⟩
    have HB1:=jg hb1
    have c7:=af hb1 H7.out
    have c8:=af hb1 H8.out
    have c9:=af hb1 H9.out
    have hwl:=bL c7
    clear hb1
    go_wp2_with fail
    refine (HWV.out _).mono ?_
    rintro e w2 ⟨rfl,hb2⟩
    have HB2:=jg (HB1.out.trans (hb2.mono HB1.out.size))
    have d2:=af HB2.out H2.out
    have d5:=af HB2.out H5.out
    have d10:=af HB2.out H10.out
    have hwl2:=bL d2
    clear hb2 HPL HWV c7 c8 c9 H7 H8 H9 HB1
    go_wp2_with fail
    go_loopw [4,36] (fun v i w'=>∃ (j:Nat),j<=ks.length/\i=.int .i64 j/\OC w' W1.heap.size v ((ks.take j).map (bX c))/\Below W1.heap.size W1 w') (fun _ i _=>ks.length-(intOf i).toNat)
    case atStart=>exact ⟨0,Nat.zero_le _,rfl,OC.nil _ _,HB2.out⟩
    case round=>
     obtain ⟨j,hj,rfl,hO,hb⟩:=hrel
     have HO:=aU hO
     have HB:=aU hb
     have HBw:=jg (HW.out.trans (hb.mono HW.out.size))
     clear hO hb hW1 d2 d5 d10 HB2
     by_cases hlt:j<ks.length
     ·have hji:(j:Int)<(ks.length:Int):=by omega
      obtain ⟨t,ht,htl⟩:=jS (HPA.out.2 j hlt)
      have hti:(t:Int)<(c.length:Int):=by omega
      obtain ⟨b,off,rfl,e1⟩:=(HI.out.later HBw.out) j hlt
      rw [ht] at e1
      obtain ⟨b',off',rfl,f1,f2⟩:=(HC.out.later HBw.out) t htl
      have HNX:Hid ((ks.take (j+1)).map (bX c)=(ks.take j).map (bX c)++[c[t]]):=by
       show _=_
       rw [List.take_succ_eq_append_getElem hlt,List.map_append,List.map_cons,List.map_nil,ht,ki c t htl]
      obtain ⟨x,hx⟩:∃ x,x=c[t]:=⟨_,rfl⟩
      rw [<-hx] at f1 f2 HNX
      obtain ⟨xn,xk⟩:=x
      simp only at f1 f2
      have c3:=af HB.out H3.out
      have hwl3:=bL c3
      have hbl:=bL e1
      have hbl':=bL f1
      have hl8:((ks.take j).map (bX c)).length<=8:=by rw [List.length_map,List.length_take];have:=HPA.out.1;omega
      clear hx ht
      go_wp2_with (at_builtin;refine sQ rfl _ _ rfl W1.heap.size u4 ((ks.take j).map (bX c)) ⟨xn,xk⟩ wr.heap.size 1 rfl (OC.later HO.out (ae _ _)) rfl (oE wr ⟨xn,xk⟩) (by omega) (Nat.le_trans HB.out.size (by simp)) ?_)
      intro v' w3 hO2 hg2
      have HO2:Hid (OC w3 W1.heap.size v' ((ks.take (j+1)).map (bX c))):=by
       show OC w3 W1.heap.size v' ((ks.take (j+1)).map (bX c))
       rw [HNX.out]
       first | exact hO2 | (rw [List.map_take];exact hO2)
      have HB3:=jg ((HB.out.trans ((ae wr _).mono HB.out.size)).grown hg2 (Nat.le_trans HB.out.size (by simp)) (fun q hq=>(World.ownsRow.lt HO.out q hq).1))
      clear hO2 hg2
      go_wp2_with fail
      exact ⟨⟨j+1,by omega,by go_num,HO2.out,HB3.out⟩,by simp [intOf];omega⟩
     ·obtain rfl:j=ks.length:=by omega
      have hnl:¬ (ks.length:Int)<(ks.length:Int):=by omega
      have HO':Hid (OC wr W1.heap.size u4 (ks.map (bX c)++[])):=by
       have:=HO.out
       rw [List.take_length] at this
       rw [List.append_nil]
       exact this
      have d10:=af HB.out H10.out
      have hwl3:=bL d10
      clear hlt hj HO
      go_wp2_with fail
      go_loopw [4,52] (fun v i w'=>∃ (j:Nat) (acc:List Co),j<=ag.length/\i=.int .i64 j/\OC w' W1.heap.size v (ks.map (bX c)++acc)/\dX (fun q=>bm (cV c q.1) q.2) ((ag.zip nm).take j)=.ok acc/\Below W1.heap.size W1 w') (fun _ i _=>ag.length-(intOf i).toNat)
      case atStart=>exact ⟨0,[],Nat.zero_le _,rfl,HO'.out,rfl,HB.out⟩
      case round=>
       clear HO' HB HBw d10 hwl3 hnl hwl hwl2
       obtain ⟨j,acc,hj,rfl,hO,hmp,hb⟩:=hrel
       have HO:=aU hO
       have HB:=aU hb
       have HM:=aU hmp
       have HBw:=jg (HW.out.trans (hb.mono HW.out.size))
       clear hO hb hmp
       by_cases hlt:j<ag.length
       ·have hji:(j:Int)<(ag.length:Int):=by omega
        have hjn:j<nm.length:=by have:=HLL.out;omega
        have hjni:(j:Int)<(nm.length:Int):=by omega
        obtain ⟨b,off,rfl,e1,e1'⟩:=(HG.out.later HBw.out) j hlt
        obtain ⟨b',off',rfl,e2⟩:=(HN.out.later HBw.out) j hjn
        have hjz:j<(ag.zip nm).length:=by rw [HZL.out];exact hlt
        have hge:(ag.zip nm)[j]=(ag[j],nm[j]):=List.getElem_zip
        obtain ⟨x,hsd⟩:∃ x,x=ag[j]:=⟨_,rfl⟩
        obtain ⟨nn,hnd⟩:∃ nn,nn=nm[j]:=⟨_,rfl⟩
        rw [<-hsd] at e1 e1'
        rw [<-hnd] at e2
        have HF:Hid ((fun q:Ag × ByteArray=>bm (cV c q.1) q.2) (ag.zip nm)[j]=bm (cV c x) nn):=by unfold Hid;rw [hge,hsd,hnd]
        have HFK:Hid (∀ W,Below w.heap.size w W->Calls Tryz.prog 220 #[.agg #[.int .i64 x.k,.int .i64 x.at_],.slice ca c.length cc] W fun e w'=>e=.returned (lC (cV c x))/\Below W.heap.size W w'):=fun W hW=>tG x c ca cc W hcl (HC.out.later hW)
        have c3:=af HB.out H3.out
        have hbl:=bL e1
        have hwl:=bL c3
        have hal:acc.length=j:=by
         have:=iM _ _ _ HM.out
         rw [List.length_take] at this
         have:=HZL.out
         omega
        obtain ⟨xk,xa⟩:=x
        simp only at e1 e1' HFK
        clear hsd hnd hge
        have HA:Hid (Below w.heap.size w (wr.alloc (.cells #[.int .i64 xk,.int .i64 xa] 168))):=HBw.out.trans ((ae wr _).mono HBw.out.size)
        have HA1:Hid (Below W1.heap.size W1 (wr.alloc (.cells #[.int .i64 xk,.int .i64 xa] 168))):=HB.out.trans ((ae wr _).mono HB.out.size)
        cases hfk:cV c ⟨xk,xa⟩ with
        | error n=>
         rw [hfk] at HF HFK
         have HR':Hid (R=.error n):=by
          show R=.error n
          rw [HR.out,nZ HM.out hjz HF.out]
         unfold lC at HFK
         simp only at HFK
         clear hfk e2
         go_wp2_with fail
         refine (HFK.out _ HA.out).mono ?_
         rintro e w3 ⟨rfl,hb3⟩
         have HB3:=jg (HA.out.trans (hb3.mono HA.out.size))
         clear hb3
         go_wp2_with fail
         go_ret2
         rw [HR'.out]
         exact aZ HB3.out rfl
        | ok kd=>
         rw [hfk] at HF HFK
         have HM':=jg (nE HM.out hjz HF.out)
         unfold lC at HFK
         simp only at HFK
         have hl8:(ks.map (bX c)++acc).length<=8796093022220:=by rw [List.length_append,List.length_map];have:=HPA.out.1;omega
         clear hfk
         go_wp2_with fail
         refine (HFK.out _ HA.out).mono ?_
         rintro e w3 ⟨rfl,hb3⟩
         have HB3:=jg (HA1.out.trans (hb3.mono HA1.out.size))
         have e2':=af hb3 (af (ae wr _) e2)
         have c2':=af HB3.out H2.out
         have HO3:=aU (OC.later (OC.later HO.out (ae wr _)) hb3)
         have hbl':=bL e2'
         have hwl3:=bL c2'
         clear hb3 e2 e1 e1' c3 HFK HB HO hbl HA HA1
         go_wp2_with (at_builtin;refine sQ rfl _ _ rfl W1.heap.size u4 (ks.map (bX c)++acc) ⟨nn,kd⟩ w3.heap.size 1 rfl (OC.later HO3.out (ae _ _)) rfl (oE w3 ⟨nn,kd⟩) (by omega) (Nat.le_trans HB3.out.size (by simp)) ?_)
         intro v' w4 hO2 hg2
         have HO2:Hid (OC w4 W1.heap.size v' (ks.map (bX c)++(acc++[⟨nn,kd⟩]))):=by
          show OC w4 W1.heap.size v' (ks.map (bX c)++(acc++[⟨nn,kd⟩]))
          first | exact hO2 | (rw [<-List.append_assoc];exact hO2)
         have HB4:=jg ((HB3.out.trans ((ae w3 _).mono HB3.out.size)).grown hg2 (Nat.le_trans HB3.out.size (by simp)) (fun q hq=>(World.ownsRow.lt HO3.out q hq).1))
         clear hO2 hg2
         go_wp2_with fail
         exact ⟨⟨j+1,acc++[⟨nn,kd⟩],by omega,by go_num,HO2.out,HM'.out,HB4.out⟩,by simp [intOf];omega⟩
       ·obtain rfl:j=ag.length:=by omega
        have hnl:¬ (ag.length:Int)<(ag.length:Int):=by omega
        have HR':Hid (R=.ok (ks.map (bX c)++acc)):=by
         show R=.ok (ks.map (bX c)++acc)
         have h1:=HM.out
         rw [List.take_of_length_le (by rw [HZL.out];exact lR)] at h1
         rw [HR.out,h1]
        clear hlt hj
        go_wp2_with fail
        obtain ⟨a2,c2,e2,hcc,-⟩:=OC.form HO.out
        cases e2
        go_ret2
        rw [HR'.out]
        exact fb HBw.out rfl hcc (uw.of HO.out HW.out.size)
   ·have hlb:((nm.length:Int) != (ag.length:Int))=true:=by simp;omega
    have HR:Hid (R=.error 4):=by show R=.error 4;rw [HR0.out];unfold ef;rw [if_neg];simp [hl]
    go_in
    go_wp2_with fail
    rw [<-hW1]
    refine (HPL.out _ HW.out).mono ?_
    rintro e w1 ⟨rfl,hb1⟩
    have HB1:=jg hb1
    have c7:=af hb1 H7.out
    have c8:=af hb1 H8.out
    have c9:=af hb1 H9.out
    have hwl:=bL c7
    clear hb1
    go_wp2_with fail
    refine (HWV.out _).mono ?_
    rintro e w2 ⟨rfl,hb2⟩
    have HB2:=jg (HB1.out.trans (hb2.mono HB1.out.size))
    have d2:=af HB2.out H2.out
    have d10:=af HB2.out H10.out
    have hwl2:=bL d2
    clear hb2
    go_wp2_with fail
    go_ret2
    rw [HR.out]
    exact aZ (HW.out.trans (HB2.out.mono HW.out.size)) rfl
end Oo
namespace Oo
open Go.RowKit
attribute [local go_sem ↓] kW qX
attribute [local go_sem] iC
theorem tV {B:Nat} {a w:World} {n:Nat} (h:Below B a w):Below B a (w.drewN n):=⟨h.os,h.tape,h.output,h.size,h.block⟩
theorem mo (o:eJ) (p:mY) (w:World) (hs:iv o) (hat:iw w o p) (hc8:o.c.length<=8) (hr8:o.r.length<=8) :
 Calls Tryz.prog 192 #[.agg (cO o p)] w (jM w (iu o)):=by
 have HC:=aU hat.c
 have HD:=aU hat.r
 have HI:=aU hat.k
 have HJ:=aU hat.o
 have hkl:=hs.k
 have hol:=hs.o
 have HWF:=aU hs.ws
 clear hs hat
 obtain ⟨k,ex,nm,c,r,ks,os,wk,ws,wt,ag,ou⟩:=o
 obtain ⟨ea,ec,na,nc,ca,cc,ra,rc,ka,kc,oa,oc,ga,gc⟩:=p
 unfold cO
 simp only at *
 obtain ⟨R,hR⟩:∃ R,R=iu ⟨k,ex,nm,c,r,ks,os,wk,ws,wt,ag,ou⟩:=⟨_,rfl⟩
 have HR0:=aU hR
 rw [<-hR]
 clear hR
 obtain ⟨W1,hW1⟩:∃ W1,W1=w.alloc (.cells #[.int .i64 k,.slice ea ex.length ec,.slice na nm.length nc,.slice ca c.length cc,.slice ra r.length rc,.slice ka ks.length kc,.slice oa os.length oc,.int .i64 wk,.int .i64 ws,.int .i64 wt,.slice ga ag.length gc,.bool ou] 59):=⟨_,rfl⟩
 have HW:Hid (Below w.heap.size w W1):=by rw [hW1];exact ae _ _
 have H3:Hid (W1.cell? ⟨w.heap.size,3,none⟩=some (.slice ca c.length cc)):=by rw [hW1];show _=_;go_simp
 have H4:Hid (W1.cell? ⟨w.heap.size,4,none⟩=some (.slice ra r.length rc)):=by rw [hW1];show _=_;go_simp
 have H5:Hid (W1.cell? ⟨w.heap.size,5,none⟩=some (.slice ka ks.length kc)):=by rw [hW1];show _=_;go_simp
 have H6:Hid (W1.cell? ⟨w.heap.size,6,none⟩=some (.slice oa os.length oc)):=by rw [hW1];show _=_;go_simp
 have H7:Hid (W1.cell? ⟨w.heap.size,7,none⟩=some (.int .i64 wk)):=by rw [hW1];show _=_;go_simp
 have H8:Hid (W1.cell? ⟨w.heap.size,8,none⟩=some (.int .i64 ws)):=by rw [hW1];show _=_;go_simp
 have H9:Hid (W1.cell? ⟨w.heap.size,9,none⟩=some (.int .i64 wt)):=by rw [hW1];show _=_;go_simp
 have HPL:Hid (∀ W,Below w.heap.size w W->Calls Tryz.prog 218 #[.slice ka ks.length kc,.slice ca c.length cc] W fun e w'=>e=.returned (.bool (cI ks c.length))/\Below W.heap.size W w'):=fun W hW=>jJ ks ka kc ca c.length cc W (by omega) hkl (HI.out.later hW)
 have HPR:Hid (∀ W,Below w.heap.size w W->Calls Tryz.prog 218 #[.slice oa os.length oc,.slice ra r.length rc] W fun e w'=>e=.returned (.bool (cI os r.length))/\Below W.heap.size W w'):=fun W hW=>jJ os oa oc ra r.length rc W (by omega) hol (HJ.out.later hW)
 have HWV:Hid (∀ W,Calls Tryz.prog 219 #[.agg #[.int .i64 wk,.int .i64 ws,.int .i64 wt]] W fun e w'=>e=.returned (.bool (Wn.validB wk ws wt))/\Below W.heap.size W w'):=fun W=>Wn.valid_any wk ws wt HWF.out W
 have hW1l:=bL H3.out
 cases hP:cI ks c.length with
 | false=>
  have HR:Hid (R=.error 4):=by show R=.error 4;rw [HR0.out];unfold iu;rw [if_neg];simp [hP]
  rw [hP] at HPL
  go_in
  go_wp2_with fail
  rw [<-hW1]
  refine (HPL.out _ HW.out).mono ?_
  rintro e w1 ⟨rfl,hb1⟩
  have HB1:=jg (HW.out.trans (hb1.mono HW.out.size))
  clear hb1
  go_wp2_with fail
  go_ret2
  rw [HR.out]
  exact aZ HB1.out rfl
 | true=>
  rw [hP] at HPL
  cases hQ:cI os r.length with
  | false=>
   have HR:Hid (R=.error 4):=by show R=.error 4;rw [HR0.out];unfold iu;rw [if_neg];simp [hQ]
   rw [hQ] at HPR
   go_in
   go_wp2_with fail
   rw [<-hW1]
   refine (HPL.out _ HW.out).mono ?_
   rintro e w1 ⟨rfl,hb1⟩
   have HB1:=jg (HW.out.trans (hb1.mono HW.out.size))
   have c4:=af hb1 H4.out
   have c6:=af hb1 H6.out
   have hwl:=bL c4
   clear hb1
   go_wp2_with fail
   refine (HPR.out _ HB1.out).mono ?_
   rintro e w2 ⟨rfl,hb2⟩
   have HB2:=jg (HB1.out.trans (hb2.mono HB1.out.size))
   clear hb2
   go_wp2_with fail
   go_ret2
   rw [HR.out]
   exact aZ HB2.out rfl
  | true=>
   rw [hQ] at HPR
   by_cases hl:ks.length=os.length
   ·have hlb:((ks.length:Int) != (os.length:Int))=false:=by simp [hl]
    cases hV:Wn.validB wk ws wt with
    | false=>
     have HR:Hid (R=.error 4):=by show R=.error 4;rw [HR0.out];unfold iu pY;rw [if_neg];simp [hV]
     rw [hV] at HWV
     clear hl
     go_in
     go_wp2_with fail
     rw [<-hW1]
     refine (HPL.out _ HW.out).mono ?_
     rintro e w1 ⟨rfl,hb1⟩
     have HB1:=jg hb1
     have c4:=af hb1 H4.out
     have c6:=af hb1 H6.out
     have hwl:=bL c4
     clear hb1
     go_wp2_with fail
     refine (HPR.out _ (HW.out.trans (HB1.out.mono HW.out.size))).mono ?_
     rintro e w2 ⟨rfl,hb2⟩
     have HB2:=jg (HB1.out.trans (hb2.mono HB1.out.size))
     have d5:=af HB2.out H5.out
     have d6:=af HB2.out H6.out
     have d7:=af HB2.out H7.out
     have d8:=af HB2.out H8.out
     have d9:=af HB2.out H9.out
     have hwl2:=bL d5
     clear hb2 c4 c6
     go_wp2_with fail
     refine (HWV.out _).mono ?_
     rintro e w3 ⟨rfl,hb3⟩
     have HB3:=jg (HB2.out.trans (hb3.mono HB2.out.size))
     clear hb3
     go_wp2_with fail
     go_ret2
     rw [HR.out]
     exact aZ (HW.out.trans (HB3.out.mono HW.out.size)) rfl
    | true=>
     rw [hV] at HWV
     have HPA:=aU (i8 hP)
     have HQA:=aU (i8 hQ)
     have HR:Hid (R=if sj ⟨k,ex,nm,c,r,ks,os,wk,ws,wt,ag,ou⟩=true then .ok (c++r) else .error 3):=by show R=_;rw [HR0.out];unfold iu pY;rw [if_pos ⟨hP,hQ,hl,hV⟩]
     have HKB:Hid (sj ⟨k,ex,nm,c,r,ks,os,wk,ws,wt,ag,ou⟩=(ks.zip os).all (fun q=>(bX c q.1).k==(bX r q.2).k)):=rfl
     have hzl:(ks.zip os).length=ks.length:=by rw [List.length_zip];omega
     have HZL:=aU hzl
     have HLL:=aU hl
     clear hl hzl HR0 hP hQ hV
     go_in
     go_wp2_with fail
     rw [<-hW1]
     refine (HPL.out _ HW.out).mono ?_
     rintro e w1 ⟨rfl,hb1⟩
     have HB1:=jg hb1
     have c4:=af hb1 H4.out
     have c6:=af hb1 H6.out
     have hwl:=bL c4
     clear hb1
     go_wp2_with fail
     refine (HPR.out _ (HW.out.trans (HB1.out.mono HW.out.size))).mono ?_
     rintro e w2 ⟨rfl,hb2⟩
     have HB2:=jg (HB1.out.trans (hb2.mono HB1.out.size))
     have d5:=af HB2.out H5.out
     have d6:=af HB2.out H6.out
     have d7:=af HB2.out H7.out
     have d8:=af HB2.out H8.out
     have d9:=af HB2.out H9.out
     have hwl2:=bL d5
     clear hb2 c4 c6
     go_wp2_with fail
     refine (HWV.out _).mono ?_
     rintro e w3 ⟨rfl,hb3⟩
     have HB3:=jg (HB2.out.trans (hb3.mono HB2.out.size))
     have f5:=af HB3.out H5.out
     have hwl3:=bL f5
     clear hb3 d5 d6 d7 d8 d9 H7 H8 H9 HB1 HB2 HPL HPR HWV
     go_wp2_with fail
     go_loopw [39] (fun i w'=>∃ (j:Nat),j<=ks.length/\i=.int .i64 j/\((ks.zip os).take j).all (fun q=>(bX c q.1).k==(bX r q.2).k)=true/\Below W1.heap.size W1 w') (fun i _=>ks.length-(intOf i).toNat)
     case atStart=>exact ⟨0,Nat.zero_le _,rfl,rfl,HB3.out⟩
     case round=>
      obtain ⟨j,hj,rfl,hal,hb⟩:=hrel
      have HAL:=aU hal
      have HB:=aU hb
      have HBw:=jg (HW.out.trans (hb.mono HW.out.size))
      have g3:=af hb H3.out
      have g4:=af hb H4.out
      have g6:=af hb H6.out
      have hwlr:=bL g3
      clear hal hb hW1 f5 HB3 hwl hwl2 hwl3
      by_cases hlt:j<ks.length
      ·have hji:(j:Int)<(ks.length:Int):=by omega
       have hjo:j<os.length:=by have:=HLL.out;omega
       have hjoi:(j:Int)<(os.length:Int):=by omega
       obtain ⟨t,ht,htl⟩:=jS (HPA.out.2 j hlt)
       obtain ⟨u,hu,hul⟩:=jS (HQA.out.2 j hjo)
       have hti:(t:Int)<(c.length:Int):=by omega
       have hui:(u:Int)<(r.length:Int):=by omega
       obtain ⟨b1,o1,rfl,e1⟩:=(HI.out.later HBw.out) j hlt
       obtain ⟨b2,o2,rfl,e2⟩:=(HJ.out.later HBw.out) j hjo
       rw [ht] at e1
       rw [hu] at e2
       obtain ⟨b3,o3,rfl,-,e3⟩:=(HC.out.later HBw.out) t htl
       obtain ⟨b4,o4,rfl,-,e4⟩:=(HD.out.later HBw.out) u hul
       have hjz:j<(ks.zip os).length:=by rw [HZL.out];exact hlt
       have hge:(ks.zip os)[j]=(ks[j],os[j]):=List.getElem_zip
       have HF:Hid (((bX c (ks.zip os)[j].1).k==(bX r (ks.zip os)[j].2).k)=(c[t].k==r[u].k)):=by
        show _=_
        simp only [hge,ht,hu,ki c t htl,ki r u hul]
       obtain ⟨x,hx⟩:∃ x,x=c[t].k:=⟨_,rfl⟩
       obtain ⟨y,hy⟩:∃ y,y=r[u].k:=⟨_,rfl⟩
       rw [<-hx] at e3 HF
       rw [<-hy] at e4 HF
       have l1:=bL e1
       have l2:=bL e2
       have l3:=bL e3
       have l4:=bL e4
       clear hx hy ht hu hge
       by_cases hxy:x=y
       ·subst hxy
        have hb:(x != x)=false:=by simp
        have HT:Hid (((ks.zip os).take (j+1)).all (fun q=>(bX c q.1).k==(bX r q.2).k)=true):=by
         rw [Hid,oh _ _ j hjz,HAL.out,HF.out];simp
        go_wp2_with fail
        go_quiet (fail)
        go_wp2_with fail
        exact ⟨⟨j+1,by omega,by go_num,HT.out,by first | exact HB.out | exact HB.out.drew | exact tV HB.out⟩,by simp [intOf];omega⟩
       ·have hb:(x != y)=true:=by simp [hxy]
        have HR':Hid (R=.error 3):=by
         show R=.error 3
         rw [HR.out,HKB.out,mR _ _ j hjz (by rw [HF.out];simp [hxy])]
         rfl
        go_wp2_with fail
        go_quiet (fail)
        go_wp2_with fail
        go_ret2
        rw [HR'.out]
        exact aZ (by first | exact HBw.out | exact HBw.out.drew | exact tV HBw.out) rfl
      ·obtain rfl:j=ks.length:=by omega
       have hnl:¬ (ks.length:Int)<(ks.length:Int):=by omega
       have HR':Hid (R=.ok (c++r)):=by
        show R=.ok (c++r)
        have h1:=HAL.out
        rw [List.take_of_length_le (by rw [HZL.out];exact lR)] at h1
        rw [HR.out,HKB.out,h1]
        rfl
       have HA:Hid (Below w.heap.size w (wr.alloc (.cells #[.slice ca c.length cc,.slice ra r.length rc] 54))):=HBw.out.trans ((ae wr _).mono HBw.out.size)
       have HOn:=aU (aD.new wr 54 2 #[.slice ca c.length cc,.slice ra r.length rc] rfl)
       clear hlt hj
       go_wp2_with fail
       refine (sZ ca ra cc rc c r _ hc8 hr8 (HC.out.later HA.out) (HD.out.later HA.out) wr.heap.size (by simp) (HOn.out.cell 0 (by decide)) (HOn.out.cell 1 (by decide))).mono ?_
       rintro e w4 ⟨v,rfl,hO,hb4⟩
       have HB4:=jg (HA.out.trans (hb4.mono HA.out.size))
       have HO:=aU hO
       clear hO hb4
       go_wp2_with fail
       obtain ⟨a2,c2,rfl,hcc,-⟩:=OC.form HO.out
       go_ret2
       rw [HR'.out]
       exact fb (c:=c2) HB4.out (by simp) hcc (uw.of HO.out HA.out.size)
   ·have hlb:((ks.length:Int) != (os.length:Int))=true:=by simp;omega
    have HR:Hid (R=.error 4):=by show R=.error 4;rw [HR0.out];unfold iu;rw [if_neg];simp [hl]
    go_in
    go_wp2_with fail
    rw [<-hW1]
    refine (HPL.out _ HW.out).mono ?_
    rintro e w1 ⟨rfl,hb1⟩
    have HB1:=jg hb1
    have c4:=af hb1 H4.out
    have c6:=af hb1 H6.out
    have hwl:=bL c4
    clear hb1
    go_wp2_with fail
    refine (HPR.out _ (HW.out.trans (HB1.out.mono HW.out.size))).mono ?_
    rintro e w2 ⟨rfl,hb2⟩
    have HB2:=jg (HB1.out.trans (hb2.mono HB1.out.size))
    have d5:=af HB2.out H5.out
    have d6:=af HB2.out H6.out
    have hwl2:=bL d5
    clear hb2 c4 c6
    go_wp2_with fail
    go_ret2
    rw [HR.out]
    exact aZ (HW.out.trans (HB2.out.mono HW.out.size)) rfl
end Oo
end Go.Proofs.YtiiliobffnhpmaaGreatDoor
