import Derived.Test.YtiiliobffnhpmaaGreatDoorGbn
set_option linter.all false
set_option maxRecDepth 100000
set_option maxHeartbeats 4000000
namespace Go.Proofs.YtiiliobffnhpmaaGreatDoor.Jp
open Go.RowKit Oo
def Dw (n:Nat) (a:Oo.Ag):Prop:=(1<=a.k/\a.k<=7)/\(a.k≠1->xM n a.at_)
theorem wv (c:List Co) (ca:Option Addr) (cc:Nat) (a:Oo.Ag) (ha:Dw c.length a) (hn:c.length<=4096) (hs:∀ x∈c,x.nm.size<=12) (w:World) (hc:ap w ca c) :
 Calls Tryz.prog 114 #[.agg #[.int .i64 a.k,.int .i64 a.at_],.slice ca c.length cc] w fun e w'=>e=.returned (.string (aS c a))/\Below w.heap.size w w':=by
 obtain ⟨k,i⟩:=a
 obtain ⟨hk,hi⟩:=ha
 simp only at hk hi ⊢
 have HFK:=jg pT
 have HWF:Hid (∀ b W,WM W b dh->Calls Tryz.prog 110 #[.map (some b),.int .i64 k] W fun e w'=>e=.returned (.string (aL dh k))/\Below W.heap.size W w'):=fun b W h=>nG dh b k _ W h (qM hk).1 (qM hk).2 (by decide)
 have hwz:=dT (ws:=dh) (by decide) k
 have HP:Hid (aS c ⟨k,i⟩=aL dh k++⟨#[40]⟩++(if k=1 then eB else dO c i)++⟨#[41]⟩):=rfl
 obtain ⟨OF,HOF⟩:∃ OF,Hid ((if k=1 then eB else dO c i)=OF):=⟨_,rfl⟩
 have hoz:OF.size<=12:=by
  rw [<-HOF.out]
  split
  ·decide
  ·exact dL hs i
 rw [HP.out,HOF.out]
 generalize aL dh k=WD at *
 have j1:(9223372036854775807<WD.size+1)=False:=by simp;omega
 have j2:(9223372036854775807<WD.size+1+OF.size)=False:=by simp;omega
 have j3:(9223372036854775807<WD.size+1+OF.size+1)=False:=by simp;omega
 have HO:=jg (aD.new w 168 2 #[.int .i64 k,.int .i64 i] rfl)
 have HB:=jg (ae w (.cells #[.int .i64 k,.int .i64 i] 168))
 have c0:=HO.out.c 0 rfl
 have c1:=HO.out.c 1 rfl
 have hwl:=HO.out.lt
 have HCL:=jg (hc.later HB.out)
 clear HP hc hs hk
 by_cases h1:k=1
 ·rw [if_pos h1] at HOF
  have hoe:OF=⟨#[]⟩:=HOF.out.symm
  subst hoe
  have h1b:(k != 1)=false:=by simp [h1]
  have j4:(9223372036854775807<WD.size+1+1)=False:=by simp;omega
  clear HOF hi HCL h1
  go_in
  go_upto_region 2 with fail
  generalize w.alloc (.cells #[.int .i64 k,.int .i64 i] 168)=wU at *
  go_upto_region 4 with fail
  have HBz0:Hid (Below wU.heap.size wU wU.drew):=aA
  refine Go.wp_region_held (S:=fun W=>Below wU.heap.size wU W) (by kernel_rfl) ?_
  change Go.wpAnyH _ _ _ _ _ _ _ _ (World.drew _)
  refine tk 1 (.pointer (some ⟨w.heap.size,0,none⟩)) rfl (by kernel_rfl) (by rfl) (fun _ _ _ h=>h) HBz0.out (fun W hW=>?_) ?_
  ·have hwl2:=lL hwl hW.size
   go_simp
  refine tk 2 (.int .i64 k) rfl (by kernel_rfl) (by rfl) (fun _ _ _ h=>h) HBz0.out (fun W hW=>?_) ?_
  ·have d:=af hW c0
   go_simp
  refine tk 5 (.string ⟨#[]⟩) rfl (by kernel_rfl) (by rfl) (fun _ _ _ h=>h) HBz0.out (fun W hW=>?_) ?_
  ·go_simp
  refine bH 0 (by kernel_rfl) rfl (fun K hK=>?_)
  go_simp
  refine (HFK.out _).mono ?_
  rintro e wz1 ⟨rfl,hwm,hb⟩
  have HBz1:=jg (HBz0.out.trans (hb.mono HBz0.out.size))
  have HWM:=jg hwm
  clear hwm
  refine hK _ _ ⟨HBz1.out,?_⟩
  clear hK K hb
  refine bH 3 (by kernel_rfl) rfl (fun K hK=>?_)
  go_simp
  refine (HWF.out _ _ HWM.out).mono ?_
  rintro e wz2 ⟨rfl,hb⟩
  have HBz2:=jg (HBz1.out.trans (hb.mono HBz1.out.size))
  refine hK _ _ ⟨HBz2.out,?_⟩
  clear hK K hb
  refine bH 4 (by kernel_rfl) rfl (fun K hK=>?_)
  go_simp
  refine hK _ _ ⟨HBz2.out,?_⟩
  clear hK K
  refine bH 6 (by kernel_rfl) rfl (fun K hK=>?_)
  go_simp
  refine hK _ _ ⟨HBz2.out,?_⟩
  clear hK K
  refine bH 7 (by kernel_rfl) rfl (fun K hK=>?_)
  go_simp
  refine hK _ _ ⟨HBz2.out,?_⟩
  clear hK K
  refine bH 8 (by kernel_rfl) rfl (fun K hK=>?_)
  go_simp
  refine hK _ _ ⟨HBz2.out,?_⟩
  clear hK K
  refine Go.wpAnyH_done (by kernel_rfl) ?_ _
  go_wp2_with fail
  go_ret
  exact ⟨rfl,HB.out.trans (HBz2.out.mono HB.out.size)⟩
 ·rw [if_neg h1] at HOF
  have h1b:(k != 1)=true:=by simp [h1]
  obtain ⟨j,rfl,hj⟩:=hi h1
  have hji:(j:Int)<(c.length:Int):=by omega
  obtain ⟨b,off,rfl,d0,-⟩:=HCL.out j hj
  have HCN:Hid (dO c (j:Int)=c[j].nm):=by unfold Hid dO;rw [Int.toNat_natCast,List.getElem?_eq_getElem hj];rfl
  have hof:=HCN.out.symm.trans HOF.out
  rw [hof] at d0
  have hbl:=bL d0
  clear HOF hi HCL HCN hof
  go_in
  go_upto_region 2 with fail
  generalize w.alloc (.cells #[.int .i64 k,.int .i64 (j:Int)] 168)=wU at *
  go_upto_region 4 with fail
  have HBz0:Hid (Below wU.heap.size wU wU.drew):=aA
  refine Go.wp_region_held (S:=fun W=>Below wU.heap.size wU W) (by kernel_rfl) ?_
  change Go.wpAnyH _ _ _ _ _ _ _ _ (World.drew _)
  refine tk 1 (.pointer (some ⟨w.heap.size,0,none⟩)) rfl (by kernel_rfl) (by rfl) (fun _ _ _ h=>h) HBz0.out (fun W hW=>?_) ?_
  ·have hwl2:=lL hwl hW.size
   go_simp
  refine tk 2 (.int .i64 k) rfl (by kernel_rfl) (by rfl) (fun _ _ _ h=>h) HBz0.out (fun W hW=>?_) ?_
  ·have d:=af hW c0
   go_simp
  refine tk 5 (.string OF) rfl (by kernel_rfl) (by rfl) (fun _ _ _ h=>h) HBz0.out (fun W hW=>?_) ?_
  ·go_simp
  refine bH 0 (by kernel_rfl) rfl (fun K hK=>?_)
  go_simp
  refine (HFK.out _).mono ?_
  rintro e wz1 ⟨rfl,hwm,hb⟩
  have HBz1:=jg (HBz0.out.trans (hb.mono HBz0.out.size))
  have HWM:=jg hwm
  clear hwm
  refine hK _ _ ⟨HBz1.out,?_⟩
  clear hK K hb
  refine bH 3 (by kernel_rfl) rfl (fun K hK=>?_)
  go_simp
  refine (HWF.out _ _ HWM.out).mono ?_
  rintro e wz2 ⟨rfl,hb⟩
  have HBz2:=jg (HBz1.out.trans (hb.mono HBz1.out.size))
  refine hK _ _ ⟨HBz2.out,?_⟩
  clear hK K hb
  refine bH 4 (by kernel_rfl) rfl (fun K hK=>?_)
  go_simp
  refine hK _ _ ⟨HBz2.out,?_⟩
  clear hK K
  refine bH 6 (by kernel_rfl) rfl (fun K hK=>?_)
  go_simp
  refine hK _ _ ⟨HBz2.out,?_⟩
  clear hK K
  refine bH 7 (by kernel_rfl) rfl (fun K hK=>?_)
  go_simp
  refine hK _ _ ⟨HBz2.out,?_⟩
  clear hK K
  refine bH 8 (by kernel_rfl) rfl (fun K hK=>?_)
  go_simp
  refine hK _ _ ⟨HBz2.out,?_⟩
  clear hK K
  refine Go.wpAnyH_done (by kernel_rfl) ?_ _
  go_wp2_with fail
  go_ret
  exact ⟨rfl,HB.out.trans (HBz2.out.mono HB.out.size)⟩
theorem vO (c:List Co) (ca:Option Addr) (cc ob:Nat) (a:Oo.Ag) (ha:Dw c.length a) (hn:c.length<=4096) (hs:∀ x∈c,x.nm.size<=12) (W:World) (h3:W.cell? ⟨ob,3,none⟩=some (.slice ca c.length cc)) (hc:ap W ca c) :
 Calls Tryz.prog 113 #[.agg #[.int .i64 a.k,.int .i64 a.at_],.pointer (some ⟨ob,0,none⟩)] W fun e w'=>e=.returned (.string (aS c a))/\Below W.heap.size W w':=by
 have HB:=jg (ae W (.cells #[.int .i64 a.k,.int .i64 a.at_] 168))
 have HF:=jg (wv c ca cc a ha hn hs (W.alloc (.cells #[.int .i64 a.k,.int .i64 a.at_] 168)) (hc.later HB.out))
 have hob:=bL h3
 generalize aS c a=R at *
 clear hc ha hs
 go_in
 go_wp2_with fail
 refine HF.out.mono ?_
 rintro e w1 ⟨rfl,hb⟩
 have HB1:=jg (HB.out.trans (hb.mono HB.out.size))
 clear hb
 go_wp2_with fail
 go_ret
 exact ⟨rfl,HB1.out⟩
theorem wo (a:Array Value) (W:World):(callFunc 113 a).run Tryz.prog W=.ok (.enter 113 a) W:=eP Tryz.func113 (by kernel_rfl) (by rfl) a W
theorem lk {c:List Co} (h:∀ x∈c,x.nm.size<=12) (a:Oo.Ag):(aS c a).size<=300:=by
 unfold aS
 have h1:=dT (ws:=dh) (by decide) a.k
 have h2:(if a.k=1 then eB else dO c a.at_).size<=12:=by
  split
  ·decide
  ·exact dL h _
 have h3:jb.size=1:=rfl
 have h4:ii.size=1:=rfl
 rw [ByteArray.size_append,ByteArray.size_append,ByteArray.size_append]
 omega
theorem zt (o:eJ) (p:mY) (w:World) (ho:iw w o p) (hg:∀ a∈o.ag,Dw o.c.length a) (hn:o.c.length<=4096) (hgl:o.ag.length<=4096) (hnl:o.nm.length=o.ag.length) (hs:∀ x∈o.c,x.nm.size<=12) (hns:∀ x∈o.nm,x.size<=12) :
 Calls Tryz.prog 58 #[.agg #[.int .i64 o.k,.slice p.ea o.ex.length p.ec,.slice p.na o.nm.length p.nc,.slice p.ca o.c.length p.cc,.slice p.ra o.r.length p.rc,.slice p.ka o.ks.length p.kc,.slice p.oa o.os.length p.oc,.int .i64 o.wk,.int .i64 o.ws,.int .i64 o.wt,.slice p.ga o.ag.length p.gc,.bool o.ou]] w fun e w'=>e=.returned (.string (cU o.c o.ag o.nm))/\Below w.heap.size w w':=by
 have HB:=jg (ae w (.cells #[.int .i64 o.k,.slice p.ea o.ex.length p.ec,.slice p.na o.nm.length p.nc,.slice p.ca o.c.length p.cc,.slice p.ra o.r.length p.rc,.slice p.ka o.ks.length p.kc,.slice p.oa o.os.length p.oc,.int .i64 o.wk,.int .i64 o.ws,.int .i64 o.wt,.slice p.ga o.ag.length p.gc,.bool o.ou] 59))
 have HO:=jg (aD.new w 59 12 #[.int .i64 o.k,.slice p.ea o.ex.length p.ec,.slice p.na o.nm.length p.nc,.slice p.ca o.c.length p.cc,.slice p.ra o.r.length p.rc,.slice p.ka o.ks.length p.kc,.slice p.oa o.os.length p.oc,.int .i64 o.wk,.int .i64 o.ws,.int .i64 o.wt,.slice p.ga o.ag.length p.gc,.bool o.ou] rfl)
 have c2:=HO.out.c 2 rfl
 have c10:=HO.out.c 10 rfl
 have hwl:=HO.out.lt
 by_cases h0:o.ag=[]
 ·have HE:Hid (cU o.c o.ag o.nm=eB):=by unfold Hid cU;rw [if_pos h0]
  have hl0:o.ag.length=0:=by rw [h0];rfl
  rw [HE.out]
  clear h0 HE ho hg hs hns HO hgl hnl
  generalize hKL:o.ag.length=KL at *
  subst hl0
  clear hKL
  go_in
  go_upto_region 1 with fail
  generalize w.alloc (.cells #[.int .i64 o.k,.slice p.ea o.ex.length p.ec,.slice p.na o.nm.length p.nc,.slice p.ca o.c.length p.cc,.slice p.ra o.r.length p.rc,.slice p.ka o.ks.length p.kc,.slice p.oa o.os.length p.oc,.int .i64 o.wk,.int .i64 o.ws,.int .i64 o.wt,.slice p.ga 0 p.gc,.bool o.ou] 59)=wU at *
  go_wp2_with fail
  go_ret
  exact ⟨rfl,HB.out⟩
 ·have HE:Hid (cU o.c o.ag o.nm=aE [⟨#[103,105,118,101]⟩,cE ((o.ag.map (aS o.c)).zip o.nm)]):=by unfold Hid cU;rw [if_neg h0];rfl
  have hl1:(o.ag.length:Int)≠0:=by
   have:o.ag.length≠0:=fun h=>h0 (List.eq_nil_of_length_eq_zero h)
   omega
  have hzl:((o.ag.map (aS o.c)).zip o.nm).length=o.ag.length:=by rw [List.length_zip,List.length_map];omega
  have hz1:((o.ag.map (aS o.c)).zip o.nm).map (·.1)=o.ag.map (aS o.c):=List.map_fst_zip (by simp;omega)
  have hz2:((o.ag.map (aS o.c)).zip o.nm).map (·.2)=o.nm:=List.map_snd_zip (by simp;omega)
  have hzs:∀ q∈(o.ag.map (aS o.c)).zip o.nm,q.1.size<=300/\q.2.size<=300:=fun q hq=>by
   obtain ⟨m1,m2⟩:=List.of_mem_zip hq
   obtain ⟨a,_,e⟩:=List.mem_map.1 m1
   have:=hns _ m2
   have:=lk hs a
   rw [e] at this
   exact ⟨this,by omega⟩
  have htz:(cE ((o.ag.map (aS o.c)).zip o.nm)).size<=4096*1002:=by
   have:=dP (M:=1000) eL (((o.ag.map (aS o.c)).zip o.nm).map fun q:ByteArray × ByteArray=>aE [q.1,Jp.bAs,q.2]) (fun y hy=>by
    obtain ⟨q,hq,rfl⟩:=List.mem_map.1 hy
    obtain ⟨q1,q2⟩:=hzs q hq
    have q3:Jp.bAs.size=2:=rfl
    have:=aV (M:=300) [q.1,Jp.bAs,q.2] (fun z hz=>by simp at hz;rcases hz with rfl | rfl | rfl<;>omega)
    simp at this;omega)
   have h2:eL.size=2:=rfl
   rw [List.length_map,h2,hzl] at this
   have h3:o.ag.length*1002<=4096*1002:=Nat.mul_le_mul_right _ hgl
   exact Nat.le_trans this h3
  have HTX:Hid (∀ W,Below (w.alloc (.cells #[.int .i64 o.k,.slice p.ea o.ex.length p.ec,.slice p.na o.nm.length p.nc,.slice p.ca o.c.length p.cc,.slice p.ra o.r.length p.rc,.slice p.ka o.ks.length p.kc,.slice p.oa o.os.length p.oc,.int .i64 o.wk,.int .i64 o.ws,.int .i64 o.wt,.slice p.ga o.ag.length p.gc,.bool o.ou] 59)).heap.size (w.alloc (.cells #[.int .i64 o.k,.slice p.ea o.ex.length p.ec,.slice p.na o.nm.length p.nc,.slice p.ca o.c.length p.cc,.slice p.ra o.r.length p.rc,.slice p.ka o.ks.length p.kc,.slice p.oa o.os.length p.oc,.int .i64 o.wk,.int .i64 o.ws,.int .i64 o.wt,.slice p.ga o.ag.length p.gc,.bool o.ou] 59)) W->Calls Tryz.prog 112 #[.slice p.ga o.ag.length p.gc,.func (.func 113) #[] #[.pointer (some ⟨w.heap.size,0,none⟩)]] W fun e w'=>∃ ta tc,e=.returned (.slice ta o.ag.length tc)/\bu w' ta (o.ag.map (aS o.c))/\Below W.heap.size W w'):=fun W hW=>by
   refine (vH 113 #[.pointer (some ⟨w.heap.size,0,none⟩)] wo (aS o.c) o.ag p.ga p.gc W ((ho.g.later HB.out).later hW) hgl (fun a ha W' hW'=>?_)).mono ?_
   ·have hW2:=hW.trans (hW'.mono hW.size)
    exact vO o.c p.ca p.cc w.heap.size a (hg a ha) hn hs W' (af hW2 (by rw [HO.out.cell 3 (by decide)];rfl)) ((ho.c.later HB.out).later hW2)
   ·rintro e w' ⟨v,rfl,hO,hb⟩
    obtain ⟨ta,tc,hv,hst⟩:=hO.strs
    rw [List.length_map] at hv
    exact ⟨ta,tc,by rw [hv],hst,hb⟩
  have HTI:Hid (∀ W ta tc,Below (w.alloc (.cells #[.int .i64 o.k,.slice p.ea o.ex.length p.ec,.slice p.na o.nm.length p.nc,.slice p.ca o.c.length p.cc,.slice p.ra o.r.length p.rc,.slice p.ka o.ks.length p.kc,.slice p.oa o.os.length p.oc,.int .i64 o.wk,.int .i64 o.ws,.int .i64 o.wt,.slice p.ga o.ag.length p.gc,.bool o.ou] 59)).heap.size (w.alloc (.cells #[.int .i64 o.k,.slice p.ea o.ex.length p.ec,.slice p.na o.nm.length p.nc,.slice p.ca o.c.length p.cc,.slice p.ra o.r.length p.rc,.slice p.ka o.ks.length p.kc,.slice p.oa o.os.length p.oc,.int .i64 o.wk,.int .i64 o.ws,.int .i64 o.wt,.slice p.ga o.ag.length p.gc,.bool o.ou] 59)) W->bu W ta (o.ag.map (aS o.c))->Calls Tryz.prog 55 #[.slice ta o.ag.length tc,.slice p.na o.nm.length p.nc] W fun e w'=>e=.returned (.string (cE ((o.ag.map (aS o.c)).zip o.nm)))/\Below W.heap.size W w'):=fun W ta tc hW hst=>by
   have:=mc ((o.ag.map (aS o.c)).zip o.nm) ta p.na tc p.nc W (by rw [hz1];exact hst) (by rw [hz2];exact (ho.n.later HB.out).later hW) (by omega) hzs
   rw [hzl] at this
   rw [hnl]
   exact this
  rw [HE.out]
  have hzz:(aE [⟨#[103,105,118,101]⟩,cE ((o.ag.map (aS o.c)).zip o.nm)]).size<=140737488355328:=by
   have h9:=aV (M:=5000000) [⟨#[103,105,118,101]⟩,cE ((o.ag.map (aS o.c)).zip o.nm)] (fun y hy=>by
    have q3:(⟨#[103,105,118,101]⟩:ByteArray).size=4:=rfl
    simp at hy;rcases hy with rfl | rfl<;>omega)
   simp at h9;omega
  clear HE ho hg hs hns hz1 hz2 hzs hzl HO htz hnl
  generalize cE ((o.ag.map (aS o.c)).zip o.nm)=TT at *
  generalize o.ag.map (aS o.c)=FL at *
  generalize hKL:o.ag.length=KL at *
  clear hKL h0
  go_in
  go_upto_region 1 with fail
  generalize w.alloc (.cells #[.int .i64 o.k,.slice p.ea o.ex.length p.ec,.slice p.na o.nm.length p.nc,.slice p.ca o.c.length p.cc,.slice p.ra o.r.length p.rc,.slice p.ka o.ks.length p.kc,.slice p.oa o.os.length p.oc,.int .i64 o.wk,.int .i64 o.ws,.int .i64 o.wt,.slice p.ga KL p.gc,.bool o.ou] 59)=wU at *
  go_upto_region 3 with fail
  have HBz0:Hid (Below wU.heap.size wU wU.drew):=aA
  refine Go.wp_region_held (S:=fun W=>Below wU.heap.size wU W) (by kernel_rfl) ?_
  change Go.wpAnyH _ _ _ _ _ _ _ _ (World.drew _)
  refine tk 0 (.pointer (some ⟨w.heap.size,10,none⟩)) rfl (by kernel_rfl) (by rfl) (fun _ _ _ h=>h) HBz0.out (fun W hW=>?_) ?_
  ·have hwl2:=lL hwl hW.size
   go_simp
  refine tk 1 (.slice p.ga KL p.gc) rfl (by kernel_rfl) (by rfl) (fun _ _ _ h=>h) HBz0.out (fun W hW=>?_) ?_
  ·have d:=af hW c10
   go_simp
  refine tk 2 (.func (.func 113) #[] #[.pointer (some ⟨w.heap.size,0,none⟩)]) rfl (by kernel_rfl) (by rfl) (fun _ _ _ h=>h) HBz0.out (fun W hW=>?_) ?_
  ·go_simp
  refine tk 4 (.pointer (some ⟨w.heap.size,2,none⟩)) rfl (by kernel_rfl) (by rfl) (fun _ _ _ h=>h) HBz0.out (fun W hW=>?_) ?_
  ·have hwl2:=lL hwl hW.size
   go_simp
  refine tk 5 (.slice p.na o.nm.length p.nc) rfl (by kernel_rfl) (by rfl) (fun _ _ _ h=>h) HBz0.out (fun W hW=>?_) ?_
  ·have d:=af hW c2
   go_simp
  refine bH 3 (by kernel_rfl) rfl (fun K hK=>?_)
  go_simp
  refine (HTX.out _ HBz0.out).mono ?_
  rintro e wz1 ⟨ta,tc,rfl,hst,hb⟩
  have HBz1:=jg (HBz0.out.trans (hb.mono HBz0.out.size))
  have HSTR:=jg hst
  clear hst
  refine hK _ _ ⟨HBz1.out,?_⟩
  clear hK K hb
  refine bH 6 (by kernel_rfl) rfl (fun K hK=>?_)
  go_simp
  refine (HTI.out _ ta tc HBz1.out HSTR.out).mono ?_
  rintro e wz2 ⟨rfl,hb⟩
  have HBz2:=jg (HBz1.out.trans (hb.mono HBz1.out.size))
  refine hK _ _ ⟨HBz2.out,?_⟩
  clear hK K hb
  refine bH 7 (by kernel_rfl) rfl (fun K hK=>?_)
  go_simp
  have HBz3:Hid (Below wU.heap.size wU (wz2.alloc (.cells #[.string ⟨#[103,105,118,101]⟩,.string TT] 9))):=HBz2.out.trans ((ae wz2 _).mono HBz2.out.size)
  refine hK _ _ ⟨HBz3.out,?_⟩
  clear hK K
  refine bH 8 (by kernel_rfl) rfl (fun K hK=>?_)
  go_simp
  refine (bq [⟨#[103,105,118,101]⟩,TT] (show 2<=4096 by decide) (hzz) wz2).mono ?_
  rintro e wz4 ⟨rfl,hb⟩
  have HBz4:=jg (HBz2.out.trans (hb.mono HBz2.out.size))
  refine hK _ _ ⟨HBz4.out,?_⟩
  clear hK K hb
  refine bH 9 (by kernel_rfl) rfl (fun K hK=>?_)
  go_simp
  refine hK _ _ ⟨HBz4.out,?_⟩
  clear hK K
  refine Go.wpAnyH_done (by kernel_rfl) ?_ _
  go_wp2_with fail
  go_ret
  exact ⟨rfl,HB.out.trans (HBz4.out.mono HB.out.size)⟩
theorem vL (o:eJ) (p:mY) (w:World) (ho:iw w o p) (hk:∀ i∈o.ks,xM o.c.length i) (hos:∀ i∈o.os,xM o.r.length i) (hol:o.os.length=o.ks.length) (hcn:o.c.length<=4096) (hrn:o.r.length<=4096) (hn:o.ks.length<=4096) (hs:∀ x∈o.c,x.nm.size<=12) (hs2:∀ x∈o.r,x.nm.size<=12) :
 Calls Tryz.prog 62 #[.agg (cO o p)] w fun e w'=>e=.returned (.string (cG o.c o.r (o.ks.zip o.os)))/\Below w.heap.size w w':=by
 obtain ⟨i0,hi0,hz0,hz1,hz2⟩:=info_parts rI
 obtain ⟨k,ex,nm,c,r,ks,os,wk,ws,wt,ag,ou⟩:=o
 obtain ⟨ea,ec,na,nc,ca,cc,ra,rc,ka,kc,oa,oc,ga,gc⟩:=p
 simp only at hk hos hol hcn hrn hn hs hs2
 obtain ⟨he,hnn,hc,hr,hkk,hoo,hg⟩:=ho
 simp only at he hnn hc hr hkk hoo hg
 unfold cO
 simp only
 have HB:=jg (ae w (.cells #[.int .i64 k,.slice ea ex.length ec,.slice na nm.length nc,.slice ca c.length cc,.slice ra r.length rc,.slice ka ks.length kc,.slice oa os.length oc,.int .i64 wk,.int .i64 ws,.int .i64 wt,.slice ga ag.length gc,.bool ou] 59))
 have HO:=jg (aD.new w 59 12 #[.int .i64 k,.slice ea ex.length ec,.slice na nm.length nc,.slice ca c.length cc,.slice ra r.length rc,.slice ka ks.length kc,.slice oa os.length oc,.int .i64 wk,.int .i64 ws,.int .i64 wt,.slice ga ag.length gc,.bool ou] rfl)
 have hzl:(ks.zip os).length=ks.length:=by rw [List.length_zip];omega
 have HJ:Hid (∀ B v w1,OS w1 B v ((ks.zip os).map fun q:Int × Int=>aE [dO c q.1,aH,dO r q.2])->Calls Tryz.prog 101 #[v,.string ⟨#[32,97,110,100,32]⟩] w1 fun e w'=>e=.returned (.string (cG c r (ks.zip os)))/\Below w1.heap.size w1 w'):=fun B v w1 h=>j9 Au ((ks.zip os).map fun q:Int × Int=>aE [dO c q.1,aH,dO r q.2]) B v w1 h (by simp;omega) (by
  have:=dP (M:=100) Au ((ks.zip os).map fun q:Int × Int=>aE [dO c q.1,aH,dO r q.2]) (fun y hy=>by
   obtain ⟨q,hq,rfl⟩:=List.mem_map.1 hy
   have q1:=dL hs q.1
   have q2:=dL hs2 q.2
   have q3:aH.size=1:=rfl
   have:=aV (M:=12) [dO c q.1,aH,dO r q.2] (fun z hz=>by simp at hz;rcases hz with rfl | rfl | rfl<;>omega)
   simp at this;omega)
  have h2:Au.size=5:=rfl
  rw [List.length_map,h2,hzl] at this
  have h3:ks.length*105<=4096*105:=Nat.mul_le_mul_right _ hn
  omega)
 have HC:=jg (hc.later HB.out)
 have HR:=jg (hr.later HB.out)
 have HKK:=jg (hkk.later HB.out)
 have HOO:=jg (hoo.later HB.out)
 have HKP:=jg hk
 have HOP:=jg hos
 have HSP:Hid (∀ i j W,Calls Tryz.prog 52 #[.slice (some ⟨W.heap.size,0,none⟩) 3 3] (W.alloc (.cells #[.string (dO c i),.string ⟨#[61]⟩,.string (dO r j)] 9)) fun e w'=>e=.returned (.string (aE [dO c i,aH,dO r j]))/\Below W.heap.size W w'):=fun i j W=>bq [dO c i,aH,dO r j] (show 3<=4096 by decide) (by
  have q1:=dL hs i
  have q2:=dL hs2 j
  have q3:aH.size=1:=rfl
  have:=aV (M:=12) [dO c i,aH,dO r j] (fun z hz=>by simp at hz;rcases hz with rfl | rfl | rfl<;>omega)
  simp at this;omega) W
 have HCN:Hid (∀ j (h:j<c.length),dO c (j:Int)=c[j].nm):=fun j hj=>by unfold dO;rw [Int.toNat_natCast,List.getElem?_eq_getElem hj];rfl
 have HRN:Hid (∀ j (h:j<r.length),dO r (j:Int)=r[j].nm):=fun j hj=>by unfold dO;rw [Int.toNat_natCast,List.getElem?_eq_getElem hj];rfl
 obtain ⟨RR,HRR⟩:∃ RR,Hid (cG c r (ks.zip os)=RR):=⟨_,rfl⟩
 rw [HRR.out] at HJ ⊢
 have HZL:=jg hzl
 have HOL:=jg hol
 have c3:=HO.out.c 3 rfl
 have c4:=HO.out.c 4 rfl
 have c5:=HO.out.c 5 rfl
 have c6:=HO.out.c 6 rfl
 have hwl:=HO.out.lt
 clear he hnn hc hr hkk hoo hg hs hs2 hk hos HO HRR hzl hol
 go_in
 go_upto_region 2 with fail
 generalize w.alloc (.cells #[.int .i64 k,.slice ea ex.length ec,.slice na nm.length nc,.slice ca c.length cc,.slice ra r.length rc,.slice ka ks.length kc,.slice oa os.length oc,.int .i64 wk,.int .i64 ws,.int .i64 wt,.slice ga ag.length gc,.bool ou] 59)=wU at *
 go_wp2_with fail
 go_loopg [3,9] ks.length (fun gk s i wr=>∃ j:Nat,gk+j=ks.length/\i=.int .i64 j/\OS wr wU.heap.size s (((ks.zip os).take j).map fun q:Int × Int=>aE [dO c q.1,aH,dO r q.2])/\Below wU.heap.size wU wr)
 case atStart=>exact ⟨0,by omega,rfl,World.ownsRow_nil _ _ _ _,bR⟩
 case round=>
  obtain ⟨j,hgk,rfl,hosw,hbr⟩:=hrel
  have hjl:j<=ks.length:=by omega
  have hlj:(((ks.zip os).take j).map fun q:Int × Int=>aE [dO c q.1,aH,dO r q.2]).length=j:=by rw [List.length_map,List.length_take,HZL.out];omega
  obtain ⟨sa,sc,rfl,-⟩:=hosw.form
  have HOS:Hid (wr.ownsRow wU.heap.size 9 1 (.slice sa j sc) j ((((ks.zip os).take j).map fun q:Int × Int=>aE [dO c q.1,aH,dO r q.2]).map Value.string)):=by
   have h:=hosw
   unfold OS at h
   rw [hlj] at h
   exact h
  have HBR:=jg hbr
  rw [hlj]
  clear hosw hbr
  by_cases hlt:j<ks.length
  ·have hji:(j:Int)<(ks.length:Int):=by omega
   have hlt2:j<os.length:=by have:=HOL.out;omega
   have hltz:j<(ks.zip os).length:=by have:=HZL.out;omega
   have hji2:(j:Int)<(os.length:Int):=by omega
   have HTK:Hid (((ks.zip os).take (j+1)).map (fun q:Int × Int=>aE [dO c q.1,aH,dO r q.2])=((ks.zip os).take j).map (fun q:Int × Int=>aE [dO c q.1,aH,dO r q.2])++[aE [dO c ks[j],aH,dO r os[j]]]):=by
    rw [Hid,List.take_succ_eq_append_getElem hltz,List.map_append,List.map_singleton,List.getElem_zip]
   obtain ⟨bk,ok,rfl,dk⟩:=HKK.out j hlt
   obtain ⟨bo,oo,rfl,dq⟩:=HOO.out j hlt2
   obtain ⟨m1,e1,hm1⟩:=HKP.out ks[j] (List.getElem_mem hlt)
   obtain ⟨m2,e2,hm2⟩:=HOP.out os[j] (List.getElem_mem hlt2)
   obtain ⟨bc,occ,rfl,dc,-⟩:=HC.out m1 hm1
   obtain ⟨br,orr,rfl,dr,-⟩:=HR.out m2 hm2
   rw [e1] at dk HTK
   rw [e2] at dq HTK
   have hSP:=HSP.out (m1:Int) (m2:Int)
   rw [HCN.out m1 hm1,HRN.out m2 hm2] at hSP HTK
   have HS1:=jg hSP
   have hm1i:(m1:Int)<(c.length:Int):=by omega
   have hm2i:(m2:Int)<(r.length:Int):=by omega
   have dkr:=af HBR.out dk
   have hbk:=bL dk
   have hbo:=bL dq
   have hbc:=bL dc
   have hbr:=bL dr
   clear hSP HSP HCN HRN
   generalize aE [c[m1].nm,aH,r[m2].nm]=X at *
   generalize c[m1].nm=X1 at *
   generalize r[m2].nm=X2 at *
   generalize hACC:(((ks.zip os).take j).map fun q:Int × Int=>aE [dO c q.1,aH,dO r q.2])=acc at *
   have hal:=hlj
   clear hACC hlj e1 e2
   have hz2':=HBR.out.size
   go_upto_region 5 with fail
   have HBz0:=jg (HBR.out.trans (aA.mono HBR.out.size))
   refine Go.wp_region_held (S:=fun W=>Below wU.heap.size wU W) (by kernel_rfl) ?_
   change Go.wpAnyH _ _ _ _ _ _ _ _ (World.drew _)
   refine tk 0 (.slice sa j sc) rfl (by kernel_rfl) (by rfl) (fun _ _ _ h=>h) HBz0.out (fun W hW=>?_) ?_
   ·go_simp
   refine tk 1 (.pointer (some ⟨w.heap.size,3,none⟩)) rfl (by kernel_rfl) (by rfl) (fun _ _ _ h=>h) HBz0.out (fun W hW=>?_) ?_
   ·have hwl2:=lL hwl hW.size
    go_simp
   refine tk 2 (.slice (some ⟨bc,occ,none⟩) c.length cc) rfl (by kernel_rfl) (by rfl) (fun _ _ _ h=>h) HBz0.out (fun W hW=>?_) ?_
   ·have d:=af hW c3
    go_simp
   refine tk 3 (.int .i64 (m1:Int)) rfl (by kernel_rfl) (by rfl) (fun _ _ _ h=>h) HBz0.out (fun W hW=>?_) ?_
   ·go_simp
   refine tk 4 (.pointer (some ⟨bc,occ+m1*2,none⟩)) rfl (by kernel_rfl) (by rfl) (fun _ _ _ h=>h) HBz0.out (fun W hW=>?_) ?_
   ·have d:=af hW dc
    go_simp
   refine tk 5 (.pointer (some ⟨bc,occ+m1*2,none⟩)) rfl (by kernel_rfl) (by rfl) (fun _ _ _ h=>h) HBz0.out (fun W hW=>?_) ?_
   ·have d:=af hW dc
    have hl2:=lL hbc hW.size
    go_simp
   refine tk 6 (.string X1) rfl (by kernel_rfl) (by rfl) (fun _ _ _ h=>h) HBz0.out (fun W hW=>?_) ?_
   ·have d:=af hW dc
    go_simp
   refine tk 7 (.pointer (some ⟨w.heap.size,4,none⟩)) rfl (by kernel_rfl) (by rfl) (fun _ _ _ h=>h) HBz0.out (fun W hW=>?_) ?_
   ·have hwl2:=lL hwl hW.size
    go_simp
   refine tk 8 (.slice (some ⟨br,orr,none⟩) r.length rc) rfl (by kernel_rfl) (by rfl) (fun _ _ _ h=>h) HBz0.out (fun W hW=>?_) ?_
   ·have d:=af hW c4
    go_simp
   refine tk 9 (.pointer (some ⟨w.heap.size,6,none⟩)) rfl (by kernel_rfl) (by rfl) (fun _ _ _ h=>h) HBz0.out (fun W hW=>?_) ?_
   ·have hwl2:=lL hwl hW.size
    go_simp
   refine tk 10 (.slice (some ⟨bo,oo,none⟩) os.length oc) rfl (by kernel_rfl) (by rfl) (fun _ _ _ h=>h) HBz0.out (fun W hW=>?_) ?_
   ·have d:=af hW c6
    go_simp
   refine tk 11 (.int .i64 (j:Int)) rfl (by kernel_rfl) (by rfl) (fun _ _ _ h=>h) HBz0.out (fun W hW=>?_) ?_
   ·go_simp
   refine tk 12 (.pointer (some ⟨bo,oo+j,none⟩)) rfl (by kernel_rfl) (by rfl) (fun _ _ _ h=>h) HBz0.out (fun W hW=>?_) ?_
   ·have d:=af hW dq
    go_simp
   refine tk 13 (.int .i64 (m2:Int)) rfl (by kernel_rfl) (by rfl) (fun _ _ _ h=>h) HBz0.out (fun W hW=>?_) ?_
   ·have d:=af hW dq
    go_simp
   refine tk 14 (.pointer (some ⟨br,orr+m2*2,none⟩)) rfl (by kernel_rfl) (by rfl) (fun _ _ _ h=>h) HBz0.out (fun W hW=>?_) ?_
   ·have d:=af hW dr
    go_simp
   refine tk 15 (.pointer (some ⟨br,orr+m2*2,none⟩)) rfl (by kernel_rfl) (by rfl) (fun _ _ _ h=>h) HBz0.out (fun W hW=>?_) ?_
   ·have d:=af hW dr
    have hl2:=lL hbr hW.size
    go_simp
   refine tk 16 (.string X2) rfl (by kernel_rfl) (by rfl) (fun _ _ _ h=>h) HBz0.out (fun W hW=>?_) ?_
   ·have d:=af hW dr
    go_simp
   refine bH 17 (by kernel_rfl) rfl (fun K hK=>?_)
   go_simp
   have HBz1:Hid (Below wU.heap.size wU (wr.drew.alloc (.cells #[.string X1,.string ⟨#[61]⟩,.string X2] 9))):=HBz0.out.trans ((ae wr.drew _).mono HBz0.out.size)
   refine hK _ _ ⟨HBz1.out,?_⟩
   clear hK K
   refine bH 18 (by kernel_rfl) rfl (fun K hK=>?_)
   go_simp
   refine (HS1.out wr.drew).mono ?_
   rintro e wz2 ⟨rfl,hb⟩
   have HBz2:=jg (HBz0.out.trans (hb.mono HBz0.out.size))
   have HOW:=jg (aO (aO HOS.out aA) hb)
   refine hK _ _ ⟨HBz2.out,?_⟩
   clear hK K hb
   refine bH 19 (by kernel_rfl) rfl (fun K hK=>?_)
   go_simp
   have HSRC:=jg (aD.new wz2 9 1 #[.string X] rfl)
   have HBA:Hid (Below wU.heap.size wU (wz2.alloc (.cells #[.string X] 9))):=HBz2.out.trans ((ae wz2 _).mono HBz2.out.size)
   have HOA:Hid ((wz2.alloc (.cells #[.string X] 9)).ownsRow wU.heap.size 9 1 (.slice sa j sc) j (acc.map Value.string)):=aO HOW.out (ae wz2 _)
   refine hK _ _ ⟨HBA.out,?_⟩
   clear hK K
   refine bH 20 (by kernel_rfl) rfl (fun K hK=>?_)
   refine step_append_lies _ (by rfl) _ _ _ (by rfl) wU.heap.size 9 i0 _ 1 16 Tryz.underlying40 hi0 hz0 hz1 hz2 rfl (by decide) (.slice sa j sc) j (acc.map Value.string) (by rfl) HOA.out ⟨wz2.heap.size,0,none⟩ 1 1 [.string X] (by rfl) (by rfl) (fun i u hi=>by
    match i,hi with
    | 0,hi=>simp at hi;subst hi;rw [WideShapes.add_plain,Nat.zero_add,HSRC.out.cell 0 (by decide)];rfl) (fun u hu=>by simp at hu;subst hu;rfl) (by decide) (by unfold maxLen;omega) (by omega) HBA.out.size _ rfl ?_
   intro gg cap9 w9 hown hgrow hgg hlt9
   have HB9:=jg (HBA.out.grown hgrow HBA.out.size (fun k hk=>(World.ownsRow.lt HOA.out k hk).1))
   have HO9:Hid (OS w9 wU.heap.size (.slice (some ⟨gg,0,none⟩) (j+1) cap9) (acc++[X])):=by
    unfold Hid OS
    rw [List.length_append,List.map_append,hal]
    exact hown
   clear hown hgrow hgg
   refine hK _ _ ⟨HB9.out,?_⟩
   clear hK K
   refine bH 21 (by kernel_rfl) rfl (fun K hK=>?_)
   go_simp
   refine hK _ _ ⟨HB9.out,?_⟩
   clear hK K
   refine Go.wpAnyH_done (by kernel_rfl) ?_ _
   go_wp2_with fail
   go_roundg (gk-1)
   case measure=>omega
   case rel=>exact ⟨j+1,by omega,by go_num,by rw [HTK.out];exact HO9.out,HB9.out⟩
  ·obtain rfl:j=ks.length:=by omega
   have hji:¬ ((ks.length:Nat):Int)<(ks.length:Int):=by omega
   have HJ1:=jg (HJ.out wU.heap.size (.slice sa ks.length sc) wr (by
    have h:=HOS.out
    rw [List.take_of_length_le (by have:=HZL.out;omega)] at h
    unfold OS
    rw [List.length_map,HZL.out]
    exact h))
   clear HOS hlj HJ
   go_wp2_with fail
   refine HJ1.out.mono ?_
   rintro e w2 ⟨rfl,hb⟩
   have HB2:=jg (HB.out.trans ((HBR.out.trans (hb.mono HBR.out.size)).mono HB.out.size))
   clear hb
   go_wp2_with fail
   go_ret
   exact ⟨rfl,HB2.out⟩
end Go.Proofs.YtiiliobffnhpmaaGreatDoor.Jp
