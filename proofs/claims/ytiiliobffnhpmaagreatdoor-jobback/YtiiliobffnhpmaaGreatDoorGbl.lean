import Derived.Test.YtiiliobffnhpmaaGreatDoorGbk
set_option linter.all false
set_option maxRecDepth 100000
set_option maxHeartbeats 4000000
namespace Go.Proofs.YtiiliobffnhpmaaGreatDoor
namespace Jp
open Go.RowKit Oo
def BF (n:aJ):Prop:=(n.op.ex.length<=8192/\n.op.nm.length<=8192/\n.op.c.length<=8192/\n.op.r.length<=8192/\n.op.ks.length<=8192/\n.op.os.length<=8192/\n.op.ag.length<=8192)/\n.ins.length<=8192/\n.cols.length<=8192
theorem xy (ps qs:List (aJ × bM)) (a1 a2:Option Addr) (c1 c2:Nat) (w:World) (h1:NL w a1 ps) (h2:NL w a2 qs) (he:ps.map (·.1)=qs.map (·.1)) (hn:ps.length<=4096) (hz:∀ q∈ps,BF q.1) :
 Calls Tryz.prog 12 #[.agg #[.slice a1 ps.length c1],.agg #[.slice a2 ps.length c2]] w fun e w'=>e=.returned (.bool true)/\Below w.heap.size w w':=by
 have hlq:qs.length=ps.length:=by have:=congrArg List.length he;simpa using this.symm
 have HBB:Hid (Below w.heap.size w ((w.alloc (.cells #[.slice a1 ps.length c1] 24)).alloc (.cells #[.slice a2 ps.length c2] 24))):=(ae w _).trans ((ae _ _).mono (ae w _).size)
 have HO1:Hid (aD ((w.alloc (.cells #[.slice a1 ps.length c1] 24)).alloc (.cells #[.slice a2 ps.length c2] 24)) w.heap.size 24 1 [.slice a1 ps.length c1]):=(aD.new w 24 1 #[.slice a1 ps.length c1] rfl).later (ae _ _)
 have HO2:Hid (aD ((w.alloc (.cells #[.slice a1 ps.length c1] 24)).alloc (.cells #[.slice a2 ps.length c2] 24)) (w.heap.size+1) 24 1 [.slice a2 ps.length c2]):=by
  have:=aD.new (w.alloc (.cells #[.slice a1 ps.length c1] 24)) 24 1 #[.slice a2 ps.length c2] rfl
  rw [show (w.alloc (.cells #[.slice a1 ps.length c1] 24)).heap.size=w.heap.size+1 by simp] at this
  exact this
 have HA:=jg (h1.later HBB.out)
 have HC:=jg (h2.later HBB.out)
 have HZ:=jg hz
 have HEQ:Hid (∀ j (hj:j<ps.length) (hk:j<qs.length),∃ N P Q,ps[j]=(N,P)/\qs[j]=(N,Q)):=fun j hj hk=>by
  refine ⟨ps[j].1,ps[j].2,qs[j].2,rfl,?_⟩
  have h9:(ps.map (·.1))[j]?=(qs.map (·.1))[j]?:=by rw [he]
  rw [List.getElem?_map,List.getElem?_map,List.getElem?_eq_getElem hj,List.getElem?_eq_getElem hk] at h9
  have h10:ps[j].1=qs[j].1:=by simpa using h9
  rw [h10]
 have HLQ:=jg hlq
 go_in
 go_upto_region 1 with fail
 generalize ((w.alloc (.cells #[.slice a1 ps.length c1] 24)).alloc (.cells #[.slice a2 ps.length c2] 24))=W0 at *
 have k1:=HO1.out.c 0 rfl
 have k2:=HO2.out.c 0 rfl
 have l1:=HO1.out.lt
 have l2:=HO2.out.lt
 go_wp2_with fail
 go_loopg [5] ps.length (fun gk i wr=>∃ j:Nat,gk+j=ps.length/\i=.int .i64 j/\Below W0.heap.size W0 wr)
 case atStart=>exact ⟨0,by omega,rfl,bR⟩
 case round=>
  obtain ⟨j,hgk,rfl,hbr⟩:=hrel
  have HBR:=jg hbr
  have r1:=af hbr k1
  have r2:=af hbr k2
  have m1:=lL l1 hbr.size
  have m2:=lL l2 hbr.size
  by_cases hlt:j<ps.length
  ·have hji:(j:Int)<(ps.length:Int):=by omega
   have hltq:j<qs.length:=by have:=HLQ.out;omega
   obtain ⟨N,P,Q,hP,hQ⟩:=HEQ.out j hlt hltq
   obtain ⟨b1,o1,e1,d,n1⟩:=(HA.out.later HBR.out) j hlt
   obtain ⟨b2,o2,e2,f,n2⟩:=(HC.out.later HBR.out) j hltq
   have hzN:=HZ.out ps[j] (List.getElem_mem hlt)
   rw [hP] at d n1 hzN
   rw [hQ] at f n2
   simp only at d n1 f n2 hzN
   subst e1
   subst e2
   have HN1:=jg n1
   have HN2:=jg n2
   obtain ⟨z0,zi,zc⟩:=hzN
   have d0:wr.cell? ⟨b1,o1+j*16,none⟩=some (.string N.nm):=d 0 _ rfl
   have d1:=d 1 _ rfl
   have d2:=d 2 _ rfl
   have d3:=d 3 _ rfl
   have d4:=d 4 _ rfl
   have d5:=d 5 _ rfl
   have d6:=d 6 _ rfl
   have d7:=d 7 _ rfl
   have d8:=d 8 _ rfl
   have d9:=d 9 _ rfl
   have d10:=d 10 _ rfl
   have d11:=d 11 _ rfl
   have d12:=d 12 _ rfl
   have d13:=d 13 _ rfl
   have d14:=d 14 _ rfl
   have d15:=d 15 _ rfl
   have f0:wr.cell? ⟨b2,o2+j*16,none⟩=some (.string N.nm):=f 0 _ rfl
   have f1:=f 1 _ rfl
   have f2:=f 2 _ rfl
   have f3:=f 3 _ rfl
   have f4:=f 4 _ rfl
   have f5:=f 5 _ rfl
   have f6:=f 6 _ rfl
   have f7:=f 7 _ rfl
   have f8:=f 8 _ rfl
   have f9:=f 9 _ rfl
   have f10:=f 10 _ rfl
   have f11:=f 11 _ rfl
   have f12:=f 12 _ rfl
   have f13:=f 13 _ rfl
   have f14:=f 14 _ rfl
   have f15:=f 15 _ rfl
   have hbl1:=bL d0
   have hbl2:=bL f0
   have HB2:Hid (Below wr.heap.size wr ((wr.alloc (.cells #[.string N.nm,.int .i64 N.op.k,.slice P.p.ea N.op.ex.length P.p.ec,.slice P.p.na N.op.nm.length P.p.nc,.slice P.p.ca N.op.c.length P.p.cc,.slice P.p.ra N.op.r.length P.p.rc,.slice P.p.ka N.op.ks.length P.p.kc,.slice P.p.oa N.op.os.length P.p.oc,.int .i64 N.op.wk,.int .i64 N.op.ws,.int .i64 N.op.wt,.slice P.p.ga N.op.ag.length P.p.gc,.bool N.op.ou,.slice P.ia N.ins.length P.ic,.slice P.ka N.cols.length P.kc,.int .i64 N.bd] 61)).alloc (.cells #[.string N.nm,.int .i64 N.op.k,.slice Q.p.ea N.op.ex.length Q.p.ec,.slice Q.p.na N.op.nm.length Q.p.nc,.slice Q.p.ca N.op.c.length Q.p.cc,.slice Q.p.ra N.op.r.length Q.p.rc,.slice Q.p.ka N.op.ks.length Q.p.kc,.slice Q.p.oa N.op.os.length Q.p.oc,.int .i64 N.op.wk,.int .i64 N.op.ws,.int .i64 N.op.wt,.slice Q.p.ga N.op.ag.length Q.p.gc,.bool N.op.ou,.slice Q.ia N.ins.length Q.ic,.slice Q.ka N.cols.length Q.kc,.int .i64 N.bd] 61))):=(ae wr _).trans ((ae _ _).mono (ae wr _).size)
   have HX1:Hid (aD ((wr.alloc (.cells #[.string N.nm,.int .i64 N.op.k,.slice P.p.ea N.op.ex.length P.p.ec,.slice P.p.na N.op.nm.length P.p.nc,.slice P.p.ca N.op.c.length P.p.cc,.slice P.p.ra N.op.r.length P.p.rc,.slice P.p.ka N.op.ks.length P.p.kc,.slice P.p.oa N.op.os.length P.p.oc,.int .i64 N.op.wk,.int .i64 N.op.ws,.int .i64 N.op.wt,.slice P.p.ga N.op.ag.length P.p.gc,.bool N.op.ou,.slice P.ia N.ins.length P.ic,.slice P.ka N.cols.length P.kc,.int .i64 N.bd] 61)).alloc (.cells #[.string N.nm,.int .i64 N.op.k,.slice Q.p.ea N.op.ex.length Q.p.ec,.slice Q.p.na N.op.nm.length Q.p.nc,.slice Q.p.ca N.op.c.length Q.p.cc,.slice Q.p.ra N.op.r.length Q.p.rc,.slice Q.p.ka N.op.ks.length Q.p.kc,.slice Q.p.oa N.op.os.length Q.p.oc,.int .i64 N.op.wk,.int .i64 N.op.ws,.int .i64 N.op.wt,.slice Q.p.ga N.op.ag.length Q.p.gc,.bool N.op.ou,.slice Q.ia N.ins.length Q.ic,.slice Q.ka N.cols.length Q.kc,.int .i64 N.bd] 61)) wr.heap.size 61 16 [.string N.nm,.int .i64 N.op.k,.slice P.p.ea N.op.ex.length P.p.ec,.slice P.p.na N.op.nm.length P.p.nc,.slice P.p.ca N.op.c.length P.p.cc,.slice P.p.ra N.op.r.length P.p.rc,.slice P.p.ka N.op.ks.length P.p.kc,.slice P.p.oa N.op.os.length P.p.oc,.int .i64 N.op.wk,.int .i64 N.op.ws,.int .i64 N.op.wt,.slice P.p.ga N.op.ag.length P.p.gc,.bool N.op.ou,.slice P.ia N.ins.length P.ic,.slice P.ka N.cols.length P.kc,.int .i64 N.bd]):=(aD.new wr 61 16 #[.string N.nm,.int .i64 N.op.k,.slice P.p.ea N.op.ex.length P.p.ec,.slice P.p.na N.op.nm.length P.p.nc,.slice P.p.ca N.op.c.length P.p.cc,.slice P.p.ra N.op.r.length P.p.rc,.slice P.p.ka N.op.ks.length P.p.kc,.slice P.p.oa N.op.os.length P.p.oc,.int .i64 N.op.wk,.int .i64 N.op.ws,.int .i64 N.op.wt,.slice P.p.ga N.op.ag.length P.p.gc,.bool N.op.ou,.slice P.ia N.ins.length P.ic,.slice P.ka N.cols.length P.kc,.int .i64 N.bd] rfl).later (ae _ _)
   have HX2:Hid (aD ((wr.alloc (.cells #[.string N.nm,.int .i64 N.op.k,.slice P.p.ea N.op.ex.length P.p.ec,.slice P.p.na N.op.nm.length P.p.nc,.slice P.p.ca N.op.c.length P.p.cc,.slice P.p.ra N.op.r.length P.p.rc,.slice P.p.ka N.op.ks.length P.p.kc,.slice P.p.oa N.op.os.length P.p.oc,.int .i64 N.op.wk,.int .i64 N.op.ws,.int .i64 N.op.wt,.slice P.p.ga N.op.ag.length P.p.gc,.bool N.op.ou,.slice P.ia N.ins.length P.ic,.slice P.ka N.cols.length P.kc,.int .i64 N.bd] 61)).alloc (.cells #[.string N.nm,.int .i64 N.op.k,.slice Q.p.ea N.op.ex.length Q.p.ec,.slice Q.p.na N.op.nm.length Q.p.nc,.slice Q.p.ca N.op.c.length Q.p.cc,.slice Q.p.ra N.op.r.length Q.p.rc,.slice Q.p.ka N.op.ks.length Q.p.kc,.slice Q.p.oa N.op.os.length Q.p.oc,.int .i64 N.op.wk,.int .i64 N.op.ws,.int .i64 N.op.wt,.slice Q.p.ga N.op.ag.length Q.p.gc,.bool N.op.ou,.slice Q.ia N.ins.length Q.ic,.slice Q.ka N.cols.length Q.kc,.int .i64 N.bd] 61)) (wr.heap.size+1) 61 16 [.string N.nm,.int .i64 N.op.k,.slice Q.p.ea N.op.ex.length Q.p.ec,.slice Q.p.na N.op.nm.length Q.p.nc,.slice Q.p.ca N.op.c.length Q.p.cc,.slice Q.p.ra N.op.r.length Q.p.rc,.slice Q.p.ka N.op.ks.length Q.p.kc,.slice Q.p.oa N.op.os.length Q.p.oc,.int .i64 N.op.wk,.int .i64 N.op.ws,.int .i64 N.op.wt,.slice Q.p.ga N.op.ag.length Q.p.gc,.bool N.op.ou,.slice Q.ia N.ins.length Q.ic,.slice Q.ka N.cols.length Q.kc,.int .i64 N.bd]):=by
    have:=aD.new (wr.alloc (.cells #[.string N.nm,.int .i64 N.op.k,.slice P.p.ea N.op.ex.length P.p.ec,.slice P.p.na N.op.nm.length P.p.nc,.slice P.p.ca N.op.c.length P.p.cc,.slice P.p.ra N.op.r.length P.p.rc,.slice P.p.ka N.op.ks.length P.p.kc,.slice P.p.oa N.op.os.length P.p.oc,.int .i64 N.op.wk,.int .i64 N.op.ws,.int .i64 N.op.wt,.slice P.p.ga N.op.ag.length P.p.gc,.bool N.op.ou,.slice P.ia N.ins.length P.ic,.slice P.ka N.cols.length P.kc,.int .i64 N.bd] 61)) 61 16 #[.string N.nm,.int .i64 N.op.k,.slice Q.p.ea N.op.ex.length Q.p.ec,.slice Q.p.na N.op.nm.length Q.p.nc,.slice Q.p.ca N.op.c.length Q.p.cc,.slice Q.p.ra N.op.r.length Q.p.rc,.slice Q.p.ka N.op.ks.length Q.p.kc,.slice Q.p.oa N.op.os.length Q.p.oc,.int .i64 N.op.wk,.int .i64 N.op.ws,.int .i64 N.op.wt,.slice Q.p.ga N.op.ag.length Q.p.gc,.bool N.op.ou,.slice Q.ia N.ins.length Q.ic,.slice Q.ka N.cols.length Q.kc,.int .i64 N.bd] rfl
    rw [show (wr.alloc (.cells #[.string N.nm,.int .i64 N.op.k,.slice P.p.ea N.op.ex.length P.p.ec,.slice P.p.na N.op.nm.length P.p.nc,.slice P.p.ca N.op.c.length P.p.cc,.slice P.p.ra N.op.r.length P.p.rc,.slice P.p.ka N.op.ks.length P.p.kc,.slice P.p.oa N.op.os.length P.p.oc,.int .i64 N.op.wk,.int .i64 N.op.ws,.int .i64 N.op.wt,.slice P.p.ga N.op.ag.length P.p.gc,.bool N.op.ou,.slice P.ia N.ins.length P.ic,.slice P.ka N.cols.length P.kc,.int .i64 N.bd] 61)).heap.size=wr.heap.size+1 by simp] at this
    exact this
   go_upto_region 8 with fail
   generalize ((wr.alloc (.cells #[.string N.nm,.int .i64 N.op.k,.slice P.p.ea N.op.ex.length P.p.ec,.slice P.p.na N.op.nm.length P.p.nc,.slice P.p.ca N.op.c.length P.p.cc,.slice P.p.ra N.op.r.length P.p.rc,.slice P.p.ka N.op.ks.length P.p.kc,.slice P.p.oa N.op.os.length P.p.oc,.int .i64 N.op.wk,.int .i64 N.op.ws,.int .i64 N.op.wt,.slice P.p.ga N.op.ag.length P.p.gc,.bool N.op.ou,.slice P.ia N.ins.length P.ic,.slice P.ka N.cols.length P.kc,.int .i64 N.bd] 61)).alloc (.cells #[.string N.nm,.int .i64 N.op.k,.slice Q.p.ea N.op.ex.length Q.p.ec,.slice Q.p.na N.op.nm.length Q.p.nc,.slice Q.p.ca N.op.c.length Q.p.cc,.slice Q.p.ra N.op.r.length Q.p.rc,.slice Q.p.ka N.op.ks.length Q.p.kc,.slice Q.p.oa N.op.os.length Q.p.oc,.int .i64 N.op.wk,.int .i64 N.op.ws,.int .i64 N.op.wt,.slice Q.p.ga N.op.ag.length Q.p.gc,.bool N.op.ou,.slice Q.ia N.ins.length Q.ic,.slice Q.ka N.cols.length Q.kc,.int .i64 N.bd] 61))=V0 at *
   have HV:=jg (HBR.out.trans (HB2.out.mono HBR.out.size))
   have HN1:=jg (HN1.out.later HB2.out)
   have HN2:=jg (HN2.out.later HB2.out)
   have x0:=HX1.out.c 0 rfl
   have x1:=HX1.out.c 1 rfl
   have x2:=HX1.out.c 2 rfl
   have x3:=HX1.out.c 3 rfl
   have x4:=HX1.out.c 4 rfl
   have x5:=HX1.out.c 5 rfl
   have x6:=HX1.out.c 6 rfl
   have x7:=HX1.out.c 7 rfl
   have x8:=HX1.out.c 8 rfl
   have x9:=HX1.out.c 9 rfl
   have x10:=HX1.out.c 10 rfl
   have x11:=HX1.out.c 11 rfl
   have x12:=HX1.out.c 12 rfl
   have x13:=HX1.out.c 13 rfl
   have x14:=HX1.out.c 14 rfl
   have x15:=HX1.out.c 15 rfl
   have y0:=HX2.out.c 0 rfl
   have y1:=HX2.out.c 1 rfl
   have y2:=HX2.out.c 2 rfl
   have y3:=HX2.out.c 3 rfl
   have y4:=HX2.out.c 4 rfl
   have y5:=HX2.out.c 5 rfl
   have y6:=HX2.out.c 6 rfl
   have y7:=HX2.out.c 7 rfl
   have y8:=HX2.out.c 8 rfl
   have y9:=HX2.out.c 9 rfl
   have y10:=HX2.out.c 10 rfl
   have y11:=HX2.out.c 11 rfl
   have y12:=HX2.out.c 12 rfl
   have y13:=HX2.out.c 13 rfl
   have y14:=HX2.out.c 14 rfl
   have y15:=HX2.out.c 15 rfl
   have lx:=HX1.out.lt
   have ly:=HX2.out.lt
   have HCC:=jg (ve N.op P.p Q.p V0 HN1.out.o HN2.out.o z0)
   go_wp2_with fail
   refine HCC.out.mono ?_
   rintro e V1 ⟨rfl,hb⟩
   have HX1_1:=jg (HX1.out.later hb)
   have HX2_1:=jg (HX2.out.later hb)
   have HN1_1:=jg (HN1.out.later hb)
   have HN2_1:=jg (HN2.out.later hb)
   have HV_1:=jg (HV.out.trans (hb.mono HV.out.size))
   have x0:=HX1_1.out.c 0 rfl
   have x1:=HX1_1.out.c 1 rfl
   have x2:=HX1_1.out.c 2 rfl
   have x3:=HX1_1.out.c 3 rfl
   have x4:=HX1_1.out.c 4 rfl
   have x5:=HX1_1.out.c 5 rfl
   have x6:=HX1_1.out.c 6 rfl
   have x7:=HX1_1.out.c 7 rfl
   have x8:=HX1_1.out.c 8 rfl
   have x9:=HX1_1.out.c 9 rfl
   have x10:=HX1_1.out.c 10 rfl
   have x11:=HX1_1.out.c 11 rfl
   have x12:=HX1_1.out.c 12 rfl
   have x13:=HX1_1.out.c 13 rfl
   have x14:=HX1_1.out.c 14 rfl
   have x15:=HX1_1.out.c 15 rfl
   have y0:=HX2_1.out.c 0 rfl
   have y1:=HX2_1.out.c 1 rfl
   have y2:=HX2_1.out.c 2 rfl
   have y3:=HX2_1.out.c 3 rfl
   have y4:=HX2_1.out.c 4 rfl
   have y5:=HX2_1.out.c 5 rfl
   have y6:=HX2_1.out.c 6 rfl
   have y7:=HX2_1.out.c 7 rfl
   have y8:=HX2_1.out.c 8 rfl
   have y9:=HX2_1.out.c 9 rfl
   have y10:=HX2_1.out.c 10 rfl
   have y11:=HX2_1.out.c 11 rfl
   have y12:=HX2_1.out.c 12 rfl
   have y13:=HX2_1.out.c 13 rfl
   have y14:=HX2_1.out.c 14 rfl
   have y15:=HX2_1.out.c 15 rfl
   have lx:=HX1_1.out.lt
   have ly:=HX2_1.out.lt
   have HCC:=jg (kH N.ins P.ia Q.ia P.ic Q.ic V1 HN1_1.out.i HN2_1.out.i zi)
   go_wp2_with fail
   refine HCC.out.mono ?_
   rintro e V2 ⟨rfl,hb⟩
   have HX1_2:=jg (HX1_1.out.later hb)
   have HX2_2:=jg (HX2_1.out.later hb)
   have HN1_2:=jg (HN1_1.out.later hb)
   have HN2_2:=jg (HN2_1.out.later hb)
   have HV_2:=jg (HV_1.out.trans (hb.mono HV_1.out.size))
   have x0:=HX1_2.out.c 0 rfl
   have x1:=HX1_2.out.c 1 rfl
   have x2:=HX1_2.out.c 2 rfl
   have x3:=HX1_2.out.c 3 rfl
   have x4:=HX1_2.out.c 4 rfl
   have x5:=HX1_2.out.c 5 rfl
   have x6:=HX1_2.out.c 6 rfl
   have x7:=HX1_2.out.c 7 rfl
   have x8:=HX1_2.out.c 8 rfl
   have x9:=HX1_2.out.c 9 rfl
   have x10:=HX1_2.out.c 10 rfl
   have x11:=HX1_2.out.c 11 rfl
   have x12:=HX1_2.out.c 12 rfl
   have x13:=HX1_2.out.c 13 rfl
   have x14:=HX1_2.out.c 14 rfl
   have x15:=HX1_2.out.c 15 rfl
   have y0:=HX2_2.out.c 0 rfl
   have y1:=HX2_2.out.c 1 rfl
   have y2:=HX2_2.out.c 2 rfl
   have y3:=HX2_2.out.c 3 rfl
   have y4:=HX2_2.out.c 4 rfl
   have y5:=HX2_2.out.c 5 rfl
   have y6:=HX2_2.out.c 6 rfl
   have y7:=HX2_2.out.c 7 rfl
   have y8:=HX2_2.out.c 8 rfl
   have y9:=HX2_2.out.c 9 rfl
   have y10:=HX2_2.out.c 10 rfl
   have y11:=HX2_2.out.c 11 rfl
   have y12:=HX2_2.out.c 12 rfl
   have y13:=HX2_2.out.c 13 rfl
   have y14:=HX2_2.out.c 14 rfl
   have y15:=HX2_2.out.c 15 rfl
   have lx:=HX1_2.out.lt
   have ly:=HX2_2.out.lt
   have HCC:=jg (kx N.cols P.ka Q.ka P.kc Q.kc V2 HN1_2.out.c HN2_2.out.c zc)
   go_wp2_with fail
   refine HCC.out.mono ?_
   rintro e V3 ⟨rfl,hb⟩
   have HX1_3:=jg (HX1_2.out.later hb)
   have HX2_3:=jg (HX2_2.out.later hb)
   have HN1_3:=jg (HN1_2.out.later hb)
   have HN2_3:=jg (HN2_2.out.later hb)
   have HV_3:=jg (HV_2.out.trans (hb.mono HV_2.out.size))
   have x0:=HX1_3.out.c 0 rfl
   have x1:=HX1_3.out.c 1 rfl
   have x2:=HX1_3.out.c 2 rfl
   have x3:=HX1_3.out.c 3 rfl
   have x4:=HX1_3.out.c 4 rfl
   have x5:=HX1_3.out.c 5 rfl
   have x6:=HX1_3.out.c 6 rfl
   have x7:=HX1_3.out.c 7 rfl
   have x8:=HX1_3.out.c 8 rfl
   have x9:=HX1_3.out.c 9 rfl
   have x10:=HX1_3.out.c 10 rfl
   have x11:=HX1_3.out.c 11 rfl
   have x12:=HX1_3.out.c 12 rfl
   have x13:=HX1_3.out.c 13 rfl
   have x14:=HX1_3.out.c 14 rfl
   have x15:=HX1_3.out.c 15 rfl
   have y0:=HX2_3.out.c 0 rfl
   have y1:=HX2_3.out.c 1 rfl
   have y2:=HX2_3.out.c 2 rfl
   have y3:=HX2_3.out.c 3 rfl
   have y4:=HX2_3.out.c 4 rfl
   have y5:=HX2_3.out.c 5 rfl
   have y6:=HX2_3.out.c 6 rfl
   have y7:=HX2_3.out.c 7 rfl
   have y8:=HX2_3.out.c 8 rfl
   have y9:=HX2_3.out.c 9 rfl
   have y10:=HX2_3.out.c 10 rfl
   have y11:=HX2_3.out.c 11 rfl
   have y12:=HX2_3.out.c 12 rfl
   have y13:=HX2_3.out.c 13 rfl
   have y14:=HX2_3.out.c 14 rfl
   have y15:=HX2_3.out.c 15 rfl
   have lx:=HX1_3.out.lt
   have ly:=HX2_3.out.lt
   go_wp2_with fail
   go_roundg (gk-1)
   case measure=>omega
   case rel=>exact ⟨j+1,by omega,by go_num,HV_3.out⟩
  ·obtain rfl:j=ps.length:=by omega
   have hji:¬ ((ps.length:Nat):Int)<(ps.length:Int):=by omega
   go_wp2_with fail
   go_ret
   exact ⟨rfl,HBB.out.trans (HBR.out.mono HBB.out.size)⟩
end Jp
namespace Jp
open Go.RowKit
def sh (d:Nat) (t:Tk):Tk:=⟨t.pl+d,t.kd,t.tx⟩
theorem iL (n pl:Nat):tok n pl []=.ok []:=by cases n<;>rfl
theorem dK (n pl:Nat) (c:UInt8) (r:List UInt8):tok (n+1) pl (c::r)=if eO c then tok n (pl+1) r else match bJ (c::r) with
 | none=>.error pl
 | some (kd,len)=>(tok n (pl+len) ((c::r).drop len)).map fun l=>⟨pl,kd,⟨((c::r).take len).toArray⟩⟩::l:=by rw [tok]<;>rfl
theorem iK:∀ (n m pl:Nat) (l:List UInt8),l.length<=n->l.length<=m->tok n pl l=tok m pl l
 | n,m,pl,[],_,_=>by rw [iL,iL]
 | 0,m,pl,c::r,h,_=>by simp at h
 | n+1,0,pl,c::r,_,h=>by simp at h
 | n+1,m+1,pl,c::r,h1,h2=>by
  simp only [List.length_cons] at h1 h2
  rw [dK,dK]
  split
  ·exact iK n m _ r (by omega) (by omega)
  ·cases ht:bJ (c::r) with
   | none=>rfl
   | some p=>
    obtain ⟨kd,len⟩:=p
    have hl:=fh ht
    simp only
    rw [iK n m _ _ (by rw [List.length_drop,List.length_cons];omega) (by rw [List.length_drop,List.length_cons];omega)]
theorem tm (d:Nat):∀ (n pl:Nat) (l:List UInt8) (ts:List Tk),tok n pl l=.ok ts->tok n (pl+d) l=.ok (ts.map (sh d))
 | n,pl,[],ts,h=>by rw [iL] at h ⊢;cases h;rfl
 | 0,pl,c::r,ts,h=>by cases h
 | n+1,pl,c::r,ts,h=>by
  rw [dK] at h ⊢
  split at h
  ·rename_i hs
   rw [if_pos hs,show pl+d+1=pl+1+d by omega]
   exact tm d n _ r ts h
  ·rename_i hs
   rw [if_neg hs]
   cases ht:bJ (c::r) with
   | none=>rw [ht] at h;cases h
   | some p=>
    obtain ⟨kd,len⟩:=p
    rw [ht] at h
    simp only at h ⊢
    obtain ⟨l',h1,rfl⟩:=Bp.map_ok h
    rw [show pl+d+len=pl+len+d by omega,tm d n _ _ l' h1]
    rfl
theorem rH:∀ (l rest:List UInt8),bp rest=0->bp (l++rest)=bp l
 | [],rest,h=>by simpa [bp] using h
 | c::r,rest,h=>by
  rw [List.cons_append,Bp.wLen_cons,Bp.wLen_cons,rH r rest h]
theorem vW {l rest:List UInt8} {kd len:Nat} (h:bJ l=some (kd,len)) (hb:Bp.Bdy rest):bJ (l++rest)=some (kd,len):=by
 cases l with
 | nil=>cases h
 | cons c r=>
  have hw:=rH (c::r) rest (Bp.bdy_nw hb)
  rw [List.cons_append] at hw ⊢
  rw [Bp.tokAt_cons] at h ⊢
  by_cases hd:eS c=true
  ·rw [if_pos hd] at h ⊢
   rw [hw];exact h
  rw [if_neg hd] at h ⊢
  by_cases hwb:dZ c=true
  ·rw [if_pos hwb] at h ⊢
   rw [hw];exact h
  rw [if_neg hwb] at h ⊢
  by_cases hq:c=39
  ·rw [if_pos hq] at h ⊢
   cases hf:r.findIdx? (·==39) with
   | none=>rw [hf] at h;cases h
   | some i=>
    rw [hf] at h
    rw [List.findIdx?_append,hf]
    exact h
  rw [if_neg hq] at h ⊢
  have e:cL (c::(r++rest))=cL (c::r):=by
   cases r with
   | cons d r'=>unfold cL;simp
   | nil=>
    cases rest with
    | nil=>rfl
    | cons d q=>
     have:=hb d rfl
     unfold cL
     rcases this with rfl | rfl | rfl | rfl<;>simp
  rw [e];exact h
theorem pu:∀ (n pl:Nat) (l rest:List UInt8) (ts:List Tk) (m:Nat),tok n pl l=.ok ts->Bp.Bdy rest->(l++rest).length<=m->tok m pl (l++rest)=(tok m (pl+l.length) rest).map (ts++·)
 | n,pl,[],rest,ts,m,h,hb,hm=>by
  rw [iL] at h
  cases h
  show tok m pl rest=_
  cases tok m (pl+0) rest<;>simp [Except.map]
 | 0,pl,c::r,rest,ts,m,h,hb,hm=>by cases h
 | n+1,pl,c::r,rest,ts,0,h,hb,hm=>by simp at hm
 | n+1,pl,c::r,rest,ts,m+1,h,hb,hm=>by
  rw [List.cons_append] at hm ⊢
  simp only [List.length_cons,List.length_append] at hm
  rw [dK] at h ⊢
  split at h
  ·rename_i hs
   rw [if_pos hs,pu n (pl+1) r rest ts m h hb (by simp;omega),iK m (m+1) _ rest (by omega) (by omega),show pl+1+r.length=pl+(c::r).length by simp;omega]
  ·rename_i hs
   rw [if_neg hs]
   cases ht:bJ (c::r) with
   | none=>rw [ht] at h;cases h
   | some p=>
    obtain ⟨kd,len⟩:=p
    rw [ht] at h
    have ht':=vW ht hb
    rw [List.cons_append] at ht'
    rw [ht']
    have hl:=fh ht
    simp only [List.length_cons] at hl
    simp only at h ⊢
    obtain ⟨l',h1,rfl⟩:=Bp.map_ok h
    rw [<-List.cons_append,List.drop_append_of_le_length (by simp;omega),List.take_append_of_le_length (by simp;omega)]
    rw [pu n (pl+len) ((c::r).drop len) rest l' m h1 hb (by simp;omega),iK m (m+1) _ rest (by omega) (by omega),show pl+len+((c::r).drop len).length=pl+(c::r).length by simp;omega]
    cases tok (m+1) (pl+(c::r).length) rest<;>simp [Except.map]
def Tt (a:List UInt8) (ts:List Tk):Prop:=tok a.length 0 a=.ok ts
theorem xO (a b:Nat) (ts:List Tk):(ts.map (sh a)).map (sh b)=ts.map (sh (a+b)):=by
 rw [List.map_map]
 apply List.map_congr_left
 intro t _
 simp [sh,Nat.add_assoc]
theorem zW (ts:List Tk):ts.map (sh 0)=ts:=by
 have:sh 0=id:=by funext t;simp [sh]
 rw [this,List.map_id]
theorem Tt.at {a:List UInt8} {ts:List Tk} (h:Tt a ts) {n pl:Nat} (hn:a.length<=n):tok n pl a=.ok (ts.map (sh pl)):=by
 have:=tm pl _ _ _ _ h
 rw [Nat.zero_add] at this
 rw [iK n a.length pl a hn lR]
 exact this
theorem Tt.app {a b:List UInt8} {ts us:List Tk} (h:Tt a ts) (hb:Bp.Bdy b) (h2:Tt b us):Tt (a++b) (ts++us.map (sh a.length)):=by
 unfold Tt
 rw [pu _ 0 a b ts _ h hb lR,Nat.zero_add,h2.at (by simp)]
 rfl
theorem Tt.sp {b:List UInt8} {us:List Tk} (h:Tt b us):Tt (32::b) (us.map (sh 1)):=by
 unfold Tt
 rw [List.length_cons,dK,if_pos (by decide)]
 exact h.at lR
theorem Tt.sign {c:UInt8} {b:List UInt8} {us:List Tk} (hc:c=40\/c=41\/c=44) (h:Tt b us):Tt (c::b) (⟨0,4,⟨#[c]⟩⟩::us.map (sh 1)):=by
 have e:bJ (c::b)=some (4,1):=by
  have h1:eS c=false:=by rcases hc with rfl | rfl | rfl<;>decide
  have h2:dZ c=false:=by rcases hc with rfl | rfl | rfl<;>decide
  have h3:c≠39:=by rcases hc with rfl | rfl | rfl<;>decide
  have h4:cL (c::b)=1:=by
   unfold cL
   rw [if_neg,if_pos]
   ·rcases hc with rfl | rfl | rfl<;>simp
   ·cases b with
    | nil=>simp
    | cons d q=>rcases hc with rfl | rfl | rfl<;>simp
  rw [Bp.tokAt_cons,h1,h2,h4]
  simp [h3]
 unfold Tt
 rw [List.length_cons,dK,if_neg (by rcases hc with rfl | rfl | rfl<;>decide),e]
 simp only [List.drop_succ_cons,List.drop_zero,List.take_succ_cons,List.take_zero]
 rw [h.at lR]
 rfl
theorem Tt.one {kd:Nat} {s:ByteArray} (h:Bp.TkOk kd s):Tt s.data.toList [⟨0,kd,s⟩]:=by
 obtain ⟨⟨c,r,e,hs⟩,h2⟩:=h
 have h3:=h2 [] (fun c h=>by cases h)
 rw [List.append_nil] at h3
 have hz:s.size=(c::r).length:=by rw [<-e];simp
 have hsd:s=⟨(c::r).toArray⟩:=by rw [<-e]
 unfold Tt
 rw [e] at h3 ⊢
 rw [List.length_cons,dK,if_neg (by simp [hs]),h3]
 simp only
 rw [hz,List.drop_length,List.take_length,iL,<-hsd]
 rfl
theorem Tt.nil:Tt [] []:=rfl
def vu (line:ByteArray) (p:Nat) (a:List UInt8):Prop:=(line.data.toList.drop p).take a.length=a
theorem vu.app {line:ByteArray} {p:Nat} {a b:List UInt8} (h:vu line p (a++b)):vu line p a/\vu line (p+a.length) b:=by
 unfold vu at *
 constructor
 ·have:=congrArg (List.take a.length) h
  rw [List.take_take,List.take_left] at this
  rw [show min a.length (a++b).length=a.length by simp] at this
  exact this
 ·have:=congrArg (List.drop a.length) h
  rw [List.drop_take,List.drop_left,List.drop_drop] at this
  rw [show (a++b).length-a.length=b.length by simp] at this
  exact this
theorem vu.self (line:ByteArray):vu line 0 line.data.toList:=by unfold vu;rw [List.drop_zero,List.take_length]
def Rd (a:List UInt8) (Φ:ByteArray->List Tk->Prop):Prop:=∃ ts,Tt a ts/\∀ line p,vu line p a->Φ line (ts.map (sh p))
theorem Rd.mono {a:List UInt8} {Φ Ψ:ByteArray->List Tk->Prop} (h:Rd a Φ) (hi:∀ line u,Φ line u->Ψ line u):Rd a Ψ:=by
 obtain ⟨ts,h1,h2⟩:=h
 exact ⟨ts,h1,fun line p hs=>hi _ _ (h2 line p hs)⟩
theorem Rd.app {a b:List UInt8} {Φ Ψ:ByteArray->List Tk->Prop} (h:Rd a Φ) (hb:Bp.Bdy b) (h2:Rd b Ψ):Rd (a++b) (fun line u=>∃ u1 u2,u=u1++u2/\Φ line u1/\Ψ line u2):=by
 obtain ⟨ts,h1,h2'⟩:=h
 obtain ⟨us,h3,h4⟩:=h2
 refine ⟨_,h1.app hb h3,fun line p hs=>?_⟩
 obtain ⟨s1,s2⟩:=hs.app
 refine ⟨_,_,List.map_append,h2' line p s1,?_⟩
 rw [xO,Nat.add_comm]
 exact h4 line _ s2
theorem Rd.sp {b:List UInt8} {Φ:ByteArray->List Tk->Prop} (h:Rd b Φ):Rd (32::b) Φ:=by
 obtain ⟨us,h3,h4⟩:=h
 refine ⟨_,h3.sp,fun line p hs=>?_⟩
 rw [xO,Nat.add_comm]
 exact h4 line _ (vu.app (a:=[32]) hs).2
theorem Rd.sign {c:UInt8} {b:List UInt8} {Φ:ByteArray->List Tk->Prop} (hc:c=40\/c=41\/c=44) (h:Rd b Φ):Rd (c::b) (fun line u=>∃ q u',u=⟨q,4,⟨#[c]⟩⟩::u'/\Φ line u'):=by
 obtain ⟨us,h3,h4⟩:=h
 refine ⟨_,h3.sign hc,fun line p hs=>⟨0+p,_,rfl,?_⟩⟩
 rw [xO,Nat.add_comm]
 exact h4 line _ (vu.app (a:=[c]) hs).2
theorem Rd.one {kd:Nat} {s:ByteArray} (h:Bp.TkOk kd s):Rd s.data.toList (fun line u=>∃ q,u=[⟨q,kd,s⟩]):=⟨_,Tt.one h,fun line p hs=>⟨0+p,rfl⟩⟩
theorem Rd.nil:Rd [] (fun line u=>u=[]):=⟨[],Tt.nil,fun line p hs=>rfl⟩
theorem Rd.two {a b:List UInt8} {Φ Ψ:ByteArray->List Tk->Prop} (h:Rd a Φ) (h2:Rd b Ψ):Rd (a++32::b) (fun line u=>∃ u1 u2,u=u1++u2/\Φ line u1/\Ψ line u2):=h.app (fun c h=>by cases h;exact .inl rfl) h2.sp
theorem Rd.line {line:ByteArray} {Φ:ByteArray->List Tk->Prop} (h:Rd line.data.toList Φ):∃ ts,tok line.size 0 line.data.toList=.ok ts/\Φ line ts:=by
 obtain ⟨ts,h1,h2⟩:=h
 have h3:=h2 line 0 (vu.self line)
 rw [zW] at h3
 refine ⟨ts,?_,h3⟩
 have e:line.data.toList.length=line.size:=by simp
 rw [<-e]
 exact h1
end Jp
namespace Jp
open Go.RowKit Oo
def jn (sep:ByteArray) (l:List ByteArray):ByteArray:=⟨(Lib.join (l.map (·.data.toList)) sep.data.toList).toArray⟩
theorem dp (sep:ByteArray) (l:List ByteArray):(jn sep l).data.toList=Lib.join (l.map (·.data.toList)) sep.data.toList:=by simp [jn]
def eB:ByteArray:=⟨#[]⟩
def DO:ByteArray:=⟨#[32]⟩
def eL:ByteArray:=⟨#[44,32]⟩
def Au:ByteArray:=⟨#[32,97,110,100,32]⟩
def aE (l:List ByteArray):ByteArray:=jn DO (l.filter fun s=>decide (s≠eB))
theorem bS {kd:Nat} {s:ByteArray} {c:UInt8} {r:List UInt8} (e:s.data.toList=c::r) (hs:eO c=false) (h:bJ s.data.toList=some (kd,s.size)):Bp.TkOk kd s:=by
 have hz:s.size=(c::r).length:=by rw [<-e];simp
 have:=Bp.tokAt_ok hs (by rw [<-e];exact h)
 rw [hz,List.take_length,<-e] at this
 exact this
theorem DD {s:ByteArray} (h:iX s):Bp.TkOk 1 s:=by
 have h1:=h.1
 unfold pg jm at h1
 cases e:s.data.toList with
 | nil=>rw [e] at h1;simp at h1
 | cons c r=>
  rw [e] at h1
  simp only [Bool.and_eq_true,Bool.not_eq_true',decide_eq_true_eq,decide_eq_false_iff_not] at h1
  obtain ⟨⟨⟨h2,h3⟩,h4⟩,h5⟩:=h1
  have hw:dZ c=true:=by
   rw [Bp.wLen_cons] at h3
   by_cases hc:dZ c=true
   ·exact hc
   ·rw [if_neg hc] at h3;simp at h3
  have hz:s.size=(c::r).length:=by rw [<-e];simp
  refine bS e ?_ ?_
  ·unfold eO
   rcases hsp:(c==32||c==9||c==10) with _ | _
   ·rfl
   ·exfalso
    simp at hsp
    rcases hsp with (rfl | rfl) | rfl<;>exact absurd hw (by decide)
  ·rw [e,Bp.tokAt_cons,h2,hw,h3,hz]
   simp
theorem cQ {s:ByteArray} (h:iX s):s≠eB:=by
 intro e
 subst e
 exact absurd h.1 (by decide)
theorem dt {s:ByteArray} (h:iX s):Rd s.data.toList (fun line u=>∃ q,u=[⟨q,1,s⟩]):=Rd.one (DD h)
theorem ee {E q:Nat} {s:ByteArray} {rest:List Tk} (h:iX s):bm E (⟨q,1,s⟩::rest)=.ok (s,rest):=by
 have hz:=h.1
 unfold bm
 rw [if_neg,if_pos (show pg (hd E (⟨q,1,s⟩::rest)).tx=true/\pF (hd E (⟨q,1,s⟩::rest)).tx=false from ⟨h.1,h.2⟩)]
 ·rfl
 ·unfold pg at hz
  simp at hz
  show ¬ (1=1/\12<s.size)
  omega
theorem aW {E q kd:Nat} {s:ByteArray} {l:List ByteArray} {rest:List Tk} (h:s∈l):aM E l (⟨q,kd,s⟩::rest)=.ok (s,rest):=by
 unfold aM
 rw [if_pos (show nx (hd E (⟨q,kd,s⟩::rest)).tx l=true from (fq _ _).2 h)]
 rfl
theorem gw {E q kd:Nat} {s:ByteArray} {rest:List Tk}:cq E s (⟨q,kd,s⟩::rest)=(true,rest):=by
 unfold cq
 rw [if_pos (show (hd E (⟨q,kd,s⟩::rest)).tx=s from rfl)]
 rfl
theorem eZ {E:Nat} {x:ByteArray} {ts:List Tk} (h:(hd E ts).tx≠x):cq E x ts=(false,ts):=by
 unfold cq
 rw [if_neg h]
theorem kG {ws:List (ByteArray × Int)} {E q kd:Nat} {s:ByteArray} {k:Int} {rest:List Tk} (h:lW ws s=some k):nq ws E (⟨q,kd,s⟩::rest)=.ok (k,rest):=by
 unfold nq
 rw [show lW ws (hd E (⟨q,kd,s⟩::rest)).tx=some k from h]
 rfl
theorem xG {c:List Co} {s:ByteArray} {j:Nat} (h:ch c s=some j):∃ x,c[j]?=some x/\x.nm=s:=by
 unfold ch at h
 rw [List.findIdx?_eq_some_iff_getElem] at h
 obtain ⟨h1,h2,_⟩:=h
 exact ⟨c[j],List.getElem?_eq_getElem h1,by simpa using h2⟩
theorem wY {l:List aJ} {s:ByteArray} {j:Nat} (h:dN l s=some j):∃ x,l[j]?=some x/\x.nm=s:=by
 unfold dN at h
 rw [List.findIdx?_eq_some_iff_getElem] at h
 obtain ⟨h1,h2,_⟩:=h
 exact ⟨l[j],List.getElem?_eq_getElem h1,by simpa using h2⟩
def dO (c:List Co) (i:Int):ByteArray:=(c[i.toNat]?.map (·.nm)).getD eB
def cg (l:List aJ) (i:Int):ByteArray:=(l[i.toNat]?.map (·.nm)).getD eB
theorem fH.nm {c:List Co} {i:Int} (h:fH c i):iX (dO c i)/\ch c (dO c i)=some i.toNat/\i=(i.toNat:Int):=by
 obtain ⟨j,s,rfl,h1,h2⟩:=h
 obtain ⟨x,h3,h4⟩:=xG h2
 have e:dO c (j:Int)=s:=by unfold dO;rw [Int.toNat_natCast,h3];exact h4
 rw [e,Int.toNat_natCast]
 exact ⟨h1,h2,rfl⟩
theorem fC.nm {l:List aJ} {i:Int} (h:fC l i):iX (cg l i)/\dN l (cg l i)=some i.toNat/\i=(i.toNat:Int)/\(l[i.toNat]?.map fun n=>n.op.k)≠some 7:=by
 obtain ⟨j,s,rfl,h1,h2,h5⟩:=h
 obtain ⟨x,h3,h4⟩:=wY h2
 have e:cg l (j:Int)=s:=by unfold cg;rw [Int.toNat_natCast,h3];exact h4
 rw [e,Int.toNat_natCast]
 exact ⟨h1,h2,rfl,h5⟩
theorem lH {c:List Co} {i:Int} {E q:Nat} {rest:List Tk} (h:fH c i):fK c E (⟨q,1,dO c i⟩::rest)=.ok (i,rest):=by
 obtain ⟨h1,h2,h3⟩:=h.nm
 unfold fK
 rw [ee h1]
 simp only [h2]
 rw [<-h3]
theorem tv {l:List aJ} {i:Int} {E q:Nat} {rest:List Tk} (h:fC l i):lM l E (⟨q,1,cg l i⟩::rest)=.ok (i,rest):=by
 obtain ⟨h1,h2,h3,h4⟩:=h.nm
 unfold lM
 rw [ee h1]
 simp only [h2]
 rw [if_neg h4,<-h3]
def gy (n:Int):ByteArray:=⟨(Lib.itoa n).toArray⟩
theorem lI {rd:R1} {n:Int} {E q:Nat} {rest:List Tk} (h:rd (gy n)=some n):jW rd E (⟨q,2,gy n⟩::rest)=.ok (n,rest):=by
 unfold jW
 rw [if_pos (show (hd E (⟨q,2,gy n⟩::rest)).kd=2 from rfl),show rd (hd E (⟨q,2,gy n⟩::rest)).tx=some n from h]
 rfl
theorem uG {α β:Type} (f:α->List UInt8) (rdr:ByteArray->List Tk->Except Nat (β × List Tk)) (g:α->β) (sepT:ByteArray) (sepB:List UInt8) (St:ByteArray->List Tk->Prop)
 (hsep:∀ b Φ,Rd b Φ->Rd (sepB++b) (fun line u=>∃ q kd u',u=⟨q,kd,sepT⟩::u'/\Φ line u')) (hbd:∀ b,Bp.Bdy (sepB++b)) (hst:∀ line q kd us,St line (⟨q,kd,sepT⟩::us)) :
 ∀ l:List α,(∀ y∈l,Rd (f y) (fun line u=>∀ rest,St line rest->rdr line (u++rest)=.ok (g y,rest)))->
  Rd (Lib.joinTail sepB (l.map f)) (fun line u=>l.length<=u.length/\(l=[]->u=[])/\(l≠[]->∃ q kd u',u=⟨q,kd,sepT⟩::u')/\∀ rest n acc,l.length<n->St line rest->(hd line.size rest).tx≠sepT->eD line.size (rdr line) sepT n acc (u++rest)=.ok (acc++l.map g,rest))/\Bp.Bdy (Lib.joinTail sepB (l.map f))
 | [],h=>by
  refine ⟨Rd.nil.mono fun line u hu=>?_,fun c h=>by cases h⟩
  subst hu
  refine ⟨lR,fun _=>rfl,fun h=>absurd rfl h,fun rest n acc hn hs hne=>?_⟩
  cases n with
  | zero=>omega
  | succ n=>rw [List.nil_append,eD,if_neg hne];simp
 | x::l,h=>by
  obtain ⟨ih,ihb⟩:=uG f rdr g sepT sepB St hsep hbd hst l (fun y hy=>h y (by simp [hy]))
  have e:Lib.joinTail sepB ((x::l).map f)=sepB++(f x++Lib.joinTail sepB (l.map f)):=by simp [Lib.joinTail]
  rw [e]
  refine ⟨(hsep _ _ ((h x (by simp)).app ihb ih)).mono fun line u hu=>?_,hbd _⟩
  obtain ⟨q,kd,u',rfl,u1,u2,rfl,h1,h2,h2a,h2b,h3⟩:=hu
  refine ⟨by simp;omega,fun h=>by simp at h,fun _=>⟨q,kd,_,rfl⟩,fun rest n acc hn hs hne=>?_⟩
  cases n with
  | zero=>simp at hn
  | succ n=>
   rw [List.cons_append,eD,if_pos (show (hd line.size (⟨q,kd,sepT⟩::(u1++u2++rest))).tx=sepT from rfl),List.tail_cons,List.append_assoc,h1 (u2++rest) (by
    cases l with
    | nil=>rw [h2a rfl];exact hs
    | cons y l=>obtain ⟨q',kd',u'',hu⟩:=h2b (by simp);rw [hu];exact hst _ _ _ _)]
   simp only
   rw [h3 rest n (acc++[g x]) (by simp at hn;omega) hs hne]
   simp
theorem iV {α β:Type} (f:α->List UInt8) (rdr:ByteArray->List Tk->Except Nat (β × List Tk)) (g:α->β) (sepT:ByteArray) (sepB:List UInt8) (St:ByteArray->List Tk->Prop)
 (hsep:∀ b Φ,Rd b Φ->Rd (sepB++b) (fun line u=>∃ q kd u',u=⟨q,kd,sepT⟩::u'/\Φ line u')) (hbd:∀ b,Bp.Bdy (sepB++b)) (hst:∀ line q kd us,St line (⟨q,kd,sepT⟩::us))
 (l:List α) (hl:l≠[]) (h:∀ y∈l,Rd (f y) (fun line u=>∀ rest,St line rest->rdr line (u++rest)=.ok (g y,rest))) :
 Rd (Lib.join (l.map f) sepB) (fun line u=>∀ rest,St line rest->(hd line.size rest).tx≠sepT->bg line.size (rdr line) sepT (u++rest)=.ok (l.map g,rest)):=by
 cases l with
 | nil=>exact absurd rfl hl
 | cons x l=>
  obtain ⟨ih,ihb⟩:=uG f rdr g sepT sepB St hsep hbd hst l (fun y hy=>h y (by simp [hy]))
  rw [List.map_cons,Lib.join_cons]
  refine ((h x (by simp)).app ihb ih).mono fun line u hu rest hs hne=>?_
  obtain ⟨u1,u2,rfl,h1,h2,h2a,h2b,h3⟩:=hu
  unfold bg
  rw [List.append_assoc,h1 (u2++rest) (by
   cases l with
   | nil=>rw [h2a rfl];exact hs
   | cons y l=>obtain ⟨q',kd',u'',hu⟩:=h2b (by simp);rw [hu];exact hst _ _ _ _)]
  simp only
  rw [h3 rest _ [g x] (by rw [List.length_append];omega) hs hne]
  simp
theorem mq (b:List UInt8) (Φ:ByteArray->List Tk->Prop) (h:Rd b Φ):Rd (eL.data.toList++b) (fun line u=>∃ q kd u',u=⟨q,kd,dw⟩::u'/\Φ line u'):=by
 refine (Rd.sign (c:=44) (.inr (.inr rfl)) h.sp).mono fun line u hu=>?_
 obtain ⟨q,u',rfl,hu⟩:=hu
 exact ⟨q,4,u',rfl,hu⟩
theorem jR (b:List UInt8):Bp.Bdy (eL.data.toList++b):=fun c h=>by cases h;exact .inr (.inr (.inr rfl))
theorem BU:Bp.TkOk 1 ⟨#[97,110,100]⟩:=bS (c:=97) (r:=[110,100]) rfl (by decide) (by decide)
theorem Cz (b:List UInt8) (Φ:ByteArray->List Tk->Prop) (h:Rd b Φ):Rd (Au.data.toList++b) (fun line u=>∃ q kd u',u=⟨q,kd,⟨#[97,110,100]⟩⟩::u'/\Φ line u'):=by
 refine (((Rd.one BU).two h).sp).mono fun line u hu=>?_
 obtain ⟨u1,u2,rfl,⟨q,rfl⟩,hu⟩:=hu
 exact ⟨q,1,u2,rfl,hu⟩
theorem Cn (b:List UInt8):Bp.Bdy (Au.data.toList++b):=fun c h=>by cases h;exact .inl rfl
end Jp
end Go.Proofs.YtiiliobffnhpmaaGreatDoor
