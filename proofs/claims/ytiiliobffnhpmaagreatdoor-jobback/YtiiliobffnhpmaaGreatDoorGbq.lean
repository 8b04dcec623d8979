import Derived.Test.YtiiliobffnhpmaaGreatDoorGbp
set_option linter.all false
set_option maxRecDepth 100000
set_option maxHeartbeats 4000000
namespace Go.Proofs.YtiiliobffnhpmaaGreatDoor.Jp
open Go.RowKit Oo
theorem wC (nmN:ByteArray) (ex nm:List ByteArray) (c r:List Co) (ks os:List Int) (wk ws wt:Int) (ag:List Oo.Ag) (ou:Bool) (ins:List Int) (cols:List Co) (bd:Int) (ea:Option Addr) (ec:Nat) (na:Option Addr) (nc:Nat) (ca:Option Addr) (cc:Nat) (ra:Option Addr) (rc:Nat) (ka:Option Addr) (kc:Nat) (oa:Option Addr) (oc:Nat) (ga:Option Addr) (gc:Nat) (ia:Option Addr) (ic:Nat) (kq:Option Addr) (kqc:Nat) (ps:List (aJ × bM)) (a:Option Addr) (cN:Nat) (w:World)
 (hnd:bw w ⟨nmN,⟨1,ex,nm,c,r,ks,os,wk,ws,wt,ag,ou⟩,ins,cols,bd⟩ ⟨⟨ea,ec,na,nc,ca,cc,ra,rc,ka,kc,oa,oc,ga,gc⟩,ia,ic,kq,kqc⟩) (hNL:NL w a ps) (hT:Vl.Tab w) (hpl:ps.length<=4096) (hnm:nmN.size<=12) (hpn:∀ q∈ps,q.1.nm.size<=12) (hck:∀ x∈c,(x.k=1\/x.k=2\/x.k=3)/\x.nm.size<=12) (hcn:c.length<=4096) (hbd:-9223372036854775808<=bd/\bd<=9223372036854775807) :
 Calls Tryz.prog 21 #[.agg #[.string nmN,.int .i64 1,.slice ea ex.length ec,.slice na nm.length nc,.slice ca c.length cc,.slice ra r.length rc,.slice ka ks.length kc,.slice oa os.length oc,.int .i64 wk,.int .i64 ws,.int .i64 wt,.slice ga ag.length gc,.bool ou,.slice ia ins.length ic,.slice kq cols.length kqc,.int .i64 bd],.slice a ps.length cN] w fun e w'=>e=.returned (.string (aE [aX,nmN,jb++cy c++ii,cC bd]))/\Below w.heap.size w w':=by
 have s1:=lf hcn (fun x hx=>(hck x hx).2)
 have s2:=ke hbd
 have HCS:Hid (∀ W,ap W ca c->Calls Tryz.prog 53 #[.slice ca c.length cc] W fun e w'=>e=.returned (.string (cy c))/\Below W.heap.size W w'):=fun W hW=>sy c ca cc W hW hcn hck
 have HBD:Hid (∀ W,Vl.Tab W->Calls Tryz.prog 54 #[.int .i64 bd] W fun e w'=>e=.returned (.string (cC bd))/\Below W.heap.size W w'):=fun W hW=>vS bd hbd W hW
 generalize cy c=CS at *
 generalize cC bd=BD at *
 have j1:(9223372036854775807<1+CS.size)=False:=by simp;omega
 have j2:(9223372036854775807<1+CS.size+1)=False:=by simp;omega
 have hB2:Below w.heap.size w ((w.alloc (.cells #[.string nmN,.int .i64 1,.slice ea ex.length ec,.slice na nm.length nc,.slice ca c.length cc,.slice ra r.length rc,.slice ka ks.length kc,.slice oa os.length oc,.int .i64 wk,.int .i64 ws,.int .i64 wt,.slice ga ag.length gc,.bool ou,.slice ia ins.length ic,.slice kq cols.length kqc,.int .i64 bd] 61)).alloc (.cells #[.slice a ps.length cN] 22)):=(ae w _).trans ((ae _ _).mono (ae w _).size)
 have HO0:Hid (aD ((w.alloc (.cells #[.string nmN,.int .i64 1,.slice ea ex.length ec,.slice na nm.length nc,.slice ca c.length cc,.slice ra r.length rc,.slice ka ks.length kc,.slice oa os.length oc,.int .i64 wk,.int .i64 ws,.int .i64 wt,.slice ga ag.length gc,.bool ou,.slice ia ins.length ic,.slice kq cols.length kqc,.int .i64 bd] 61)).alloc (.cells #[.slice a ps.length cN] 22)) w.heap.size 61 16 [.string nmN,.int .i64 1,.slice ea ex.length ec,.slice na nm.length nc,.slice ca c.length cc,.slice ra r.length rc,.slice ka ks.length kc,.slice oa os.length oc,.int .i64 wk,.int .i64 ws,.int .i64 wt,.slice ga ag.length gc,.bool ou,.slice ia ins.length ic,.slice kq cols.length kqc,.int .i64 bd]):=(aD.new w 61 16 #[.string nmN,.int .i64 1,.slice ea ex.length ec,.slice na nm.length nc,.slice ca c.length cc,.slice ra r.length rc,.slice ka ks.length kc,.slice oa os.length oc,.int .i64 wk,.int .i64 ws,.int .i64 wt,.slice ga ag.length gc,.bool ou,.slice ia ins.length ic,.slice kq cols.length kqc,.int .i64 bd] rfl).later (ae _ _)
 have HO1:Hid (aD ((w.alloc (.cells #[.string nmN,.int .i64 1,.slice ea ex.length ec,.slice na nm.length nc,.slice ca c.length cc,.slice ra r.length rc,.slice ka ks.length kc,.slice oa os.length oc,.int .i64 wk,.int .i64 ws,.int .i64 wt,.slice ga ag.length gc,.bool ou,.slice ia ins.length ic,.slice kq cols.length kqc,.int .i64 bd] 61)).alloc (.cells #[.slice a ps.length cN] 22)) (w.heap.size+1) 22 1 [.slice a ps.length cN]):=by
  have:=aD.new (w.alloc (.cells #[.string nmN,.int .i64 1,.slice ea ex.length ec,.slice na nm.length nc,.slice ca c.length cc,.slice ra r.length rc,.slice ka ks.length kc,.slice oa os.length oc,.int .i64 wk,.int .i64 ws,.int .i64 wt,.slice ga ag.length gc,.bool ou,.slice ia ins.length ic,.slice kq cols.length kqc,.int .i64 bd] 61)) 22 1 #[.slice a ps.length cN] rfl
  rw [show (w.alloc (.cells #[.string nmN,.int .i64 1,.slice ea ex.length ec,.slice na nm.length nc,.slice ca c.length cc,.slice ra r.length rc,.slice ka ks.length kc,.slice oa os.length oc,.int .i64 wk,.int .i64 ws,.int .i64 wt,.slice ga ag.length gc,.bool ou,.slice ia ins.length ic,.slice kq cols.length kqc,.int .i64 bd] 61)).heap.size=w.heap.size+1 by simp] at this
  exact this
 have HND:=jg (hnd.later hB2)
 have HNL:=jg (hNL.later hB2)
 have HTB:=jg (Vl.Tab.later hT hB2)
 have HB2:=jg hB2
 go_in
 go_upto_region 1 with fail
 generalize ((w.alloc (.cells #[.string nmN,.int .i64 1,.slice ea ex.length ec,.slice na nm.length nc,.slice ca c.length cc,.slice ra r.length rc,.slice ka ks.length kc,.slice oa os.length oc,.int .i64 wk,.int .i64 ws,.int .i64 wt,.slice ga ag.length gc,.bool ou,.slice ia ins.length ic,.slice kq cols.length kqc,.int .i64 bd] 61)).alloc (.cells #[.slice a ps.length cN] 22))=W2 at *
 have m1:=HO0.out.c 1 rfl
 have m2:=HO0.out.c 2 rfl
 have m3:=HO0.out.c 3 rfl
 have m4:=HO0.out.c 4 rfl
 have m5:=HO0.out.c 5 rfl
 have m6:=HO0.out.c 6 rfl
 have m7:=HO0.out.c 7 rfl
 have m8:=HO0.out.c 8 rfl
 have m9:=HO0.out.c 9 rfl
 have m10:=HO0.out.c 10 rfl
 have m11:=HO0.out.c 11 rfl
 have m12:=HO0.out.c 12 rfl
 have hlw:=HO0.out.lt
 have HOZ:=jg (aD.new W2 59 12 #[.int .i64 0,.slice none 0 0,.slice none 0 0,.slice none 0 0,.slice none 0 0,.slice none 0 0,.slice none 0 0,.int .i64 0,.int .i64 0,.int .i64 0,.slice none 0 0,.bool false] rfl)
 have HR2:=jg HOZ.out.row
 have HI3:Hid ((Tryz.prog.info? 59).map (·.size)=some (#[.int .i64 1,.slice ea ex.length ec,.slice na nm.length nc,.slice ca c.length cc,.slice ra r.length rc,.slice ka ks.length kc,.slice oa os.length oc,.int .i64 wk,.int .i64 ws,.int .i64 wt,.slice ga ag.length gc,.bool ou]:Array Value).size):=uC
 have ho1:Hid ((#[.int .i64 1,.slice ea ex.length ec,.slice na nm.length nc,.slice ca c.length cc,.slice ra r.length rc,.slice ka ks.length kc,.slice oa os.length oc,.int .i64 wk,.int .i64 ws,.int .i64 wt,.slice ga ag.length gc,.bool ou]:Array Value).all (·.oneCell')=true):=by unfold Hid;simp [Value.oneCell']
 have HSZ:Hid ((#[.int .i64 0,.slice none 0 0,.slice none 0 0,.slice none 0 0,.slice none 0 0,.slice none 0 0,.slice none 0 0,.int .i64 0,.int .i64 0,.int .i64 0,.slice none 0 0,.bool false]:Array Value).size=(#[.int .i64 1,.slice ea ex.length ec,.slice na nm.length nc,.slice ca c.length cc,.slice ra r.length rc,.slice ka ks.length kc,.slice oa os.length oc,.int .i64 wk,.int .i64 ws,.int .i64 wt,.slice ga ag.length gc,.bool ou]:Array Value).size):=rfl
 go_upto_region 2 with (first
  | (refine wpList_store_row rfl 59 _ _ rfl W2.heap.size #[.int .i64 1,.slice ea ex.length ec,.slice na nm.length nc,.slice ca c.length cc,.slice ra r.length rc,.slice ka ks.length kc,.slice oa os.length oc,.int .i64 wk,.int .i64 ws,.int .i64 wt,.slice ga ag.length gc,.bool ou] rfl rfl 59 #[.int .i64 0,.slice none 0 0,.slice none 0 0,.slice none 0 0,.slice none 0 0,.slice none 0 0,.slice none 0 0,.int .i64 0,.int .i64 0,.int .i64 0,.slice none 0 0,.bool false] HR2.out HI3.out HSZ.out ho1.out ?_))
 have hG:=iq (W2.alloc (.cells #[.int .i64 0,.slice none 0 0,.slice none 0 0,.slice none 0 0,.slice none 0 0,.slice none 0 0,.slice none 0 0,.int .i64 0,.int .i64 0,.int .i64 0,.slice none 0 0,.bool false] 59)) W2.heap.size #[.int .i64 1,.slice ea ex.length ec,.slice na nm.length nc,.slice ca c.length cc,.slice ra r.length rc,.slice ka ks.length kc,.slice oa os.length oc,.int .i64 wk,.int .i64 ws,.int .i64 wt,.slice ga ag.length gc,.bool ou]
 have HB3:=jg ((ae W2 _).grown hG (by simp) (fun k hk=>by have:=sI hk;omega))
 have HO2:=jg (pt (n:=12) (setRow_heap _ _ _ #[.int .i64 1,.slice ea ex.length ec,.slice na nm.length nc,.slice ca c.length cc,.slice ra r.length rc,.slice ka ks.length kc,.slice oa os.length oc,.int .i64 wk,.int .i64 ws,.int .i64 wt,.slice ga ag.length gc,.bool ou] _ _ HR2.out) rfl)
 generalize (W2.alloc (.cells #[.int .i64 0,.slice none 0 0,.slice none 0 0,.slice none 0 0,.slice none 0 0,.slice none 0 0,.slice none 0 0,.int .i64 0,.int .i64 0,.int .i64 0,.slice none 0 0,.bool false] 59)).setRow W2.heap.size #[.int .i64 1,.slice ea ex.length ec,.slice na nm.length nc,.slice ca c.length cc,.slice ra r.length rc,.slice ka ks.length kc,.slice oa os.length oc,.int .i64 wk,.int .i64 ws,.int .i64 wt,.slice ga ag.length gc,.bool ou]=wU at *
 have HBU:=jg (HB2.out.trans (HB3.out.mono HB2.out.size))
 have HNDU:=jg (HND.out.later HB3.out)
 have HNLU:=jg (HNL.out.later HB3.out)
 have HTU:=jg (Vl.Tab.later HTB.out HB3.out)
 have c0:=(HO0.out.later HB3.out).c 0 rfl
 have c13:=(HO0.out.later HB3.out).c 13 rfl
 have c15:=(HO0.out.later HB3.out).c 15 rfl
 have cB:=(HO1.out.later HB3.out).c 0 rfl
 have hl0:=(HO0.out.later HB3.out).lt
 have hl1:=(HO1.out.later HB3.out).lt
 have hl2:=HO2.out.lt
 have o0:=HO2.out.c 0 rfl
 have o1:=HO2.out.c 1 rfl
 have o2:=HO2.out.c 2 rfl
 have o3:=HO2.out.c 3 rfl
 have o4:=HO2.out.c 4 rfl
 have o5:=HO2.out.c 5 rfl
 have o6:=HO2.out.c 6 rfl
 have o7:=HO2.out.c 7 rfl
 have o8:=HO2.out.c 8 rfl
 have o9:=HO2.out.c 9 rfl
 have o10:=HO2.out.c 10 rfl
 have o11:=HO2.out.c 11 rfl
 generalize W2.heap.size=OB at *
 have hzz:(aE [⟨#[115,116,114,101,97,109]⟩,nmN,⟨#[40]⟩++CS++⟨#[41]⟩,BD]).size<=140737488355328:=qB (M:=0) _ (fun x hx=>by
  have q3:(⟨#[115,116,114,101,97,109]⟩:ByteArray).size=6:=rfl
  have q4:((⟨#[40]⟩:ByteArray)++CS++⟨#[41]⟩).size=1+CS.size+1:=by rw [ByteArray.size_append,ByteArray.size_append];rfl
  simp only [List.mem_cons,List.not_mem_nil,or_false] at hx
  rcases hx with rfl | rfl | rfl | rfl
  ·omega
  ·omega
  ·rw [q4];omega
  ·omega) (by simp)
 go_upto_region 3 with fail
 have HBy0:Hid (Below wU.heap.size wU wU.drew):=aA
 refine Go.wp_region_held (S:=fun W=>Below wU.heap.size wU W) (by kernel_rfl) ?_
 change Go.wpAnyH _ _ _ _ _ _ _ _ (World.drew _)
 refine tk 0 (.pointer (some ⟨w.heap.size,0,none⟩)) rfl (by kernel_rfl) (by rfl) (fun _ _ _ h=>h) HBy0.out (fun W hW=>?_) ?_
 ·have hl9:=lL hl0 hW.size
  go_simp
 refine tk 1 (.string nmN) rfl (by kernel_rfl) (by rfl) (fun _ _ _ h=>h) HBy0.out (fun W hW=>?_) ?_
 ·have d:=af hW c0
  go_simp
 refine tk 2 (.pointer (some ⟨OB,3,none⟩)) rfl (by kernel_rfl) (by rfl) (fun _ _ _ h=>h) HBy0.out (fun W hW=>?_) ?_
 ·have hl9:=lL hl2 hW.size
  go_simp
 refine tk 3 (.slice ca c.length cc) rfl (by kernel_rfl) (by rfl) (fun _ _ _ h=>h) HBy0.out (fun W hW=>?_) ?_
 ·have d:=af hW o3
  go_simp
 refine tk 7 (.pointer (some ⟨w.heap.size,15,none⟩)) rfl (by kernel_rfl) (by rfl) (fun _ _ _ h=>h) HBy0.out (fun W hW=>?_) ?_
 ·have hl9:=lL hl0 hW.size
  go_simp
 refine tk 8 (.int .i64 bd) rfl (by kernel_rfl) (by rfl) (fun _ _ _ h=>h) HBy0.out (fun W hW=>?_) ?_
 ·have d:=af hW c15
  go_simp
 refine bH 4 (by kernel_rfl) rfl (fun K hK=>?_)
 go_simp
 refine (HCS.out _ (HNDU.out.o.c.later HBy0.out)).mono ?_
 rintro e wy1 ⟨rfl,hb⟩
 have HBy1:=jg (HBy0.out.trans (hb.mono HBy0.out.size))
 refine hK _ _ ⟨HBy1.out,?_⟩
 refine tk 5 (.string (⟨#[40]⟩++CS)) rfl (by kernel_rfl) (by rfl) (fun _ _ _ h=>h) HBy1.out (fun W hW=>?_) ?_
 ·go_simp
 refine tk 6 (.string (⟨#[40]⟩++CS++⟨#[41]⟩)) rfl (by kernel_rfl) (by rfl) (fun _ _ _ h=>h) HBy1.out (fun W hW=>?_) ?_
 ·go_simp
 refine bH 9 (by kernel_rfl) rfl (fun K hK=>?_)
 go_simp
 refine (HBD.out _ (Vl.Tab.later HTU.out HBy1.out)).mono ?_
 rintro e wy2 ⟨rfl,hb⟩
 have HBy2:=jg (HBy1.out.trans (hb.mono HBy1.out.size))
 refine hK _ _ ⟨HBy2.out,?_⟩
 refine bH 10 (by kernel_rfl) rfl (fun K hK=>?_)
 go_simp
 have HBy3:Hid (Below wU.heap.size wU (wy2.alloc (.cells #[.string ⟨#[115,116,114,101,97,109]⟩,.string nmN,.string (⟨#[40]⟩++CS++⟨#[41]⟩),.string BD] 9))):=HBy2.out.trans ((ae wy2 _).mono HBy2.out.size)
 refine hK _ _ ⟨HBy3.out,?_⟩
 refine bH 11 (by kernel_rfl) rfl (fun K hK=>?_)
 go_simp
 refine (bq [⟨#[115,116,114,101,97,109]⟩,nmN,(⟨#[40]⟩++CS++⟨#[41]⟩),BD] (show 4<=4096 by decide) (hzz) wy2).mono ?_
 rintro e wy4 ⟨rfl,hb⟩
 have HBy4:=jg (HBy2.out.trans (hb.mono HBy2.out.size))
 refine hK _ _ ⟨HBy4.out,?_⟩
 refine bH 12 (by kernel_rfl) rfl (fun K hK=>?_)
 go_simp
 refine hK _ _ ⟨HBy4.out,?_⟩
 refine Go.wpAnyH_done (by kernel_rfl) ?_ _
 go_wp2_with fail
 go_ret
 exact ⟨rfl,HBU.out.trans (HBy4.out.mono HBU.out.size)⟩
theorem fC.lt {nodes:List aJ} {i:Int} (h:fC nodes i):∃ j:Nat,i=(j:Int)/\j<nodes.length:=by
 obtain ⟨j,s,rfl,_,h2,_⟩:=h
 unfold dN at h2
 rw [List.findIdx?_eq_some_iff_getElem] at h2
 exact ⟨j,rfl,h2.1⟩
theorem fH.plc {c:List Co} {i:Int} (h:fH c i):xM c.length i:=by
 obtain ⟨j,s,rfl,_,h2⟩:=h
 unfold ch at h2
 rw [List.findIdx?_eq_some_iff_getElem] at h2
 exact ⟨j,rfl,h2.1⟩
theorem qH.w {c:List Co} {a:Oo.Ag} (h:qH c a):Dw c.length a:=by
 rcases h with ⟨h1,h2⟩ | ⟨h1,h2,h3⟩
 ·exact ⟨by omega,fun h=>absurd h1 h⟩
 ·exact ⟨by omega,fun _=>h3.plc⟩
theorem jT.k {rd:R1} {v:Int × Int × Int} (h:jT rd v):v.1=1\/v.1=2\/v.1=3\/v.1=4:=by
 rcases h with ⟨h,_⟩ | ⟨h,_⟩ | ⟨h,_⟩<;>omega
theorem pS {rd:R1} {pf:P1} (hr:wT rd) (pre:List aJ) (n0:aJ) (cs:List Co) (h:jV rd pf pre n0) (hg:∀ m∈pre,bP m.cols) (q:bM) (hcap:nU { n0 with cols:=cs } q) (ps:List (aJ × bM)) (a:Option Addr) (cN:Nat) (w:World) (hnd:bw w { n0 with cols:=cs } q) (hNL:NL w a ps) (hT:Vl.Tab w) (hpl:ps.length<=4096) (hpn:∀ q∈ps,q.1.nm.size<=12) (hpre:pre.length<=ps.length) :
 Calls Tryz.prog 21 #[.agg (au { n0 with cols:=cs } q).toArray,.slice a ps.length cN] w fun e w'=>e=.returned (.string (cH (ps.map (·.1)) { n0 with cols:=cs }))/\Below w.heap.size w w':=by
 obtain ⟨⟨ea,ec,na,nc,ca,cc,ra,rc,ka,kc,oa,oc,ga,gc⟩,ia,ic,kq,kqc⟩:=q
 cases h with
 | stream nm c bd h1 h2 h3 h4 h5=>
  have e:cH (ps.map (·.1)) ⟨nm,{ aB with k:=1,c:=c },[],cs,bd⟩=aE [aX,nm,jb++cy c++ii,cC bd]:=rfl
  have hb:-9223372036854775808<=bd/\bd<=9223372036854775807:=by
   rcases h5 with rfl | h5
   ·decide
   ·exact lV hr h5
  have hX:=wC nm [] [] c [] [] [] 0 0 0 [] false [] cs bd ea ec na nc ca cc ra rc ka kc oa oc ga gc ia ic kq kqc ps a cN w hnd hNL hT hpl (bD h1) hpn (fun x hx=>⟨(h4 x hx).2,bD (h4 x hx).1⟩) (by omega) hb
  rw [e]
  exact hX
 | sink nm i h1 h2=>
  obtain ⟨j,rfl,hj⟩:=h2.lt
  have e:cH (ps.map (·.1)) ⟨nm,{ aB with k:=7,c:=ak pre (j:Int) },[(j:Int)],cs,0⟩=aE [cA,aE [nm,aH,cg (ps.map (·.1)) (j:Int)]]:=rfl
  have hX:=kJ 7 (by decide) _ (ps[j]'(by omega)).1.nm nm [] [] (ak pre (j:Int)) [] [] [] 0 0 0 [] false [(j:Int)] cs 0 ea ec na nc ca cc ra rc ka kc oa oc ga gc ia ic kq kqc ps a cN w hnd hNL hT hpl (bD h1) hpn j (by simp) (by omega) rfl (jg rfl) (jg (.sink))
  rw [e,iE (i:=j) (by omega)]
  exact hX
 | wher nm i x h1 h2 h3=>
  obtain ⟨j,rfl,hj⟩:=h2.lt
  have e:cH (ps.map (·.1)) ⟨nm,{ aB with k:=2,c:=ak pre (j:Int),ex:=[x] },[(j:Int)],cs,0⟩=aE [aE [nm,aH,cg (ps.map (·.1)) (j:Int)],ey,x]:=rfl
  obtain ⟨_,_,_,hx⟩:=h3
  have hX:=kJ 2 (by decide) _ (ps[j]'(by omega)).1.nm nm [x] [] (ak pre (j:Int)) [] [] [] 0 0 0 [] false [(j:Int)] cs 0 ea ec na nc ca cc ra rc ka kc oa oc ga gc ia ic kq kqc ps a cN w hnd hNL hT hpl (bD h1) hpn j (by simp) (by omega) rfl (jg rfl) (jg (.wher x (by simp) rfl (by omega)))
  rw [e,iE (i:=j) (by omega)]
  exact hX
 | selct nm i l h1 h2 h3 h4 h5=>
  obtain ⟨j,rfl,hj⟩:=h2.lt
  have e:cH (ps.map (·.1)) ⟨nm,{ aB with k:=3,c:=ak pre (j:Int),ex:=l.map (·.2),nm:=l.map (·.1) },[(j:Int)],cs,0⟩=aE [aE [nm,aH,cg (ps.map (·.1)) (j:Int)],dl,cE ((l.map (·.2)).zip (l.map (·.1)))]:=rfl
  have hX:=kJ 3 (by decide) _ (ps[j]'(by omega)).1.nm nm (l.map (·.2)) (l.map (·.1)) (ak pre (j:Int)) [] [] [] 0 0 0 [] false [(j:Int)] cs 0 ea ec na nc ca cc ra rc ka kc oa oc ga gc ia ic kq kqc ps a cN w hnd hNL hT hpl (bD h1) hpn j (by simp) (by omega) rfl (jg rfl) (jg (.sel _ (jg rfl) (jg (by simp)) (by simp;omega) (fun x hx=>by
   obtain ⟨p,hp,rfl⟩:=List.mem_map.1 hx
   obtain ⟨_,_,_,hx⟩:=(h5 p hp).2
   omega) (fun x hx=>by
   obtain ⟨p,hp,rfl⟩:=List.mem_map.1 hx
   have:=bD (h5 p hp).1
   omega)))
  rw [e,iE (i:=j) (by omega)]
  exact hX
 | wind nm i ks v l h1 h2 h3 h4 h5 h6 h7=>
  obtain ⟨j,rfl,hj⟩:=h2.lt
  obtain ⟨x1,x2⟩:=bB hg (j:Int)
  have e:cH (ps.map (·.1)) ⟨nm,{ aB with k:=4,c:=ak pre (j:Int),nm:=l.map (·.1),ks:=ks,wk:=v.1,ws:=v.2.1,wt:=v.2.2,ag:=l.map (·.2) },[(j:Int)],cs,0⟩=aE [aE [nm,aH,cg (ps.map (·.1)) (j:Int)],pR,co (ak pre (j:Int)) ks,bQ v.1 v.2.1 v.2.2,cU (ak pre (j:Int)) (l.map (·.2)) (l.map (·.1))]:=rfl
  have hX:=kJ 4 (by decide) _ (ps[j]'(by omega)).1.nm nm [] (l.map fun p:ByteArray × Oo.Ag=>p.1) (ak pre (j:Int)) [] ks [] v.1 v.2.1 v.2.2 (l.map fun p:ByteArray × Oo.Ag=>p.2) false [(j:Int)] cs 0 ea ec na nc ca cc ra rc ka kc oa oc ga gc ia ic kq kqc ps a cN w hnd hNL hT hpl (bD h1) hpn j (by simp) (by omega) rfl (jg rfl) (jg (.wind _ _ _ (jg rfl) (jg rfl) (jg rfl) h6.k (eI hr h6).1 (eI hr h6).2 (fun i hi=>(h5 i hi).plc) (by omega) (by omega) x2 (fun x hx=>by
   obtain ⟨p,hp,rfl⟩:=List.mem_map.1 hx
   exact (h7 p hp).2.w) (by simp;omega) (jg (by simp)) (fun x hx=>by
   obtain ⟨p,hp,rfl⟩:=List.mem_map.1 hx
   exact bD (h7 p hp).1)))
  rw [e,iE (i:=j) (by omega)]
  exact hX
 | union nm i l h1 h2 h3 h4 h5 h6=>
  obtain ⟨j,rfl,hj⟩:=h2.lt
  have hl:l.length≠0:=fun e=>h3 (List.eq_nil_of_length_eq_zero e)
  have hc:=hcap ⟨rfl,by simp;omega⟩
  have e:cH (ps.map (·.1)) ⟨nm,{ aB with k:=6,c:=ak pre (j:Int) },(j:Int)::l,cs,0⟩=aE [aE [nm,aH,cg (ps.map (·.1)) (j:Int)],eh,jn eL (((j:Int)::l).tail.map (cg (ps.map (·.1))))]:=rfl
  have hX:=kJ 6 (by decide) _ (ps[j]'(by omega)).1.nm nm [] [] (ak pre (j:Int)) [] [] [] 0 0 0 [] false ((j:Int)::l) cs 0 ea ec na nc ca cc ra rc ka kc oa oc ga gc ia ic kq kqc ps a cN w hnd hNL hT hpl (bD h1) hpn j (by simp) (by omega) rfl (jg rfl) (jg (.union _ (jg rfl) (by simp;omega) hc (by simp;omega) (fun i hi=>by
   obtain ⟨m,hm,hm2⟩:=(h5 i hi).lt
   exact ⟨m,hm,by omega⟩)))
  rw [e,iE (i:=j) (by omega)]
  exact hX
 | join nm i j ou l v h1 h2 h3 h4 h5 h6 h7=>
  obtain ⟨j1,rfl,hj1⟩:=h2.lt
  obtain ⟨j2,rfl,hj2⟩:=h3.lt
  obtain ⟨x1,x2⟩:=bB hg (j1:Int)
  obtain ⟨y1,y2⟩:=bB hg (j2:Int)
  have e:cH (ps.map (·.1)) ⟨nm,{ aB with k:=5,c:=ak pre (j1:Int),r:=ak pre (j2:Int),ks:=l.map (·.1),os:=l.map (·.2),wk:=v.1,ws:=v.2.1,wt:=v.2.2,ou:=ou },[(j1:Int),(j2:Int)],cs,0⟩=aE [aE [nm,aH,cg (ps.map (·.1)) (j1:Int)],dF ou,eN,cg (ps.map (·.1)) (j2:Int),rX,cG (ak pre (j1:Int)) (ak pre (j2:Int)) ((l.map (·.1)).zip (l.map (·.2))),bQ v.1 v.2.1 v.2.2]:=rfl
  have hX:=kJ 5 (by decide) _ (ps[j1]'(by omega)).1.nm nm [] [] (ak pre (j1:Int)) (ak pre (j2:Int)) (l.map fun p:Int × Int=>p.1) (l.map fun p:Int × Int=>p.2) v.1 v.2.1 v.2.2 [] ou [(j1:Int),(j2:Int)] cs 0 ea ec na nc ca cc ra rc ka kc oa oc ga gc ia ic kq kqc ps a cN w hnd hNL hT hpl (bD h1) hpn j1 (by simp) (by omega) rfl (jg rfl) (jg (.join j2 _ _ _ _ (by simp) (by omega) (jg rfl) (jg rfl) (jg rfl) (jg rfl) (jg rfl) h7.k (eI hr h7).1 (eI hr h7).2 (fun i hi=>by
   obtain ⟨p,hp,rfl⟩:=List.mem_map.1 hi
   exact (h6 p hp).1.plc) (fun i hi=>by
   obtain ⟨p,hp,rfl⟩:=List.mem_map.1 hi
   exact (h6 p hp).2.plc) (jg (by simp)) (by omega) (by omega) (by simp;omega) x2 y2))
  rw [e,iE (i:=j1) (by omega),iE (i:=j2) (by omega)]
  exact hX
theorem rJ:(Tryz.prog.info? 66).map (·.size)=some 2:=by kernel_rfl
theorem zJ:liesAt Tryz.prog Tryz.prog.depth 66 (2 / Tryz.prog.cellsOf 66) 0 66 1=true:=by kernel_rfl
theorem pV:(Tryz.prog.info? 5).map (fun i=>(i.zero,i.size,i.bytes))=some (some (.int .u8 0),1,1):=by kernel_rfl
abbrev Bu (B b:Nat) (bs:List Value) (w:World):Prop:=Lib.IsBuilder 66 5 B b bs w
abbrev Ez (B b:Nat) (bs:List Value) (w:World):Prop:=Lib.BuilderAt 66 5 B b (.pointer (some ⟨b,0,none⟩)) bs w
theorem yU (b:Nat) (w:World) (h0:w.cell? ⟨b,0,none⟩=some (.pointer (some ⟨b,0,none⟩))) :
 Calls Tryz.prog 51 #[.pointer (some ⟨b,0,none⟩)] w fun e w'=>e=.returned (.tuple #[])/\w'=w:=by
 obtain ⟨j,hj,_⟩:=Option.map_eq_some_iff.1 rJ
 go_in
 go_wp2
 rw [Lib.run_neq_ptr_same w _ Tryz.underlying63 hj]
 go_wp2
 go_end0
 exact ⟨rfl,rfl⟩
theorem vg (b:Nat) (w:World) (h0:w.cell? ⟨b,0,none⟩=some (.pointer none)) (hsh:w.shape? b=some (66,2)) (hfz:w.frozen? ⟨b,0,none⟩=false) :
 Calls Tryz.prog 51 #[.pointer (some ⟨b,0,none⟩)] w fun e w'=>e=.returned (.tuple #[])/\w'=w.setCell ⟨b,0,none⟩ (.pointer (some ⟨b,0,none⟩)):=by
 obtain ⟨j,hj,hjs⟩:=Option.map_eq_some_iff.1 rJ
 go_in
 go_wp2
 rw [Lib.run_to_unsafe w ⟨b,0,none⟩ Tryz.underlying63 Tryz.underlying115 hj (by rw [hjs];decide) hsh (Nat.zero_lt_succ 1)]
 simp only [Result.andThen]
 rw [Oper.upon_value]
 go_wp2
 rw [run_callFunc_extern Tryz.func100 (by kernel_rfl) (by kernel_rfl) (by kernel_rfl) (e:=Extern.AbiNoEscape.same) (by kernel_rfl)]
 rw [Lib.run_noEscape]
 simp only [Result.andThen]
 rw [Oper.upon_value]
 go_wp2
 rw [Lib.run_from_unsafe w ⟨b,0,none⟩ Tryz.underlying115 Tryz.underlying63 hj hsh zJ]
 simp only [Result.andThen]
 rw [Oper.upon_value]
 go_wp2
 go_end0
 exact ⟨rfl,rfl⟩
def Kp (b:Nat) (w w':World):Prop:=∀ i cs T fr,i≠b->T≠5->w.heap[i]?=some (.cells cs T fr)->w'.heap[i]?=some (.cells cs T fr)
theorem jP {w:World} {i:Nat} {o:Obj} (h:w.heap[i]?=some o):i<w.heap.size:=by
 rcases Nat.lt_or_ge i w.heap.size with h' | h'
 ·exact h'
 ·simp [Array.getElem?_eq_none h'] at h
theorem Kp.refl (b:Nat) (w:World):Kp b w w:=fun _ _ _ _ _ _ h=>h
theorem Kp.trans {b:Nat} {w w' w'':World} (h:Kp b w w') (k:Kp b w' w''):Kp b w w'':=fun i cs T fr h1 h2 h3=>k i cs T fr h1 h2 (h i cs T fr h1 h2 h3)
theorem Kp.set (b j:Nat) (w:World) (u:Value):Kp b w (w.setCell ⟨b,j,none⟩ u):=fun i cs T fr h1 h2 h3=>by
 rw [(aK w ⟨b,j,none⟩ u).block i (jP h3) (fun e=>h1 (sI e))];exact h3
theorem Kp.below {b:Nat} {w w':World} (h:Below w.heap.size w w'):Kp b w w':=fun i cs T fr h1 h2 h3=>by rw [h.block i (jP h3)];exact h3
theorem Kp.grown {b B n:Nat} {w w':World} {v:Value} {xs:List Value} (hown:w.ownsRow B 5 1 v n xs) (hg:w.grownBy w' v.ownBlock):Kp b w w':=fun i cs T fr h1 h2 h3=>by
 rw [hg.block i (jP h3) (fun e=>?_)]
 ·exact h3
 ·rcases hown.2 with ⟨hv,_⟩ | ⟨g,cap,cur,hv,r⟩
  ·rw [hv] at e;cases e
  ·rw [hv] at e
   have e':=sI e
   rw [e',r.2.1] at h3
   injection h3 with h3
   injection h3 with _ h4
   exact h2 h4.symm
theorem ug (B b:Nat) (bs:List Value) (w:World) (h:Bu B b bs w) :
 Calls Tryz.prog 51 #[.pointer (some ⟨b,0,none⟩)] w fun e w'=>e=.returned (.tuple #[])/\(Ez B b bs w'/\Below B w w'/\Kp b w w'):=by
 rcases h with h | h
 ·refine (vg b w h.cell0 h.shape h.frozen0).mono ?_
  rintro e w' ⟨rfl,rfl⟩
  exact ⟨rfl,h.used _,(Below.refl B w).setCell (p:=⟨b,0,none⟩) h.1 _,Kp.set _ _ _ _⟩
 ·refine (yU b w h.cell0).mono ?_
  rintro e w' ⟨rfl,rfl⟩
  exact ⟨rfl,h,Below.refl B _,Kp.refl _ _⟩
theorem CR (B b:Nat) (bs:List Value) (c:Int) (w:World) (h:Bu B b bs w) (hlen:bs.length+1<=140737488355328) (hBw:B<=w.heap.size) :
 Calls Tryz.prog 22 #[.pointer (some ⟨b,0,none⟩),.int .u8 c] w fun e w'=>e=.returned .nilIface/\(Ez B b (bs++[.int .u8 c]) w'/\Below B w w'/\Kp b w w'):=by
 obtain ⟨i0,hi,hz0,hz1,hz2⟩:=info_parts pV
 go_in
 go_wp2_with fail
 refine (ug B b bs _ h).mono ?_
 rintro e w1 ⟨rfl,h1,hb1,hk1⟩
 obtain ⟨hB,v,hbk,hown,hne⟩:=h1
 have c0:w1.cell? ⟨b,0,none⟩=some (.pointer (some ⟨b,0,none⟩)):=by rw [Lib.cell_of_heap hbk];rfl
 have c1:w1.cell? ⟨b,1,none⟩=some v:=by rw [Lib.cell_of_heap hbk];rfl
 go_wp2_with (at_builtin;refine wpList_append_own _ rfl _ _ 64 rfl B 5 i0 (.int .u8 0) 1 1 Tryz.underlying64 hi hz0 hz1 hz2 rfl (by decide) _ _ _ rfl (hown.alloc _) ⟨w1.heap.size,0,none⟩ 1 1 [.int .u8 c] rfl rfl ?c1 ?c2 ?c3 ?c4 ?c5 ?_)
 case c1=>
  intro j u hj
  match j,hj with
  | 0,hj=>simp at hj;subst hj;simp [Addr.add]
 case c2=>intro u hu;simp at hu;subst hu;rfl
 case c3=>unfold maxLen;omega
 case c4=>omega
 case c5=>have:=hb1.size;simp;omega
 intro v' w2 hown' hgrow _
 have hlt:b<w1.heap.size:=by
  rcases Nat.lt_or_ge b w1.heap.size with h' | h'
  ·exact h'
  ·simp [Array.getElem?_eq_none h'] at hbk
 have hb2:w2.heap[b]?=some (.cells #[.pointer (some ⟨b,0,none⟩),v] 66 (0,0)):=by
  rw [hgrow.block b (by simp;omega) (fun e=>hne e.symm),Lib.alloc_old w1 _ b hlt]
  exact hbk
 have d0:w2.cell? ⟨b,0,none⟩=some (.pointer (some ⟨b,0,none⟩)):=by rw [Lib.cell_of_heap hb2];rfl
 have d1:w2.cell? ⟨b,1,none⟩=some v:=by rw [Lib.cell_of_heap hb2];rfl
 have f1:=Lib.frozen_of_heap hb2 1
 obtain ⟨g,cap,rfl⟩:∃ g cap,v'=.slice (some ⟨g,0,none⟩) (bs.length+1) cap:=by
  rcases hown'.2 with ⟨_,h0⟩ | ⟨g,cap,cur,hv,_⟩
  ·omega
  ·exact ⟨g,cap,hv⟩
 go_wp2
 go_ret
 refine ⟨rfl,?_,?_,?_⟩
 ·exact Lib.BuilderAt.put (T:=66) (e:=5) hB hb2 (bs':=bs++[.int .u8 c]) (by simpa using hown') (by decide)
 ·exact ((hb1.alloc (by have:=hb1.size;omega) _).grown hgrow (by have:=hb1.size;simp;omega) (fun k hk=>(hown.lt k hk).1)).setCell (p:=⟨b,1,none⟩) hB _
 ·exact ((hk1.trans (Kp.below (ae w1 _))).trans (Kp.grown (hown.alloc _) hgrow)).trans (Kp.set _ _ _ _)
theorem DW (B b:Nat) (bs:List Value) (s:ByteArray) (w:World) (h:Bu B b bs w) (hlen:bs.length+s.size<=140737488355328) (hBw:B<=w.heap.size) :
 Calls Tryz.prog 20 #[.pointer (some ⟨b,0,none⟩),.string s] w fun e w'=>e=.returned (.tuple #[.int .i64 s.size,.nilIface])/\(Ez B b (bs++Lib.strCells s) w'/\Below B w w'/\Kp b w w'):=by
 obtain ⟨i0,hi,hz0,hz1,hz2⟩:=info_parts pV
 go_in
 go_wp2_with fail
 refine (ug B b bs _ h).mono ?_
 rintro e w1 ⟨rfl,h1,hb1,hk1⟩
 obtain ⟨hB,v,hbk,hown,hne⟩:=h1
 have c0:w1.cell? ⟨b,0,none⟩=some (.pointer (some ⟨b,0,none⟩)):=by rw [Lib.cell_of_heap hbk];rfl
 have c1:w1.cell? ⟨b,1,none⟩=some v:=by rw [Lib.cell_of_heap hbk];rfl
 go_wp2_with (at_builtin;refine Lib.wpList_append_own_string _ rfl _ _ 64 9 rfl B 5 i0 Tryz.underlying64 Tryz.underlying9 hi hz0 hz1 hz2 _ _ _ rfl hown s rfl ?c3 ?c4 ?c5 ?_)
 case c3=>unfold maxLen;omega
 case c4=>omega
 case c5=>have:=hb1.size;omega
 intro v' w2 hown' hgrow _
 have hlt:b<w1.heap.size:=by
  rcases Nat.lt_or_ge b w1.heap.size with h' | h'
  ·exact h'
  ·simp [Array.getElem?_eq_none h'] at hbk
 have hb2:w2.heap[b]?=some (.cells #[.pointer (some ⟨b,0,none⟩),v] 66 (0,0)):=by
  rw [hgrow.block b hlt (fun e=>hne e.symm)]
  exact hbk
 have d0:w2.cell? ⟨b,0,none⟩=some (.pointer (some ⟨b,0,none⟩)):=by rw [Lib.cell_of_heap hb2];rfl
 have d1:w2.cell? ⟨b,1,none⟩=some v:=by rw [Lib.cell_of_heap hb2];rfl
 have f1:=Lib.frozen_of_heap hb2 1
 obtain ⟨ao,n',cap,rfl⟩:∃ ao n' cap,v'=.slice ao n' cap:=by
  rcases hown'.2 with ⟨hv,_⟩ | ⟨g,cap,cur,hv,_⟩
  ·exact ⟨_,_,_,hv⟩
  ·exact ⟨_,_,_,hv⟩
 go_wp2
 go_ret2
 refine ⟨rfl,?_,?_,?_⟩
 ·exact Lib.BuilderAt.put (T:=66) (e:=5) hB hb2 (bs':=bs++Lib.strCells s) (by simpa [Lib.strCells_length] using hown') (by decide)
 ·exact (hb1.grown hgrow (by have:=hb1.size;omega) (fun k hk=>(hown.lt k hk).1)).setCell (p:=⟨b,1,none⟩) hB _
 ·exact (hk1.trans (Kp.grown hown hgrow)).trans (Kp.set _ _ _ _)
theorem nI (l m:List UInt8):Lib.byteCells l++Lib.byteCells m=Lib.byteCells (l++m):=by simp [Lib.byteCells]
end Go.Proofs.YtiiliobffnhpmaaGreatDoor.Jp
