import Derived.Test.YtiiliobffnhpmaaGreatDoorGat
set_option linter.all false
set_option maxRecDepth 100000
set_option maxHeartbeats 4000000
namespace Go.Proofs.YtiiliobffnhpmaaGreatDoor.Jp
open Go.RowKit Oo
attribute [local go_sem] an
theorem iH {w W W':World} {X:List Nat} {r:Option Nat} (h:Fr w W X) (hg:W.grownBy W' r) (hk:∀ k,r=some k->k∈X\/w.heap.size<=k):Fr w W' X:=h.trans (Fr.of (X:=r.toList) hg (fun k hk=>by left;rw [hk];simp)) (fun i hi=>hk i (by simpa using hi))
def wQ (c:LC) (nb ib:Nat) (nm:ByteArray) (w:World) (o:Except Nat ((eJ × List Int) × List Tk)) (e:Ending) (w':World):Prop:=Fr w w' [c.g,nb,ib]/\match o with
 | .ok ((p,ins),ts)=>e=.returned (.tuple #[])/\PJ c w' ts/\∃ q,NB c w' nb ⟨nm,p,ins,[],0⟩ q/\(p.k=6/\2<=ins.length->ins.length<=q.ic)
 | .error n=>e=cm n
theorem xN {ins ins':List Int} {o:Except Nat (eJ × List Tk)} {p:eJ} {ts:List Tk} (h:oS ins o=.ok ((p,ins'),ts)):ins'=ins:=by
 unfold oS at h
 cases o with
 | error e=>cases h
 | ok x=>obtain ⟨x,t⟩:=x;cases h;rfl
theorem rj {W:World} {B n:Nat} {v:Value} {l:List Co} (hn:n=l.length) (h:W.ownsRow B 95 2 v n (l.flatMap aR)):∃ a cc,v=.slice a l.length cc/\ap W a l/\∀ b off,a=some ⟨b,off,none⟩->B<=b/\b<W.heap.size:=by
 subst hn
 rcases h.2 with ⟨h1,h2⟩ | ⟨b,cap,cur,h1,h2,h3⟩
 ·exact ⟨none,0,by rw [h1,h2],fun i hi=>absurd hi (by omega),fun b off e=>by cases e⟩
 ·subst h1
  refine ⟨_,_,rfl,fun i hi=>⟨b,0,rfl,?_,?_⟩,fun b' off e=>by cases e;exact ⟨h2,(World.ownsRow.lt h b rfl).2⟩⟩
  ·have:=World.ownsRow.cellAt h (i*2+0) (by omega)
   rw [eH aR 2 (fun _=>rfl) l i 0 hi (by decide)] at this
   simpa [aR] using this
  ·have:=World.ownsRow.cellAt h (i*2+1) (by omega)
   rw [eH aR 2 (fun _=>rfl) l i 1 hi (by decide)] at this
   rw [Nat.zero_add]
   simpa [aR] using this
def rX:ByteArray:=⟨#[111,110]⟩
def gC:ByteArray:=⟨#[97,110,100]⟩
theorem zz:gC≠⟨#[]⟩:=by decide
def ak (nodes:List aJ) (i:Int):List Co:=(nodes[i.toNat]?.map (·.cols)).getD []
def jt (rd:R1) (nodes:List aJ) (cols:List Co) (ou:Bool) (first:Int) (E:Nat) (ts:List Tk):Except Nat ((eJ × List Int) × List Tk):=
 bnd (lM nodes E ts) fun i ts=>bnd (aM E [rX] ts) fun _ ts=>bnd (bg E (gx cols (ak nodes i) E) gC ts) fun l ts=>bnd (kR rd E ts) fun v ts=>
 .ok (({ aB with k:=5,c:=cols,r:=ak nodes i,ks:=l.map (·.1),os:=l.map (·.2),wk:=v.1,ws:=v.2.1,wt:=v.2.2,ou:=ou },[first,i]),ts)
theorem tC {l:List aJ} {E:Nat} {ts ts':List Tk} {x:Int} (h:lM l E ts=.ok (x,ts')):∃ i:Nat,x=(i:Int)/\i<l.length:=by
 unfold lM at h
 split at h
 ·cases h
 ·split at h
  ·cases h
  ·rename_i i hi
   split at h
   ·cases h
   ·cases h;exact ⟨i,rfl,qW hi⟩
theorem vN (a:Array Value) (W:World):(callFunc 187 a).run Tryz.prog W=.ok (.enter 187 a) W:=eP Tryz.func187 (by kernel_rfl) (by rfl) a W
theorem mo {rd:R1} {pf:P1} (c:LC) (hE:Ah c rd pf) (nodes:List aJ) (hnl:c.nN=nodes.length) (hnl2:nodes.length<=4096) (hnd:eG c.w0 c.aN nodes) (hnc:∀ n∈nodes,n.cols.length<=4096) (nb:Nat) (nm:ByteArray) (ou:Bool) (cols:List Co) (first:Int) (ca:Option Addr) (cc ib:Nat) (hcl:cols.length<=4096) (hgn:c.g+1<nb) (ts:List Tk) (w:World) (h:PJ c w ts) (hn:NB c w nb ⟨nm,{ aB with k:=0,c:=cols,r:=[],ks:=[],os:=[],wk:=0,ws:=0,wt:=0,ou:=ou },[first],[],0⟩ ⟨⟨none,0,none,0,ca,cc,none,0,none,0,none,0,none,0⟩,some ⟨ib,0,none⟩,1,none,0⟩) (hir:w.ownsRow 0 3 1 (.slice (some ⟨ib,0,none⟩) 1 1) 1 [.int .i64 first]) (hci:∀ b off,ca=some ⟨b,off,none⟩->b≠ib) :
 Calls Tryz.prog 143 #[.pointer (some ⟨c.g,0,none⟩),.pointer (some ⟨nb,0,none⟩)] w (wQ c nb ib nm w (jt rd nodes cols ou first c.line.size ts)):=by
 obtain ⟨i0,hi0,hz0,hz1,hz2⟩:=info_parts xC
 obtain ⟨O,HX⟩:∃ O,Hid (jt rd nodes cols ou first c.line.size ts=O):=⟨_,rfl⟩
 rw [HX.out]
 unfold jt at HX
 have HE:=jg hE
 have hgl:=h.lt
 have hmf:=ff
 have hnl0:=hn.own.lt
 have hB2:Below w.heap.size w ((w.alloc (.cells #[.pointer (some ⟨c.g,0,none⟩)] 82)).alloc (.cells #[.pointer (some ⟨nb,0,none⟩)] 103)):=(ae w _).alloc (by simp) _
 have HB2a:=jg ((aD.new w 82 1 #[.pointer (some ⟨c.g,0,none⟩)] rfl).later (ae (w.alloc (.cells #[.pointer (some ⟨c.g,0,none⟩)] 82)) (.cells #[.pointer (some ⟨nb,0,none⟩)] 103)))
 have HB3a:=jg (aD.new (w.alloc (.cells #[.pointer (some ⟨c.g,0,none⟩)] 82)) 103 1 #[.pointer (some ⟨nb,0,none⟩)] rfl)
 rw [show (w.alloc (.cells #[.pointer (some ⟨c.g,0,none⟩)] 82)).heap.size=w.heap.size+1 from by simp] at HB3a
 have HNa:=jg (hn.later (by omega) hB2)
 have HFa:Hid (Fr w ((w.alloc (.cells #[.pointer (some ⟨c.g,0,none⟩)] 82)).alloc (.cells #[.pointer (some ⟨nb,0,none⟩)] 103)) [c.g,nb,ib]):=Fr.of (aj (r:=none) hB2) (fun k hk=>by cases hk)
 have HPa:=jg (h.later hB2)
 have HIRa:=jg (aO hir hB2)
 have HIB:=jg (hn.far.i ib 0 rfl)
 have HCN:=jg hn.far.c
 have HIN:Hid (∀ W,PJ c W ts->Calls Tryz.prog 136 #[.pointer (some ⟨c.g,0,none⟩)] W (RP c W (lM nodes c.line.size ts) (Value.int .i64))):=fun W hW=>kN c nodes hnl hnl2 hnd ts W hW
 have HND:=jg hnd
 have HCI:=jg hci
 have HNL:=jg hnl
 have HNC:=jg hnc
 clear h hE hn hB2 hir hnd hnl hnc hci
 go_in
 go_upto_region 1 with fail
 generalize hWA:((w.alloc (.cells #[.pointer (some ⟨c.g,0,none⟩)] 82)).alloc (.cells #[.pointer (some ⟨nb,0,none⟩)] 103))=WA at *
 have hwa:=HB3a.out.lt
 obtain ⟨B2,HB2e⟩:∃ B2,Hid (B2=w.heap.size):=⟨_,rfl⟩
 obtain ⟨B3,HB3e⟩:∃ B3,Hid (B3=B2+1):=⟨_,rfl⟩
 rw [<-HB2e.out] at hgl hnl0 HB2a HB3a HCN HIB hwa ⊢
 rw [<-HB3e.out] at HB3a hwa ⊢
 have hb23:B2<B3:=by rw [HB3e.out];omega
 clear hWA
 have p1:=HB3a.out.c 0 rfl
 have k1:=HNa.out.own.c 1 rfl
 have kf1:=HNa.out.own.soft 1
 have ln:nb<WA.heap.size:=by omega
 have HPU:=jg (HNa.out.own.put 1 (.int .i64 5))
 have HN0:Hid (NB c (WA.setCell ⟨nb,1,none⟩ (.int .i64 5)) nb ⟨nm,{ aB with k:=5,c:=cols,r:=[],ks:=[],os:=[],wk:=0,ws:=0,wt:=0,ou:=ou },[first],[],0⟩ ⟨⟨none,0,none,0,ca,cc,none,0,none,0,none,0,none,0⟩,some ⟨ib,0,none⟩,1,none,0⟩):=⟨HPU.out.1,bw.re (HNa.out.own2 HPU.out.2) ⟨rfl,rfl⟩ ⟨rfl,rfl⟩ ⟨rfl,rfl⟩ ⟨rfl,rfl⟩ ⟨rfl,rfl⟩ ⟨rfl,rfl⟩ ⟨rfl,rfl⟩ ⟨rfl,rfl⟩ ⟨rfl,rfl⟩,HNa.out.far.up (fun b hb=>⟨hb.1,hb.2.1,lL hb.2.2 HPU.out.2.size⟩)⟩
 have HF0:=jg (iH HFa.out HPU.out.2 (fun k hk=>by cases hk;simp))
 have HB20:=jg (HB2a.out.grown HPU.out.2 (nS (by omega)))
 have HB30:=jg (HB3a.out.grown HPU.out.2 (nS (by omega)))
 have HIR0:=jg (aI HIRa.out HPU.out.2 (fun g hg' e=>by have h1:ib=g:=sI hg';have h2:=sI e;have:=HIB.out.2.1;omega))
 have HP0:=jg (HPa.out.grown HPU.out.2 (fun k hk=>by cases hk;omega))
 go_upto_region 2 with fail
 generalize hW0:WA.setCell ⟨nb,1,none⟩ (.int .i64 5)=W0 at *
 clear hW0 HPU HNa HFa HB2a HB3a HPa HIRa p1 k1 kf1 ln hwa
 have p0:=HB20.out.c 0 rfl
 have p1:=HB30.out.c 0 rfl
 have l2:=HB20.out.lt
 have l3:=HB30.out.lt
 have ln:=HN0.out.own.lt
 go_wp2_with fail
 refine (HIN.out W0 HP0.out).mono ?_
 intro e w1 hr
 rcases hr.el with ⟨n,ho,rfl,hg⟩ | ⟨x,ts1,ho,rfl,hg,hp⟩
 ·have HFX:=jg (iH HF0.out hg (fun k hk=>by cases hk;simp))
  clear hg hr HIN
  rw [ho] at HX
  simp only [bnd] at HX
  clear ho
  unfold cm
  go_wp2_with fail
  rw [<-HX.out]
  exact ⟨HFX.out,rfl⟩
 ·obtain ⟨i,rfl,hilt⟩:=tC ho
  rw [ho] at HX
  simp only [bnd] at HX
  have HRT:Hid (ak nodes (i:Int)=nodes[i].cols):=by unfold Hid ak;rw [Int.toNat_natCast,List.getElem?_eq_getElem hilt];rfl
  rw [HRT.out] at HX
  have hrl:=HNC.out _ (List.getElem_mem hilt)
  obtain ⟨ab,ao,aq,haN,hac,hat⟩:=HND.out i hilt
  generalize nodes[i]=ND at *
  have HP1:=jg hp
  have HIR1:=jg (aI HIR0.out hg (fun g hg' e=>by have h1:ib=g:=sI hg';have h2:=sI e;have:=HIB.out.1;omega))
  have HB21:=jg (HB20.out.grown hg (nS (by omega)))
  have HB31:=jg (HB30.out.grown hg (nS (by omega)))
  have HN1:=jg (HN0.out.g (by omega) hg)
  have HF1:=jg (iH HF0.out hg (fun k hk=>by cases hk;simp))
  clear hg hr hp ho HIN HB20 HB30 HN0 HF0 HP0 HIR0 p0 p1 l2 l3 ln HND HNC HRT
  obtain ⟨wD,HWD⟩:∃ wD,Hid (wD=w1.drew):=⟨_,rfl⟩
  have hbD:Below w1.heap.size w1 wD:=by rw [HWD.out];exact aA
  have HBD:=jg hbD
  have HIRD:=jg (aO HIR1.out hbD)
  have HND1:=jg (HN1.out.later (by omega) hbD)
  have HB2D:=jg (HB21.out.later hbD)
  have HB3D:=jg (HB31.out.later hbD)
  have p0:=HB2D.out.c 0 rfl
  have p1:=HB3D.out.c 0 rfl
  have k13:wD.cell? ⟨nb,13,none⟩=some (.slice (some ⟨ib,0,none⟩) 1 1):=HND1.out.own.c 13 rfl
  have kf13:=HND1.out.own.soft 13
  have ln:=HND1.out.own.lt
  have hib:=HIB.out
  have HSD:Hid ((fun W:World=>W.cell? ⟨B2,0,none⟩=some (.pointer (some ⟨c.g,0,none⟩))/\W.cell? ⟨B3,0,none⟩=some (.pointer (some ⟨nb,0,none⟩))) wD):=⟨p0,p1⟩
  have HSB:Hid ((fun W:World=>W.cell? ⟨B2,0,none⟩=some (.pointer (some ⟨c.g,0,none⟩))/\W.cell? ⟨B3,0,none⟩=some (.pointer (some ⟨nb,0,none⟩))) (wD.alloc (.cells #[.int .i64 (i:Int)] 3))):=⟨af (ae wD _) p0,af (ae wD _) p1⟩
  have HSG:Hid (∀ w5,(wD.alloc (.cells #[.int .i64 (i:Int)] 3)).grownBy w5 (some ib)->(fun W:World=>W.cell? ⟨B2,0,none⟩=some (.pointer (some ⟨c.g,0,none⟩))/\W.cell? ⟨B3,0,none⟩=some (.pointer (some ⟨nb,0,none⟩))) w5):=fun w5 hg=>⟨hg.cell HSB.out.1 (fun e=>by have:=sI e;simp only at this;omega),hg.cell HSB.out.2 (fun e=>by have:=sI e;simp only at this;omega)⟩
  have HSH:Hid (∀ w5 u,(wD.alloc (.cells #[.int .i64 (i:Int)] 3)).grownBy w5 (some ib)->aD w5 nb 61 16 (au ⟨nm,{ aB with k:=5,c:=cols,r:=[],ks:=[],os:=[],wk:=0,ws:=0,wt:=0,ou:=ou },[first],[],0⟩ ⟨⟨none,0,none,0,ca,cc,none,0,none,0,none,0,none,0⟩,some ⟨ib,0,none⟩,1,none,0⟩)->(fun W:World=>W.cell? ⟨B2,0,none⟩=some (.pointer (some ⟨c.g,0,none⟩))/\W.cell? ⟨B3,0,none⟩=some (.pointer (some ⟨nb,0,none⟩))) (w5.setCell ⟨nb,13,none⟩ u)):=fun w5 u hg o=>by
   have a:=HSG.out w5 hg
   have o2:=(o.put 13 u).2
   exact ⟨o2.cell a.1 (fun e=>by have:=sI e;simp only at this;omega),o2.cell a.2 (fun e=>by have:=sI e;simp only at this;omega)⟩
  go_wp2_with fail
  go_cut [] from 11 to 20 (fun wx=>∃ w5 gg cap,w5.ownsRow 0 3 1 (.slice (some ⟨gg,0,none⟩) (1+1) cap) (1+1) ([.int .i64 first]++aT (i:Int))/\(wD.alloc (.cells #[.int .i64 (i:Int)] 3)).grownBy w5 (some ib)/\(some ib=some gg\/gg=wD.heap.size+1)/\aD w5 nb 61 16 (au ⟨nm,{ aB with k:=5,c:=cols,r:=[],ks:=[],os:=[],wk:=0,ws:=0,wt:=0,ou:=ou },[first],[],0⟩ ⟨⟨none,0,none,0,ca,cc,none,0,none,0,none,0,none,0⟩,some ⟨ib,0,none⟩,1,none,0⟩)/\wx=w5.setCell ⟨nb,13,none⟩ (.slice (some ⟨gg,0,none⟩) (1+1) cap))
  case first=>
   refine Go.wp_region_held (S:=(fun W=>W.cell? ⟨B2,0,none⟩=some (.pointer (some ⟨c.g,0,none⟩))/\W.cell? ⟨B3,0,none⟩=some (.pointer (some ⟨nb,0,none⟩)))) (by kernel_rfl) ?_
   change Go.wpAnyH _ _ _ _ _ _ _ _ (World.drew _)
   rw [<-HWD.out]
   refine tk 0 (.pointer (some ⟨nb,0,none⟩)) rfl (by kernel_rfl) (by rfl) (fun _ _ _ h=>h) HSD.out (fun W hW=>?_) ?_
   ·obtain ⟨e1,e2⟩:=hW;go_simp
   refine tk 1 (.pointer (some ⟨nb,0,none⟩)) rfl (by kernel_rfl) (by rfl) (fun _ _ _ h=>h) HSD.out (fun W hW=>?_) ?_
   ·obtain ⟨e1,e2⟩:=hW;go_simp
   refine tk 2 (.pointer (some ⟨nb,0,none⟩)) rfl (by kernel_rfl) (by rfl) (fun _ _ _ h=>h) HSD.out (fun W hW=>?_) ?_
   ·obtain ⟨e1,e2⟩:=hW;go_simp
   refine tk 3 (.pointer (some ⟨nb,13,none⟩)) rfl (by kernel_rfl) (by rfl) (fun _ _ _ h=>h) HSD.out (fun W hW=>?_) ?_
   ·obtain ⟨e1,e2⟩:=hW;go_simp
   refine tk 5 (.int .i64 (i:Int)) rfl (by kernel_rfl) (by rfl) (fun _ _ _ h=>h) HSD.out (fun W hW=>?_) ?_
   ·obtain ⟨e1,e2⟩:=hW;go_simp
   refine Go.wpAnyH_all (rs:=[4,6]) (by kernel_rfl) (by simp) (fun j hj=>?_)
   simp only [List.mem_cons,List.not_mem_nil,or_false] at hj
   rcases hj with rfl | rfl
   ·refine wpOp_step rfl (fun K hK=>?_)
    go_simp
    refine hK _ _ ⟨HSD.out,?_⟩
    clear hK K
    refine bH 6 (by kernel_rfl) rfl (fun K hK=>?_)
    go_simp
    refine hK _ _ ⟨HSB.out,?_⟩
    clear hK K
    refine bH 7 (by kernel_rfl) rfl (fun K hK=>?_)
    refine step_append_lies _ (by rfl) _ _ _ (by rfl) 0 3 i0 _ 1 8 Tryz.underlying31 hi0 hz0 hz1 hz2 rfl (by decide) (.slice (some ⟨ib,0,none⟩) 1 1) 1 [.int .i64 first] (by rfl) (HIRD.out.alloc _) ⟨wD.heap.size,0,none⟩ 1 1 (aT (i:Int)) (by rfl) (by rfl) (rz wD (i:Int)) (uO (i:Int)) (by decide) (by unfold maxLen;omega) (by omega) (by omega) (wD.heap.size+1) (by simp) ?_
    intro gg cap w5 hown hgrow hgg hlt
    have o5:=(HND1.out.own.later (ae wD _)).grown hgrow (fun e=>by have h2:ib=nb:=(sI e).symm;have:=HIB.out.2.1;omega)
    have k135:w5.cell? ⟨nb,13,none⟩=some (.slice (some ⟨ib,0,none⟩) 1 1):=o5.c 13 rfl
    have kf135:=o5.soft 13
    have ln5:=o5.lt
    have HS5:=jg (HSG.out w5 hgrow)
    have HS6:=jg (HSH.out w5 (.slice (some ⟨gg,0,none⟩) (1+1) cap) hgrow o5)
    have HOWN:=jg hown
    have HGROW:=jg hgrow
    have HGG:=jg hgg
    have HO5:=jg o5
    clear hown hgrow hgg o5
    refine hK _ _ ⟨HS5.out,?_⟩
    clear hK K
    refine tk 8 (.pointer (some ⟨nb,0,none⟩)) rfl (by kernel_rfl) (by rfl) (fun _ _ _ h=>h) HS5.out (fun W hW=>?_) ?_
    ·obtain ⟨e1,e2⟩:=hW;go_simp
    refine tk 9 (.pointer (some ⟨nb,13,none⟩)) rfl (by kernel_rfl) (by rfl) (fun _ _ _ h=>h) HS5.out (fun W hW=>?_) ?_
    ·obtain ⟨e1,e2⟩:=hW;go_simp
    refine bH 10 (by kernel_rfl) rfl (fun K hK=>?_)
    go_simp
    refine hK _ _ ⟨HS6.out,?_⟩
    clear hK K
    refine Go.wpAnyH_done (by kernel_rfl) ?_ _
    go_wp2_with fail
    go_meet
    exact ⟨w5,gg,cap,HOWN.out,HGROW.out,HGG.out,HO5.out,rfl⟩
   ·refine wpOp_step rfl (fun K hK=>?_)
    go_simp
    refine hK _ _ ⟨HSB.out,?_⟩
    clear hK K
    refine bH 4 (by kernel_rfl) rfl (fun K hK=>?_)
    go_simp
    refine hK _ _ ⟨HSB.out,?_⟩
    clear hK K
    refine bH 7 (by kernel_rfl) rfl (fun K hK=>?_)
    refine step_append_lies _ (by rfl) _ _ _ (by rfl) 0 3 i0 _ 1 8 Tryz.underlying31 hi0 hz0 hz1 hz2 rfl (by decide) (.slice (some ⟨ib,0,none⟩) 1 1) 1 [.int .i64 first] (by rfl) (HIRD.out.alloc _) ⟨wD.heap.size,0,none⟩ 1 1 (aT (i:Int)) (by rfl) (by rfl) (rz wD (i:Int)) (uO (i:Int)) (by decide) (by unfold maxLen;omega) (by omega) (by omega) (wD.heap.size+1) (by simp) ?_
    intro gg cap w5 hown hgrow hgg hlt
    have o5:=(HND1.out.own.later (ae wD _)).grown hgrow (fun e=>by have h2:ib=nb:=(sI e).symm;have:=HIB.out.2.1;omega)
    have k135:w5.cell? ⟨nb,13,none⟩=some (.slice (some ⟨ib,0,none⟩) 1 1):=o5.c 13 rfl
    have kf135:=o5.soft 13
    have ln5:=o5.lt
    have HS5:=jg (HSG.out w5 hgrow)
    have HS6:=jg (HSH.out w5 (.slice (some ⟨gg,0,none⟩) (1+1) cap) hgrow o5)
    have HOWN:=jg hown
    have HGROW:=jg hgrow
    have HGG:=jg hgg
    have HO5:=jg o5
    clear hown hgrow hgg o5
    refine hK _ _ ⟨HS5.out,?_⟩
    clear hK K
    refine tk 8 (.pointer (some ⟨nb,0,none⟩)) rfl (by kernel_rfl) (by rfl) (fun _ _ _ h=>h) HS5.out (fun W hW=>?_) ?_
    ·obtain ⟨e1,e2⟩:=hW;go_simp
    refine tk 9 (.pointer (some ⟨nb,13,none⟩)) rfl (by kernel_rfl) (by rfl) (fun _ _ _ h=>h) HS5.out (fun W hW=>?_) ?_
    ·obtain ⟨e1,e2⟩:=hW;go_simp
    refine bH 10 (by kernel_rfl) rfl (fun K hK=>?_)
    go_simp
    refine hK _ _ ⟨HS6.out,?_⟩
    clear hK K
    refine Go.wpAnyH_done (by kernel_rfl) ?_ _
    go_wp2_with fail
    go_meet
    exact ⟨w5,gg,cap,HOWN.out,HGROW.out,HGG.out,HO5.out,rfl⟩
  case rest=>
   obtain ⟨w5,gg,cap,hown,hgrow,hgg,ho5,hwx⟩:=hcut
   have hput:=ho5.put 13 (.slice (some ⟨gg,0,none⟩) (1+1) cap)
   rw [<-hwx] at hput
   obtain ⟨ho6,hg6⟩:=hput
   have hsD:=HBD.out.size
   have hggr:nb<=gg+1/\gg≠nb/\gg<wc.heap.size:=by
    have h5:=(World.ownsRow.lt hown gg rfl).2
    have h6:=hg6.size
    rcases hgg with h | h
    ·have:=sI h;omega
    ·omega
   obtain ⟨ax,cx,hax,hin5,-⟩:=fU (l:=[first,(i:Int)]) rfl (by simpa [aT] using hown)
   have hax2:ax=some ⟨gg,0,none⟩:=by injection hax with h1 h2 h3;exact h1.symm
   subst hax2
   have HN6:Hid (NB c wc nb ⟨nm,{ aB with k:=5,c:=cols,r:=[],ks:=[],os:=[],wk:=0,ws:=0,wt:=0,ou:=ou },[first,(i:Int)],[],0⟩ ⟨⟨none,0,none,0,ca,cc,none,0,none,0,none,0,none,0⟩,some ⟨gg,0,none⟩,cap,none,0⟩):=by
    have f:=HND1.out.far
    have hA:Below wD.heap.size wD (wD.alloc (.cells #[.int .i64 (i:Int)] 3)):=ae wD _
    have a:=HND1.out.at_.later hA
    have hz:=hA.size
    have hz5:=hgrow.size
    have hz6:=hg6.size
    refine ⟨by exact ho6,⟨⟨fun i hi=>absurd hi (by simp [aB]),fun i hi=>absurd hi (by simp [aB]),?_,fun i hi=>absurd hi (by simp),fun i hi=>absurd hi (by simp),fun i hi=>absurd hi (by simp),fun i hi=>absurd hi (by simp [aB])⟩,?_,fun i hi=>absurd hi (by simp)⟩,?_⟩
    ·exact ap.kept (ap.kept a.o.c hgrow (fun b off e e2=>HCI.out b off e (sI e2).symm)) hg6 (fun b off e e2=>(f.c b off e).2.1 (sI e2).symm)
    ·exact aG.kept hin5 hg6 (fun b off e e2=>by cases e;exact hggr.2.1 (sI e2).symm)
    ·exact ⟨fun b o e=>(by cases e),fun b o e=>(by cases e),fun b o e=>⟨(f.c b o e).1,(f.c b o e).2.1,(by have:=(f.c b o e).2.2;omega)⟩,fun b o e=>(by cases e),fun b o e=>(by cases e),fun b o e=>(by cases e),fun b o e=>(by cases e),fun b o e=>(by cases e;exact hggr),fun b o e=>(by cases e)⟩
   have HP6:=jg (((HP1.out.later HBD.out).later (ae wD (.cells #[.int .i64 (i:Int)] 3))).grown hgrow (fun k hk=>by cases hk;omega) |>.grown hg6 (fun k hk=>by cases hk;omega))
   have HB26:=jg (((HB2D.out.later (ae wD (.cells #[.int .i64 (i:Int)] 3))).grown hgrow (nS (by omega))).grown hg6 (nS (by omega)))
   have HB36:=jg (((HB3D.out.later (ae wD (.cells #[.int .i64 (i:Int)] 3))).grown hgrow (nS (by omega))).grown hg6 (nS (by omega)))
   have HF6:=jg (iH (iH (iH (iH HF1.out (aj (r:=none) HBD.out) (fun k hk=>by cases hk)) (aj (r:=none) (ae wD (.cells #[.int .i64 (i:Int)] 3))) (fun k hk=>by cases hk)) hgrow (fun k hk=>by cases hk;simp)) hg6 (fun k hk=>by cases hk;simp))
   clear hown hgrow hgg ho5 hwx ho6 hg6 hax hin5
   clear HIRD HND1 HB2D HB3D HSD HSB HSG HSH HIR1 HN1 HB21 HB31 HF1 HP1 p0 p1 k13 kf13 ln HWD
   generalize wc=wE at *
   have p0:=HB26.out.c 0 rfl
   have p1:=HB36.out.c 0 rfl
   have l2:=HB26.out.lt
   have l3:=HB36.out.lt
   have ln:=HN6.out.own.lt
   have c2:=HP6.out.c2
   rw [haN,HNL.out] at c2
   have hgE:=HP6.out.lt
   have hacE:=af HP6.out.bel (hac 14 _ rfl)
   have hcaE:=hat.c.later HP6.out.bel
   have hab:=bL hacE
   have hab0:ab<c.g:=by
    have h0:=bL (hac 14 _ rfl)
    rw [HP6.out.ge];exact h0
   have hii:(i:Int)<(nodes.length:Int):=by omega
   have HCLN:=jg (lS aq.ka ND.cols aq.kc wE.drew (hcaE.later aA) (by omega))
   have HS4:Hid ((fun W:World=>W.cell? ⟨B2,0,none⟩=some (.pointer (some ⟨c.g,0,none⟩))/\W.cell? ⟨B3,0,none⟩=some (.pointer (some ⟨nb,0,none⟩))/\W.cell? ⟨c.g,2,none⟩=some (.slice (some ⟨ab,ao,none⟩) nodes.length c.cN)/\W.cell? ⟨ab,ao+i*16+14,none⟩=some (.slice aq.ka ND.cols.length aq.kc)) wE.drew):=⟨p0,p1,c2,hacE⟩
   have HS4B:Hid (∀ w8,Below wE.heap.size wE w8->(fun W:World=>W.cell? ⟨B2,0,none⟩=some (.pointer (some ⟨c.g,0,none⟩))/\W.cell? ⟨B3,0,none⟩=some (.pointer (some ⟨nb,0,none⟩))/\W.cell? ⟨c.g,2,none⟩=some (.slice (some ⟨ab,ao,none⟩) nodes.length c.cN)/\W.cell? ⟨ab,ao+i*16+14,none⟩=some (.slice aq.ka ND.cols.length aq.kc)) w8):=fun w8 hb=>⟨af hb p0,af hb p1,af hb c2,af hb hacE⟩
   have HS4P:Hid (∀ w8 u,Below wE.heap.size wE w8->(fun W:World=>W.cell? ⟨B2,0,none⟩=some (.pointer (some ⟨c.g,0,none⟩))/\W.cell? ⟨B3,0,none⟩=some (.pointer (some ⟨nb,0,none⟩))/\W.cell? ⟨c.g,2,none⟩=some (.slice (some ⟨ab,ao,none⟩) nodes.length c.cN)/\W.cell? ⟨ab,ao+i*16+14,none⟩=some (.slice aq.ka ND.cols.length aq.kc)) (w8.setCell ⟨nb,5,none⟩ u)):=fun w8 u hb=>by
    have a:=HS4B.out w8 hb
    have g:=aK w8 ⟨nb,5,none⟩ u
    exact ⟨g.cell a.1 (fun e=>by have:=sI e;simp only at this;omega),g.cell a.2.1 (fun e=>by have:=sI e;simp only at this;omega),g.cell a.2.2.1 (fun e=>by have:=sI e;simp only at this;omega),g.cell a.2.2.2 (fun e=>by have:=sI e;simp only at this;omega)⟩
   clear hac hat hcaE haN
   go_wp2_with fail
   go_cut [] from 21 to 33 (fun wx=>∃ w8 ra rc,w8.ownsRow wE.drew.heap.size 95 2 (.slice ra ND.cols.length rc) ND.cols.length (ND.cols.flatMap aR)/\Below wE.heap.size wE w8/\wx=w8.setCell ⟨nb,5,none⟩ (.slice ra ND.cols.length rc))
   case first=>
    refine Go.wp_region_held (S:=(fun W=>W.cell? ⟨B2,0,none⟩=some (.pointer (some ⟨c.g,0,none⟩))/\W.cell? ⟨B3,0,none⟩=some (.pointer (some ⟨nb,0,none⟩))/\W.cell? ⟨c.g,2,none⟩=some (.slice (some ⟨ab,ao,none⟩) nodes.length c.cN)/\W.cell? ⟨ab,ao+i*16+14,none⟩=some (.slice aq.ka ND.cols.length aq.kc))) (by kernel_rfl) ?_
    change Go.wpAnyH _ _ _ _ _ _ _ _ (World.drew _)
    refine tk 0 (.pointer (some ⟨nb,0,none⟩)) rfl (by kernel_rfl) (by rfl) (fun _ _ _ h=>h) HS4.out (fun W hW=>?_) ?_
    ·obtain ⟨e1,e2,e3,e4⟩:=hW;go_simp
    refine tk 1 (.pointer (some ⟨c.g,0,none⟩)) rfl (by kernel_rfl) (by rfl) (fun _ _ _ h=>h) HS4.out (fun W hW=>?_) ?_
    ·obtain ⟨e1,e2,e3,e4⟩:=hW;go_simp
    refine tk 2 (.pointer (some ⟨c.g,0,none⟩)) rfl (by kernel_rfl) (by rfl) (fun _ _ _ h=>h) HS4.out (fun W hW=>?_) ?_
    ·obtain ⟨e1,e2,e3,e4⟩:=hW;go_simp
    refine tk 3 (.pointer (some ⟨c.g,2,none⟩)) rfl (by kernel_rfl) (by rfl) (fun _ _ _ h=>h) HS4.out (fun W hW=>?_) ?_
    ·obtain ⟨e1,e2,e3,e4⟩:=hW;go_simp
    refine tk 4 (.slice (some ⟨ab,ao,none⟩) nodes.length c.cN) rfl (by kernel_rfl) (by rfl) (fun _ _ _ h=>h) HS4.out (fun W hW=>?_) ?_
    ·obtain ⟨e1,e2,e3,e4⟩:=hW;go_simp
    refine tk 5 (.int .i64 (i:Int)) rfl (by kernel_rfl) (by rfl) (fun _ _ _ h=>h) HS4.out (fun W hW=>?_) ?_
    ·obtain ⟨e1,e2,e3,e4⟩:=hW;go_simp
    refine tk 6 (.pointer (some ⟨ab,ao+i*16,none⟩)) rfl (by kernel_rfl) (by rfl) (fun _ _ _ h=>h) HS4.out (fun W hW=>?_) ?_
    ·obtain ⟨e1,e2,e3,e4⟩:=hW;go_simp
    refine tk 7 (.pointer (some ⟨ab,ao+i*16+14,none⟩)) rfl (by kernel_rfl) (by rfl) (fun _ _ _ h=>h) HS4.out (fun W hW=>?_) ?_
    ·obtain ⟨e1,e2,e3,e4⟩:=hW;go_simp
    refine tk 8 (.slice aq.ka ND.cols.length aq.kc) rfl (by kernel_rfl) (by rfl) (fun _ _ _ h=>h) HS4.out (fun W hW=>?_) ?_
    ·obtain ⟨e1,e2,e3,e4⟩:=hW;go_simp
    refine bH 9 (by kernel_rfl) rfl (fun K hK=>?_)
    go_simp
    refine HCLN.out.mono ?_
    rintro e w8 ⟨ra,rc,rfl,hrw,hb8⟩
    have HRW8:=jg hrw
    have hbx:=(aA (w:=wE)).trans hb8
    have HBX:=jg hbx
    have HN8:=jg (HN6.out.later (by omega) hbx)
    have o8:=HN8.out.own
    have k5:w8.cell? ⟨nb,5,none⟩=some (.slice none 0 0):=o8.c 5 rfl
    have kf5:=o8.soft 5
    have ln8:=o8.lt
    have HS8:=jg (HS4B.out w8 hbx)
    have HS9:=jg (HS4P.out w8 (.slice ra ND.cols.length rc) hbx)
    clear hrw hb8 hbx o8
    refine hK _ _ ⟨HS8.out,?_⟩
    clear hK K
    refine tk 10 (.pointer (some ⟨nb,0,none⟩)) rfl (by kernel_rfl) (by rfl) (fun _ _ _ h=>h) HS8.out (fun W hW=>?_) ?_
    ·obtain ⟨e1,e2,e3,e4⟩:=hW;go_simp
    refine tk 11 (.pointer (some ⟨nb,1,none⟩)) rfl (by kernel_rfl) (by rfl) (fun _ _ _ h=>h) HS8.out (fun W hW=>?_) ?_
    ·obtain ⟨e1,e2,e3,e4⟩:=hW;go_simp
    refine tk 12 (.pointer (some ⟨nb,5,none⟩)) rfl (by kernel_rfl) (by rfl) (fun _ _ _ h=>h) HS8.out (fun W hW=>?_) ?_
    ·obtain ⟨e1,e2,e3,e4⟩:=hW;go_simp
    refine bH 13 (by kernel_rfl) rfl (fun K hK=>?_)
    go_simp
    refine hK _ _ ⟨HS9.out,?_⟩
    clear hK K
    refine Go.wpAnyH_done (by kernel_rfl) ?_ _
    go_wp2_with fail
    go_meet
    exact ⟨w8,ra,rc,HRW8.out,HBX.out,rfl⟩
   case rest=>
    obtain ⟨w8,ra,rc,hrw,hb8,hwx⟩:=hcut
    obtain ⟨ra',rc',hra,hrc,hrb⟩:=rj rfl hrw
    have hra2:ra'=ra:=by injection hra with h1 h2 h3;exact h1.symm
    subst hra2
    have hN8:=HN6.out.later (by omega) hb8
    have hput:=hN8.own.put 5 (.slice ra' ND.cols.length rc)
    rw [<-hwx] at hput
    obtain ⟨ho9,hg9⟩:=hput
    have hrb2:∀ b off,ra'=some ⟨b,off,none⟩->nb<=b+1/\b≠nb/\b<w8.heap.size:=fun b off e=>by
     have h1:wE.heap.size<=b:=(hrb b off e).1
     have h2:=(hrb b off e).2
     omega
    have HN9:Hid (NB c wc nb ⟨nm,{ aB with k:=5,c:=cols,r:=ND.cols,ks:=[],os:=[],wk:=0,ws:=0,wt:=0,ou:=ou },[first,(i:Int)],[],0⟩ ⟨⟨none,0,none,0,ca,cc,ra',rc,none,0,none,0,none,0⟩,some ⟨gg,0,none⟩,cap,none,0⟩):=by
     have a:=hN8.own2 hg9
     have f:=hN8.far
     exact ⟨ho9,⟨⟨a.o.e,a.o.n,a.o.c,ap.kept hrc hg9 (fun b off e e2=>(hrb2 b off e).2.1 (sI e2).symm),a.o.k,a.o.o,a.o.g⟩,a.i,a.c⟩,(⟨f.e,f.n,f.c,hrb2,f.k,f.o,f.g,f.i,f.l⟩:wP (fun b=>nb<=b+1/\b≠nb/\b<w8.heap.size) ⟨⟨none,0,none,0,ca,cc,ra',rc,none,0,none,0,none,0⟩,some ⟨gg,0,none⟩,cap,none,0⟩).up (fun b hb=>⟨hb.1,hb.2.1,lL hb.2.2 hg9.size⟩)⟩
    have HP9:=jg ((HP6.out.later hb8).grown hg9 (fun k hk=>by cases hk;omega))
    have HB29:=jg ((HB26.out.later hb8).grown hg9 (nS (by omega)))
    have HB39:=jg ((HB36.out.later hb8).grown hg9 (nS (by omega)))
    have HF9:=jg (iH (iH HF6.out (aj (r:=none) hb8) (fun k hk=>by cases hk)) hg9 (fun k hk=>by cases hk;simp))
    clear hrw hb8 hwx hra hrc hrb hN8 ho9 hg9 hrb2 HCLN HS4 HS4B HS4P HN6 HP6 HB26 HB36 HF6 c2 hgE hacE hab hab0 hii p0 p1 l2 l3 ln
    generalize wc=wF at *
    have p0:=HB29.out.c 0 rfl
    have p1:=HB39.out.c 0 rfl
    have l2:=HB29.out.lt
    have l3:=HB39.out.lt
    have ln:=HN9.out.own.lt
    have HW:=jg (bO c rX ts1 wF HP9.out)
    unfold rX at HW
    go_wp2_with fail
    refine HW.out.mono ?_
    intro e w10 hr
    rcases hr.el with ⟨n,ho,rfl,hg⟩ | ⟨x10,ts10,ho,rfl,hg,hp⟩
    ·change aM c.line.size [rX] ts1=_ at ho
     have HFX:=jg (iH HF9.out hg (fun k hk=>by cases hk;simp))
     clear hg hr HW
     rw [ho] at HX
     simp only [bnd] at HX
     clear ho
     unfold cm
     go_wp2_with fail
     rw [<-HX.out]
     exact ⟨HFX.out,rfl⟩
    ·change aM c.line.size [rX] ts1=_ at ho
     rw [ho] at HX
     simp only [bnd] at HX
     have HP10:=jg hp
     clear p0 p1 l2 l3 ln
     have HB210:=jg (HB29.out.grown hg (nS (by omega)))
     have HB310:=jg (HB39.out.grown hg (nS (by omega)))
     have HN10:=jg (HN9.out.g (by omega) hg)
     have HF10:=jg (iH HF9.out hg (fun k hk=>by cases hk;simp))
     clear hg hr hp ho HW HB29 HB39 HN9 HF9 HP9
     have p0:=HB210.out.c 0 rfl
     have p1:=HB310.out.c 0 rfl
     have l2:=HB210.out.lt
     have l3:=HB310.out.lt
     have ln:=HN10.out.own.lt
     have hJB:JB c B2 B3 nb w10.drew.heap.size ca ra' (some ⟨gg,0,none⟩):=⟨⟨by omega,hnl0⟩,⟨hb23,l3⟩,fun b o e=>⟨by have:=(HN10.out.far.c b o e).1;omega,(HN10.out.far.c b o e).2⟩,fun b o e=>⟨by have:=(HN10.out.far.r b o e).1;omega,(HN10.out.far.r b o e).2⟩,fun b o e=>⟨by have:=(HN10.out.far.i b o e).1;omega,(HN10.out.far.i b o e).2⟩⟩
     have hSJ:SJ c B2 B3 nb w10.drew.heap.size nm ou cols ND.cols [first,(i:Int)] ca cc ra' rc (some ⟨gg,0,none⟩) cap ts10 [] none w10.drew:=⟨⟨HP10.out.later aA,HB210.out.later aA,HB310.out.later aA,HN10.out.at_.o.c.later aA,HN10.out.at_.o.r.later aA,HN10.out.at_.i.later aA,lR,.slice none 0 0,HN10.out.own.later aA,World.ownsRow_nil _ _ _ _,rfl⟩,by have:=HP10.out.len;simpa using this⟩
     have HLS:=jg (gp .i c [nb] w10.drew.heap.size 187 #[] #[.pointer (some ⟨B2,0,none⟩),.pointer (some ⟨B3,0,none⟩)] (SJ c B2 B3 nb w10.drew.heap.size nm ou cols ND.cols [first,(i:Int)] ca cc ra' rc (some ⟨gg,0,none⟩) cap) (SJ.side hJB) (gx cols ND.cols c.line.size) (fun ts x ts' h=>zm h) gC zz vN (fun ts acc r W h=>uQ c B2 B3 nb _ nm ou cols ND.cols _ ca cc ra' rc _ cap hJB hcl hrl ts acc r W h) ts10 [] none w10.drew hSJ)
     unfold gC at HLS
     have HS10:Hid ((fun W:World=>W.cell? ⟨B2,0,none⟩=some (.pointer (some ⟨c.g,0,none⟩))/\W.cell? ⟨B3,0,none⟩=some (.pointer (some ⟨nb,0,none⟩))) w10.drew):=⟨p0,p1⟩
     have hz10:w10.drew.heap.size=w10.heap.size:=rfl
     rw [hz10] at HLS hJB
     clear hSJ hz10
     go_wp2_with fail
     go_cut [] from 37 to 43 (fun wx=>∃ (l:List (Int × Int)) (ts12:List Tk) (ka:Option Addr) (kc:Nat) (oa:Option Addr) (oc:Nat),bg c.line.size (gx cols ND.cols c.line.size) gC ts10=.ok (l,ts12)/\PJ c wx ts12/\NB c wx nb ⟨nm,{ aB with k:=5,c:=cols,r:=ND.cols,ks:=l.map (·.1),os:=l.map (·.2),wk:=0,ws:=0,wt:=0,ou:=ou },[first,(i:Int)],[],0⟩ ⟨⟨none,0,none,0,ca,cc,ra',rc,ka,kc,oa,oc,none,0⟩,some ⟨gg,0,none⟩,cap,none,0⟩/\aD wx B2 82 1 [.pointer (some ⟨c.g,0,none⟩)]/\aD wx B3 103 1 [.pointer (some ⟨nb,0,none⟩)]/\Fr w wx [c.g,nb,ib])
     case first=>
      refine Go.wp_region_held (S:=(fun W=>W.cell? ⟨B2,0,none⟩=some (.pointer (some ⟨c.g,0,none⟩))/\W.cell? ⟨B3,0,none⟩=some (.pointer (some ⟨nb,0,none⟩)))) (by kernel_rfl) ?_
      change Go.wpAnyH _ _ _ _ _ _ _ _ (World.drew _)
      refine tk 0 (.pointer (some ⟨nb,0,none⟩)) rfl (by kernel_rfl) (by rfl) (fun _ _ _ h=>h) HS10.out (fun W hW=>?_) ?_
      ·obtain ⟨e1,e2⟩:=hW;go_simp
      refine tk 1 (.pointer (some ⟨c.g,0,none⟩)) rfl (by kernel_rfl) (by rfl) (fun _ _ _ h=>h) HS10.out (fun W hW=>?_) ?_
      ·obtain ⟨e1,e2⟩:=hW;go_simp
      refine tk 2 (.func (.func 187) #[] #[.pointer (some ⟨B2,0,none⟩),.pointer (some ⟨B3,0,none⟩)]) rfl (by kernel_rfl) (by rfl) (fun _ _ _ h=>h) HS10.out (fun W hW=>?_) ?_
      ·obtain ⟨e1,e2⟩:=hW;go_simp
      refine bH 3 (by kernel_rfl) rfl (fun K hK=>?_)
      go_simp
      refine HLS.out.mono ?_
      intro e w11 hr
      obtain ⟨hfr,hr⟩:=hr
      rw [show (⟨#[97,110,100]⟩:ByteArray)=gC from rfl] at hr
      have HF11:=jg ((iH HF10.out (aj (r:=none) aA) (fun k hk=>by cases hk)).trans hfr (fun i hi=>by simp at hi;simp;omega))
      have hsz11:w10.heap.size<=w11.heap.size:=hfr.size
      clear hfr HLS
      cases ho:bg c.line.size (gx cols ND.cols c.line.size) gC ts10 with
      | error n=>
       rw [ho] at hr HX
       simp only [bnd] at hr HX
       subst hr
       clear ho
       unfold cm
       show wQ _ _ _ _ _ O _ _
       rw [<-HX.out]
       exact ⟨HF11.out,rfl⟩
      | ok p=>
       obtain ⟨l,ts12⟩:=p
       rw [ho] at hr
       obtain ⟨vk,r',he,how,⟨⟨g1,g2,g3,g4,g5,g6,g7,vo,g8,g9,-⟩,-⟩,-⟩:=hr
       subst he
       have HO12:=jg ho
       rw [show (l.flatMap fun p=>aT p.1)=(l.map (·.1)).flatMap aT by simp [List.flatMap_map]] at how
       obtain ⟨ka,kc,rfl,hka,hkb⟩:=fU (by simp) how
       simp only [List.nil_append] at g9
       obtain ⟨oa,oc,rfl,hoa,hob⟩:=fU rfl g9
       have hkr:∀ b off,ka=some ⟨b,off,none⟩->nb<=b+1/\b≠nb/\b<w11.heap.size:=fun b off e=>by
        have h1:w10.heap.size<=b:=hkb b off e
        have h2:b<w11.heap.size:=by
         subst e
         exact (World.ownsRow.lt how b rfl).2
        omega
       have hor:∀ b off,oa=some ⟨b,off,none⟩->nb<=b+1/\b≠nb/\b<w11.heap.size:=fun b off e=>by
        have h1:=hob b off e
        have h2:b<w11.heap.size:=by
         subst e
         exact (World.ownsRow.lt g9 b rfl).2
        omega
       simp only [List.length_map]
       have HPU:=jg (g8.put 6 (.slice ka l.length kc))
       have HN12:Hid (NB c (w11.setCell ⟨nb,6,none⟩ (.slice ka l.length kc)) nb ⟨nm,{ aB with k:=5,c:=cols,r:=ND.cols,ks:=l.map (·.1),os:=l.map (·.2),wk:=0,ws:=0,wt:=0,ou:=ou },[first,(i:Int)],[],0⟩ ⟨⟨none,0,none,0,ca,cc,ra',rc,ka,kc,oa,oc,none,0⟩,some ⟨gg,0,none⟩,cap,none,0⟩):=by
        have f:=HN10.out.far
        refine ⟨by rw [show au ⟨nm,{ aB with k:=5,c:=cols,r:=ND.cols,ks:=l.map (·.1),os:=l.map (·.2),wk:=0,ws:=0,wt:=0,ou:=ou },[first,(i:Int)],[],0⟩ ⟨⟨none,0,none,0,ca,cc,ra',rc,ka,kc,oa,oc,none,0⟩,some ⟨gg,0,none⟩,cap,none,0⟩=((au ⟨nm,{ aB with k:=5,c:=cols,r:=ND.cols,ks:=[],os:=[],wk:=0,ws:=0,wt:=0,ou:=ou },[first,(i:Int)],[],0⟩ ⟨⟨none,0,none,0,ca,cc,ra',rc,none,0,none,0,none,0⟩,some ⟨gg,0,none⟩,cap,none,0⟩).set 7 (.slice oa (l.map (·.2)).length oc)).set 6 (.slice ka l.length kc) from by simp [au,aB]];exact HPU.out.1,⟨⟨fun i hi=>absurd hi (by simp [aB]),fun i hi=>absurd hi (by simp [aB]),ap.kept g4 HPU.out.2 (fun b o e e2=>(f.c b o e).2.1 (sI e2).symm),ap.kept g5 HPU.out.2 (fun b o e e2=>(f.r b o e).2.1 (sI e2).symm),aG.kept hka HPU.out.2 (fun b off e e2=>(hkr b off e).2.1 (sI e2).symm),aG.kept hoa HPU.out.2 (fun b off e e2=>(hor b off e).2.1 (sI e2).symm),fun i hi=>absurd hi (by simp [aB])⟩,aG.kept g6 HPU.out.2 (fun b o e e2=>(f.i b o e).2.1 (sI e2).symm),fun i hi=>absurd hi (by simp)⟩,?_⟩
        have hz:=HPU.out.2.size
        exact ⟨fun b o e=>(by cases e),fun b o e=>(by cases e),fun b o e=>⟨(f.c b o e).1,(f.c b o e).2.1,(by have:=(f.c b o e).2.2;omega)⟩,fun b o e=>⟨(f.r b o e).1,(f.r b o e).2.1,(by have:=(f.r b o e).2.2;omega)⟩,fun b o e=>⟨(hkr b o e).1,(hkr b o e).2.1,(by have:=(hkr b o e).2.2;omega)⟩,fun b o e=>⟨(hor b o e).1,(hor b o e).2.1,(by have:=(hor b o e).2.2;omega)⟩,fun b o e=>(by cases e),fun b o e=>⟨(f.i b o e).1,(f.i b o e).2.1,(by have:=(f.i b o e).2.2;omega)⟩,fun b o e=>(by cases e)⟩
       have HP12:=jg (g1.grown HPU.out.2 (fun k hk=>by cases hk;omega))
       have HB212:=jg (g2.grown HPU.out.2 (nS (by omega)))
       have HB312:=jg (g3.grown HPU.out.2 (nS (by omega)))
       have HF12:=jg (iH HF11.out HPU.out.2 (fun k hk=>by cases hk;simp))
       have HS11:Hid ((fun W:World=>W.cell? ⟨B2,0,none⟩=some (.pointer (some ⟨c.g,0,none⟩))/\W.cell? ⟨B3,0,none⟩=some (.pointer (some ⟨nb,0,none⟩))) w11):=⟨by rw [g2.cell 0 (by decide)];rfl,by rw [g3.cell 0 (by decide)];rfl⟩
       have HS12:Hid ((fun W:World=>W.cell? ⟨B2,0,none⟩=some (.pointer (some ⟨c.g,0,none⟩))/\W.cell? ⟨B3,0,none⟩=some (.pointer (some ⟨nb,0,none⟩))) (w11.setCell ⟨nb,6,none⟩ (.slice ka l.length kc))):=⟨by rw [HB212.out.cell 0 (by decide)];rfl,by rw [HB312.out.cell 0 (by decide)];rfl⟩
       have k6:w11.cell? ⟨nb,6,none⟩=some (.slice none 0 0):=g8.c 6 rfl
       have kf6:=g8.soft 6
       have ln11:=g8.lt
       clear how ho hka hkb hoa hob hkr hor g1 g2 g3 g4 g5 g6 g7 g8 g9 p0 p1 l2 l3 ln
       refine hK _ _ ⟨HS11.out,?_⟩
       clear hK K
       refine tk 4 (.pointer (some ⟨nb,0,none⟩)) rfl (by kernel_rfl) (by rfl) (fun _ _ _ h=>h) HS11.out (fun W hW=>?_) ?_
       ·obtain ⟨e1,e2⟩:=hW;go_simp
       refine tk 5 (.pointer (some ⟨nb,1,none⟩)) rfl (by kernel_rfl) (by rfl) (fun _ _ _ h=>h) HS11.out (fun W hW=>?_) ?_
       ·obtain ⟨e1,e2⟩:=hW;go_simp
       refine tk 6 (.pointer (some ⟨nb,6,none⟩)) rfl (by kernel_rfl) (by rfl) (fun _ _ _ h=>h) HS11.out (fun W hW=>?_) ?_
       ·obtain ⟨e1,e2⟩:=hW;go_simp
       refine bH 7 (by kernel_rfl) rfl (fun K hK=>?_)
       go_simp
       refine hK _ _ ⟨HS12.out,?_⟩
       clear hK K
       refine Go.wpAnyH_done (by kernel_rfl) ?_ _
       go_wp2_with fail
       go_meet
       exact ⟨l,ts12,ka,kc,oa,oc,HO12.out,HP12.out,HN12.out,HB212.out,HB312.out,HF12.out⟩
     case rest=>
      obtain ⟨l,ts12,ka,kc,oa,oc,hok,hp,hn12,hb4,hb5,hf4⟩:=hcut
      rw [hok] at HX
      simp only [bnd] at HX
      have HP13:=jg hp
      have HN13:=jg hn12
      have HB213:=jg hb4
      have HB313:=jg hb5
      have HF13:=jg hf4
      clear hok hp hn12 hb4 hb5 hf4 HP10 HN10 HB210 HB310 HF10 HLS HS10 p0 p1 l2 l3 ln hJB
      generalize wc=wG at *
      have p0:=HB213.out.c 0 rfl
      have p1:=HB313.out.c 0 rfl
      have l2:=HB213.out.lt
      have l3:=HB313.out.lt
      have ln:=HN13.out.own.lt
      have HS13:Hid ((fun W:World=>W.cell? ⟨B2,0,none⟩=some (.pointer (some ⟨c.g,0,none⟩))/\W.cell? ⟨B3,0,none⟩=some (.pointer (some ⟨nb,0,none⟩))) wG.drew):=⟨p0,p1⟩
      have HWN:=jg (lv c HE.out ts12 wG.drew (HP13.out.later aA))
      clear p0 p1 l2 l3 ln
      go_wp2_with fail
      refine Go.wp_region_held (S:=(fun W=>W.cell? ⟨B2,0,none⟩=some (.pointer (some ⟨c.g,0,none⟩))/\W.cell? ⟨B3,0,none⟩=some (.pointer (some ⟨nb,0,none⟩)))) (by kernel_rfl) ?_
      change Go.wpAnyH _ _ _ _ _ _ _ _ (World.drew _)
      refine tk 0 (.pointer (some ⟨nb,0,none⟩)) rfl (by kernel_rfl) (by rfl) (fun _ _ _ h=>h) HS13.out (fun W hW=>?_) ?_
      ·obtain ⟨e1,e2⟩:=hW;go_simp
      refine tk 1 (.pointer (some ⟨c.g,0,none⟩)) rfl (by kernel_rfl) (by rfl) (fun _ _ _ h=>h) HS13.out (fun W hW=>?_) ?_
      ·obtain ⟨e1,e2⟩:=hW;go_simp
      refine bH 2 (by kernel_rfl) rfl (fun K hK=>?_)
      go_simp
      refine HWN.out.mono ?_
      intro e w14 hr
      rcases hr.el with ⟨n,ho,rfl,hg'⟩ | ⟨v,ts14,ho,rfl,hg',hp⟩
      ·have hg:=ai (aj aA) hg'
       have HFX:=jg (iH HF13.out hg (fun k hk=>by cases hk;simp))
       rw [ho] at HX
       simp only [bnd] at HX
       clear ho hg hg' hr
       unfold cm
       show wQ _ _ _ _ _ O _ _
       rw [<-HX.out]
       exact ⟨HFX.out,rfl⟩
      ·have hg:=ai (aj aA) hg'
       rw [ho] at HX
       simp only [bnd] at HX
       have HB214:=jg (HB213.out.grown hg (nS (by omega)))
       have HB314:=jg (HB313.out.grown hg (nS (by omega)))
       have HN14:=jg (HN13.out.g (by omega) hg)
       have HF14:=jg (iH HF13.out hg (fun k hk=>by cases hk;simp))
       have HP14:=jg hp
       have HPU1:=jg (HN14.out.own.put 8 (.int .i64 v.1))
       have HPU2:=jg (HPU1.out.1.put 9 (.int .i64 v.2.1))
       have HPU3:=jg (HPU2.out.1.put 10 (.int .i64 v.2.2))
       have HPU:=jg (ai (ai HPU1.out.2 HPU2.out.2) HPU3.out.2)
       have HN15:Hid (NB c (((w14.setCell ⟨nb,8,none⟩ (.int .i64 v.1)).setCell ⟨nb,9,none⟩ (.int .i64 v.2.1)).setCell ⟨nb,10,none⟩ (.int .i64 v.2.2)) nb ⟨nm,{ aB with k:=5,c:=cols,r:=ND.cols,ks:=l.map (·.1),os:=l.map (·.2),wk:=v.1,ws:=v.2.1,wt:=v.2.2,ou:=ou },[first,(i:Int)],[],0⟩ ⟨⟨none,0,none,0,ca,cc,ra',rc,ka,kc,oa,oc,none,0⟩,some ⟨gg,0,none⟩,cap,none,0⟩):=⟨HPU3.out.1,bw.re (HN14.out.own2 HPU.out) ⟨rfl,rfl⟩ ⟨rfl,rfl⟩ ⟨rfl,rfl⟩ ⟨rfl,rfl⟩ ⟨rfl,rfl⟩ ⟨rfl,rfl⟩ ⟨rfl,rfl⟩ ⟨rfl,rfl⟩ ⟨rfl,rfl⟩,HN14.out.far.up (fun b hb=>⟨hb.1,hb.2.1,lL hb.2.2 HPU.out.size⟩)⟩
       have HP15:=jg (HP14.out.grown HPU.out (fun k hk=>by cases hk;omega))
       have HB215:=jg (HB214.out.grown HPU.out (nS (by omega)))
       have HB315:=jg (HB314.out.grown HPU.out (nS (by omega)))
       have HF15:=jg (iH HF14.out HPU.out (fun k hk=>by cases hk;simp))
       have HS14:Hid ((fun W:World=>W.cell? ⟨B2,0,none⟩=some (.pointer (some ⟨c.g,0,none⟩))/\W.cell? ⟨B3,0,none⟩=some (.pointer (some ⟨nb,0,none⟩))) w14):=⟨by rw [HB214.out.cell 0 (by decide)];rfl,by rw [HB314.out.cell 0 (by decide)];rfl⟩
       have HS15:Hid ((fun W:World=>W.cell? ⟨B2,0,none⟩=some (.pointer (some ⟨c.g,0,none⟩))/\W.cell? ⟨B3,0,none⟩=some (.pointer (some ⟨nb,0,none⟩))) (((w14.setCell ⟨nb,8,none⟩ (.int .i64 v.1)).setCell ⟨nb,9,none⟩ (.int .i64 v.2.1)).setCell ⟨nb,10,none⟩ (.int .i64 v.2.2))):=⟨by rw [HB215.out.cell 0 (by decide)];rfl,by rw [HB315.out.cell 0 (by decide)];rfl⟩
       have k8:=HN14.out.own.c 8 rfl
       have k9:=HN14.out.own.c 9 rfl
       have k10:=HN14.out.own.c 10 rfl
       have kf8:=HN14.out.own.soft 8
       have kf9:=HN14.out.own.soft 9
       have kf10:=HN14.out.own.soft 10
       have ln14:=HN14.out.own.lt
       clear ho hg hg' hp hr HWN
       unfold vz
       refine hK _ _ ⟨HS14.out,?_⟩
       clear hK K
       refine tk 3 (.pointer (some ⟨nb,0,none⟩)) rfl (by kernel_rfl) (by rfl) (fun _ _ _ h=>h) HS14.out (fun W hW=>?_) ?_
       ·obtain ⟨e1,e2⟩:=hW;go_simp
       refine tk 4 (.pointer (some ⟨nb,1,none⟩)) rfl (by kernel_rfl) (by rfl) (fun _ _ _ h=>h) HS14.out (fun W hW=>?_) ?_
       ·obtain ⟨e1,e2⟩:=hW;go_simp
       refine tk 5 (.pointer (some ⟨nb,8,none⟩)) rfl (by kernel_rfl) (by rfl) (fun _ _ _ h=>h) HS14.out (fun W hW=>?_) ?_
       ·obtain ⟨e1,e2⟩:=hW;go_simp
       refine bH 6 (by kernel_rfl) rfl (fun K hK=>?_)
       go_simp
       refine hK _ _ ⟨HS15.out,?_⟩
       clear hK K
       refine Go.wpAnyH_done (by kernel_rfl) ?_ _
       go_wp2_with fail
       go_end0
       rw [<-HX.out]
       exact ⟨HF15.out,rfl,HP15.out,_,HN15.out,fun h=>absurd (show (5:Int)=6 from h.1) (by decide)⟩
end Go.Proofs.YtiiliobffnhpmaaGreatDoor.Jp
