import Derived.Test.YtiiliobffnhpmaaGreatDoorGar
set_option linter.all false
set_option maxRecDepth 100000
set_option maxHeartbeats 4000000
namespace Go.Proofs.YtiiliobffnhpmaaGreatDoor.Jp
open Go.RowKit Oo
attribute [local go_sem] an
def kT (cols:List Co) (E:Nat) (ts:List Tk):Except Nat ((Int × Unit) × List Tk):=bnd (fK cols E ts) fun x ts=>.ok ((x,()),ts)
theorem iW {cols:List Co} {E:Nat} {ts ts':List Tk} {x:Int} (h:fK cols E ts=.ok (x,ts')):ts'.length<=ts.length:=by
 unfold fK at h
 split at h
 ·cases h
 ·rename_i s ts1 hn
  split at h
  ·cases h
  ·cases h;exact fz hn
theorem AU {cols:List Co} {E:Nat} {ts ts':List Tk} {x:Int × Unit} (h:kT cols E ts=.ok (x,ts')):ts'.length<=ts.length:=
 cd h (fun y ts1 h=>iW h) (fun y ts1 ts2 h=>by cases h;exact lR)
theorem Bc {cols:List Co} {E:Nat} {ts ts':List Tk} {x:Oo.Ag} (h:jk cols E ts=.ok (x,ts')):ts'.length<=ts.length:=by
 refine cd h (fun y ts1 h=>yo h) (fun y ts1 ts2 h=>cd h (fun y ts1 h=>by have:=er h (by decide);omega) (fun z ts1 ts2 h=>?_))
 split at h
 ·exact cd h (fun y ts1 h=>by have:=er h (by decide);omega) (fun y ts1 ts2 h=>by cases h;exact lR)
 ·exact cd h (fun y ts1 h=>iW h) (fun y ts1 ts2 h=>cd h (fun y ts1 h=>by have:=er h (by decide);omega) (fun y ts1 ts2 h=>by cases h;exact lR))
def SW (c:LC) (pb ob nb:Nat) (l:List Co) (a:Option Addr) (cc:Nat) (ts:List Tk) (acc:List Unit) (r:Option Nat) (W:World):Prop:=PJ c W ts/\KS c pb ob nb l a cc W/\r=none
theorem SW.side {c:LC} {pb ob nb B:Nat} {l:List Co} {a:Option Addr} {cc:Nat} (hn:KN c pb ob nb a B) (hpb:pb+1=B\/ob+1=B):sU c [] B (SW c pb ob nb l a cc) where
 pj _ _ _ _ h:=h.1
 go _ _ _ _ _ _ h hg hp _:=⟨hp,h.2.1.go hn hg,h.2.2⟩
 keep _ _ _ _ _ k h hg hk:=⟨h.1.grown hg (fun j hj=>by have:=(hk j hj).1;have:=hn.p;omega),h.2.1.far hn hg (fun j hj=>(hk j hj).1),h.2.2⟩
 lt _ _ _ _ h:=⟨by have h1:=bL h.2.1.p;have h2:=bL h.2.1.o;simp only at h1 h2;omega,fun k hk=>by rw [h.2.2] at hk;cases hk⟩
 x0 i hi:=by cases hi
theorem A9 {c:LC} {pb ob nb B:Nat} {l:List Co} {a:Option Addr} {cc:Nat} (hn:KN c pb ob nb a B) (hl:l.length<=4096) (ts:List Tk) (acc:List Unit) (r:Option Nat) (W:World) (h:SW c pb ob nb l a cc ts acc r W) :
 Calls Tryz.prog 180 (#[]++#[.pointer (some ⟨pb,0,none⟩),.pointer (some ⟨ob,0,none⟩)]) W (kE c [] (SW c pb ob nb l a cc) (Value.int .i64) acc r W (kT l c.line.size ts)):=by
 simp only [Array.empty_append]
 refine (rO c pb ob nb B l a cc hn hl ts W h.2.1 h.1).mono ?_
 intro e w' hr
 rcases hr.el with ⟨n,ho,rfl,hg⟩ | ⟨x,ts1,ho,rfl,hg,hp⟩
 ·refine ⟨Fr.of hg (fun k hk=>by cases hk;simp),?_⟩
  unfold kT;rw [ho];rfl
 ·refine ⟨Fr.of hg (fun k hk=>by cases hk;simp),?_⟩
  unfold kT;rw [ho]
  exact ⟨rfl,r,⟨hp,h.2.1.go hn hg,h.2.2⟩,.inl rfl⟩
theorem xZ (a:Array Value) (W:World):(callFunc 180 a).run Tryz.prog W=.ok (.enter 180 a) W:=eP Tryz.func180 (by kernel_rfl) (by rfl) a W
theorem yL (a:Array Value) (W:World):(callFunc 184 a).run Tryz.prog W=.ok (.enter 184 a) W:=eP Tryz.func184 (by kernel_rfl) (by rfl) a W
def me (cols:List Co) (E:Nat) (ts:List Tk):Except Nat (List Int × List Tk):=if (cq E cP ts).1=true then .ok ([],(cq E cP ts).2) else bnd (bg E (kT cols E) dw (cq E cP ts).2) fun l ts=>.ok (l.map (·.1),ts)
def fX (rd:R1) (cols:List Co) (E:Nat) (ts:List Tk):Except Nat (eJ × List Tk):=
 bnd (me cols E ts) fun ks ts=>bnd (kR rd E ts) fun v ts=>
 if (cq E eK ts).1=true then bnd (bg E (kB (jk cols E) E) dw (cq E eK ts).2) fun l ts=>.ok ({ aB with k:=4,c:=cols,nm:=l.map (·.1),ks:=ks,wk:=v.1,ws:=v.2.1,wt:=v.2.2,ag:=l.map (·.2) },ts)
 else .ok ({ aB with k:=4,c:=cols,ks:=ks,wk:=v.1,ws:=v.2.1,wt:=v.2.2 },(cq E eK ts).2)
def Ed (c:LC) (nb:Nat) (nm:ByteArray) (w:World) (o:Except Nat ((eJ × List Int) × List Tk)) (e:Ending) (w':World):Prop:=Fr w w' [c.g,nb]/\match o with
 | .ok ((p,ins),ts)=>e=.returned (.tuple #[])/\PJ c w' ts/\∃ q,NB c w' nb ⟨nm,p,ins,[],0⟩ q
 | .error n=>e=cm n
def oS (ins:List Int) (o:Except Nat (eJ × List Tk)):Except Nat ((eJ × List Int) × List Tk):=bnd o fun p ts=>.ok ((p,ins),ts)
theorem bw.re {w:World} {n n':aJ} {q q':bM} (h:bw w n q) (e1:n'.op.ex=n.op.ex/\q'.p.ea=q.p.ea) (e2:n'.op.nm=n.op.nm/\q'.p.na=q.p.na) (e3:n'.op.c=n.op.c/\q'.p.ca=q.p.ca) (e4:n'.op.r=n.op.r/\q'.p.ra=q.p.ra) (e5:n'.op.ks=n.op.ks/\q'.p.ka=q.p.ka) (e6:n'.op.os=n.op.os/\q'.p.oa=q.p.oa) (e7:n'.op.ag=n.op.ag/\q'.p.ga=q.p.ga) (e8:n'.ins=n.ins/\q'.ia=q.ia) (e9:n'.cols=n.cols/\q'.ka=q.ka):bw w n' q':=by
 refine ⟨⟨?_,?_,?_,?_,?_,?_,?_⟩,?_,?_⟩
 ·rw [e1.1,e1.2];exact h.o.e
 ·rw [e2.1,e2.2];exact h.o.n
 ·rw [e3.1,e3.2];exact h.o.c
 ·rw [e4.1,e4.2];exact h.o.r
 ·rw [e5.1,e5.2];exact h.o.k
 ·rw [e6.1,e6.2];exact h.o.o
 ·rw [e7.1,e7.2];exact h.o.g
 ·rw [e8.1,e8.2];exact h.i
 ·rw [e9.1,e9.2];exact h.c
theorem Dj {w W W':World} {g nb:Nat} (h:Fr w W [g,nb]) (hg:W.grownBy W' (some g)):Fr w W' [g,nb]:=h.trans (Fr.of (X:=[g]) hg (fun k hk=>by cases hk;simp)) (fun i hi=>by simp at hi;simp [hi])
theorem Ee {w W W':World} {g nb:Nat} (h:Fr w W [g,nb]) (hg:W.grownBy W' (some nb)):Fr w W' [g,nb]:=h.trans (Fr.of (X:=[nb]) hg (fun k hk=>by cases hk;simp)) (fun i hi=>by simp at hi;simp [hi])
theorem jF {rd:R1} {pf:P1} (c:LC) (hE:Ah c rd pf) (nb:Nat) (nm:ByteArray) (cols:List Co) (ins:List Int) (ca:Option Addr) (cc:Nat) (ia:Option Addr) (ic:Nat) (hcl:cols.length<=4096) (hgn:c.g+1<nb) (ts:List Tk) (w:World) (h:PJ c w ts) (hn:NB c w nb ⟨nm,{ aB with k:=0,c:=cols,nm:=[],ks:=[],wk:=0,ws:=0,wt:=0,ag:=[] },ins,[],0⟩ ⟨⟨none,0,none,0,ca,cc,none,0,none,0,none,0,none,0⟩,ia,ic,none,0⟩) :
 Calls Tryz.prog 141 #[.pointer (some ⟨c.g,0,none⟩),.pointer (some ⟨nb,1,none⟩)] w (Ed c nb nm w (oS ins (fX rd cols c.line.size ts))):=by
 obtain ⟨O,HX⟩:∃ O,Hid (oS ins (fX rd cols c.line.size ts)=O):=⟨_,rfl⟩
 rw [HX.out]
 unfold oS fX me at HX
 have HE:=jg hE
 have hgl:=h.lt
 have hmf:=ff
 have hnl:=hn.own.lt
 have hB2:Below w.heap.size w ((w.alloc (.cells #[.pointer (some ⟨c.g,0,none⟩)] 82)).alloc (.cells #[.pointer (some ⟨nb,1,none⟩)] 197)):=(ae w _).alloc (by simp) _
 have HB2a:=jg ((aD.new w 82 1 #[.pointer (some ⟨c.g,0,none⟩)] rfl).later (ae (w.alloc (.cells #[.pointer (some ⟨c.g,0,none⟩)] 82)) (.cells #[.pointer (some ⟨nb,1,none⟩)] 197)))
 have HB3a:=jg (aD.new (w.alloc (.cells #[.pointer (some ⟨c.g,0,none⟩)] 82)) 197 1 #[.pointer (some ⟨nb,1,none⟩)] rfl)
 rw [show (w.alloc (.cells #[.pointer (some ⟨c.g,0,none⟩)] 82)).heap.size=w.heap.size+1 from by simp] at HB3a
 have HNa:=jg (hn.later (by omega) hB2)
 have HFa:Hid (Fr w ((w.alloc (.cells #[.pointer (some ⟨c.g,0,none⟩)] 82)).alloc (.cells #[.pointer (some ⟨nb,1,none⟩)] 197)) [c.g,nb]):=Fr.of (aj (r:=none) hB2) (fun k hk=>by cases hk)
 have HPa:=jg (h.later hB2)
 have HCN:=jg hn.far.c
 go_in
 go_upto_region 1 with fail
 generalize hWA:((w.alloc (.cells #[.pointer (some ⟨c.g,0,none⟩)] 82)).alloc (.cells #[.pointer (some ⟨nb,1,none⟩)] 197))=WA at *
 have hwa:=HB3a.out.lt
 obtain ⟨B2,HB2e⟩:∃ B2,Hid (B2=w.heap.size):=⟨_,rfl⟩
 obtain ⟨B3,HB3e⟩:∃ B3,Hid (B3=B2+1):=⟨_,rfl⟩
 rw [<-HB2e.out] at hgl hnl HB2a HB3a HCN hwa ⊢
 rw [<-HB3e.out] at HB3a hwa ⊢
 have hb23:B2<B3:=by rw [HB3e.out];omega
 have p1:=HB3a.out.c 0 rfl
 have k1:=HNa.out.own.c 1 rfl
 have kf1:=HNa.out.own.soft 1
 have ln:nb<WA.heap.size:=by omega
 have HPU:=jg (HNa.out.own.put 1 (.int .i64 4))
 have HN0:Hid (NB c (WA.setCell ⟨nb,1,none⟩ (.int .i64 4)) nb ⟨nm,{ aB with k:=4,c:=cols,nm:=[],ks:=[],wk:=0,ws:=0,wt:=0,ag:=[] },ins,[],0⟩ ⟨⟨none,0,none,0,ca,cc,none,0,none,0,none,0,none,0⟩,ia,ic,none,0⟩):=⟨HPU.out.1,bw.re (HNa.out.own2 HPU.out.2) ⟨rfl,rfl⟩ ⟨rfl,rfl⟩ ⟨rfl,rfl⟩ ⟨rfl,rfl⟩ ⟨rfl,rfl⟩ ⟨rfl,rfl⟩ ⟨rfl,rfl⟩ ⟨rfl,rfl⟩ ⟨rfl,rfl⟩,HNa.out.far.up (fun b hb=>⟨hb.1,hb.2.1,lL hb.2.2 HPU.out.2.size⟩)⟩
 have HF0:=jg (Ee HFa.out HPU.out.2)
 have HB20:=jg (HB2a.out.grown HPU.out.2 (nS (by omega)))
 have HB30:=jg (HB3a.out.grown HPU.out.2 (nS (by omega)))
 have HP0:=jg (HPa.out.grown HPU.out.2 (fun k hk=>by cases hk;omega))
 go_upto_region 2 with fail
 generalize hW0:WA.setCell ⟨nb,1,none⟩ (.int .i64 4)=W0 at *
 have p0:=HB20.out.c 0 rfl
 have p1:=HB30.out.c 0 rfl
 have l2:=HB20.out.lt
 have l3:=HB30.out.lt
 have ln:=HN0.out.own.lt
 have HHS:=jg (jc c cP ts W0 HP0.out)
 unfold cP at HHS
 go_wp2_with fail
 refine HHS.out.mono ?_
 rintro e w1 ⟨he,hg,hp⟩
 rw [show (⟨#[110,111,116,104,105,110,103]⟩:ByteArray)=cP from rfl] at he hp
 subst he
 have HB21:=jg (HB20.out.grown hg (nS (by omega)))
 have HB31:=jg (HB30.out.grown hg (nS (by omega)))
 have HN1:=jg (HN0.out.g (by omega) hg)
 have HF1:=jg (Dj HF0.out hg)
 have HP1:=jg hp
 generalize (cq c.line.size cP ts).2=ts1 at *
 generalize hh:(cq c.line.size cP ts).1=hb at *
 obtain ⟨OK,HOK⟩:∃ OK,Hid (OK=if hb=true then (.ok ([],ts1):Except Nat (List Int × List Tk)) else bnd (bg c.line.size (kT cols c.line.size) dw ts1) fun l ts=>.ok (l.map (·.1),ts)):=⟨_,rfl⟩
 rw [<-HOK.out] at HX
 go_upto_if 9 with fail
 go_cut [] from 9 to 15 (fun wx=>∃ ks ts2 ka kc,OK=.ok (ks,ts2)/\PJ c wx ts2/\NB c wx nb ⟨nm,{ aB with k:=4,c:=cols,nm:=[],ks:=ks,wk:=0,ws:=0,wt:=0,ag:=[] },ins,[],0⟩ ⟨⟨none,0,none,0,ca,cc,none,0,ka,kc,none,0,none,0⟩,ia,ic,none,0⟩/\aD wx B2 82 1 [.pointer (some ⟨c.g,0,none⟩)]/\aD wx B3 197 1 [.pointer (some ⟨nb,1,none⟩)]/\Fr w wx [c.g,nb])
 case first=>
  cases hb with
  | true=>
   rw [if_pos rfl] at HOK
   go_wp2_with fail
   go_meet
   exact ⟨[],ts1,none,0,HOK.out,HP1.out,HN1.out,HB21.out,HB31.out,HF1.out⟩
  | false=>
   rw [if_neg (by simp)] at HOK
   have p0:=HB21.out.c 0 rfl
   have p1:=HB31.out.c 0 rfl
   have l2:=HB21.out.lt
   have l3:=HB31.out.lt
   have ln:=HN1.out.own.lt
   have hKN:KN c B2 B3 nb ca (B3+1):=⟨⟨hgl,by omega⟩,⟨by omega,by omega⟩,⟨by omega,by omega⟩,fun b off e=>⟨by have:=(HCN.out b off e).1;omega,by have:=(HCN.out b off e).2.2;omega⟩⟩
   have hd1:Below w1.heap.size w1 w1.drew:=aA
   have HSW:Hid (SW c B2 B3 nb cols ca cc ts1 [] none w1.drew):=⟨HP1.out.later aA,KS.later ⟨p0,p1,by rw [HN1.out.own.cell 4 (by decide)];rfl,HN1.out.at_.o.c⟩ aA,rfl⟩
   have HLS:=jg (gp .i c [] (B3+1) 180 #[] #[.pointer (some ⟨B2,0,none⟩),.pointer (some ⟨B3,0,none⟩)] (SW c B2 B3 nb cols ca cc) (SW.side hKN (.inr rfl)) (kT cols c.line.size) (fun ts x ts' h=>AU h) dw mL xZ (fun ts acc r W h=>A9 hKN hcl ts acc r W h) ts1 [] none w1.drew HSW.out)
   unfold dw at HLS
   have hS1:(fun W:World=>W.cell? ⟨B2,0,none⟩=some (.pointer (some ⟨c.g,0,none⟩))/\W.cell? ⟨B3,0,none⟩=some (.pointer (some ⟨nb,1,none⟩))) w1.drew:=⟨p0,p1⟩
   have HS1:=jg hS1
   go_wp2_with fail
   refine Go.wp_region_held (S:=(fun W=>W.cell? ⟨B2,0,none⟩=some (.pointer (some ⟨c.g,0,none⟩))/\W.cell? ⟨B3,0,none⟩=some (.pointer (some ⟨nb,1,none⟩)))) (by kernel_rfl) ?_
   change Go.wpAnyH _ _ _ _ _ _ _ _ (World.drew _)
   refine tk 0 (.pointer (some ⟨nb,1,none⟩)) rfl (by kernel_rfl) (by rfl) (fun _ _ _ h=>h) HS1.out (fun W hW=>?_) ?_
   ·obtain ⟨e1,e2⟩:=hW;go_simp
   refine tk 1 (.pointer (some ⟨c.g,0,none⟩)) rfl (by kernel_rfl) (by rfl) (fun _ _ _ h=>h) HS1.out (fun W hW=>?_) ?_
   ·obtain ⟨e1,e2⟩:=hW;go_simp
   refine tk 2 (.func (.func 180) #[] #[.pointer (some ⟨B2,0,none⟩),.pointer (some ⟨B3,0,none⟩)]) rfl (by kernel_rfl) (by rfl) (fun _ _ _ h=>h) HS1.out (fun W hW=>?_) ?_
   ·obtain ⟨e1,e2⟩:=hW;go_simp
   refine bH 3 (by kernel_rfl) rfl (fun K hK=>?_)
   go_simp
   refine HLS.out.mono ?_
   intro e w2 hr
   obtain ⟨hfr,hr⟩:=hr
   rw [show (⟨#[44]⟩:ByteArray)=dw from rfl] at hr
   have hg:=ai (aj aA) (Fr.g1 hfr)
   have HB22:=jg (HB21.out.grown hg (nS (by omega)))
   have HB32:=jg (HB31.out.grown hg (nS (by omega)))
   have HN2:=jg (HN1.out.g (by omega) hg)
   have HF2:=jg (Dj HF1.out hg)
   have hsz2:=hg.size
   cases ho:bg c.line.size (kT cols c.line.size) dw ts1 with
   | error n=>
    rw [ho] at hr HOK
    simp only [bnd] at hr HOK
    subst hr
    have HFX:=HF2
    rw [HOK.out] at HX
    simp only [bnd] at HX
    unfold cm
    show Ed _ _ _ _ O _ _
    rw [<-HX.out]
    exact ⟨HFX.out,rfl⟩
   | ok p=>
    obtain ⟨l,ts2⟩:=p
    rw [ho] at hr HOK
    simp only [bnd] at HOK
    obtain ⟨v,r',he,how,hss,-⟩:=hr
    subst he
    rw [show (l.flatMap fun p=>aT p.1)=(l.map (·.1)).flatMap aT by simp [List.flatMap_map]] at how
    obtain ⟨ka,kc,rfl,hka,hkb⟩:=fU (by simp) how
    have HPU:=jg (HN2.out.own.put 6 (.slice ka l.length kc))
    have hkr:∀ b off,ka=some ⟨b,off,none⟩->nb<=b+1/\b≠nb/\b<w2.heap.size:=fun b off e=>by
     have h1:w1.heap.size<=b:=hkb b off e
     have h2:b<w2.heap.size:=by
      subst e
      exact (World.ownsRow.lt how b rfl).2
     omega
    have HN3:Hid (NB c (w2.setCell ⟨nb,6,none⟩ (.slice ka l.length kc)) nb ⟨nm,{ aB with k:=4,c:=cols,nm:=[],ks:=l.map (·.1),wk:=0,ws:=0,wt:=0,ag:=[] },ins,[],0⟩ ⟨⟨none,0,none,0,ca,cc,none,0,ka,kc,none,0,none,0⟩,ia,ic,none,0⟩):=by
     have a:=HN2.out.own2 HPU.out.2
     have f:=HN2.out.far
     exact ⟨by rw [show au ⟨nm,{ aB with k:=4,c:=cols,nm:=[],ks:=l.map (·.1),wk:=0,ws:=0,wt:=0,ag:=[] },ins,[],0⟩ ⟨⟨none,0,none,0,ca,cc,none,0,ka,kc,none,0,none,0⟩,ia,ic,none,0⟩=(au ⟨nm,{ aB with k:=4,c:=cols,nm:=[],ks:=[],wk:=0,ws:=0,wt:=0,ag:=[] },ins,[],0⟩ ⟨⟨none,0,none,0,ca,cc,none,0,none,0,none,0,none,0⟩,ia,ic,none,0⟩).set 6 (.slice ka l.length kc) from by simp [au,aB]];exact HPU.out.1,⟨⟨a.o.e,a.o.n,a.o.c,a.o.r,aG.kept hka HPU.out.2 (fun b off e e2=>(hkr b off e).2.1 (sI e2).symm),a.o.o,a.o.g⟩,a.i,a.c⟩,(⟨f.e,f.n,f.c,f.r,hkr,f.o,f.g,f.i,f.l⟩:wP (fun b=>nb<=b+1/\b≠nb/\b<w2.heap.size) ⟨⟨none,0,none,0,ca,cc,none,0,ka,kc,none,0,none,0⟩,ia,ic,none,0⟩).up (fun b hb=>⟨hb.1,hb.2.1,lL hb.2.2 HPU.out.2.size⟩)⟩
    have HP3:=jg (hss.1.grown HPU.out.2 (fun k hk=>by cases hk;omega))
    have HB23:=jg (HB22.out.grown HPU.out.2 (nS (by omega)))
    have HB33:=jg (HB32.out.grown HPU.out.2 (nS (by omega)))
    have HF3:=jg (Ee HF2.out HPU.out.2)
    have s2:(fun W:World=>W.cell? ⟨B2,0,none⟩=some (.pointer (some ⟨c.g,0,none⟩))/\W.cell? ⟨B3,0,none⟩=some (.pointer (some ⟨nb,1,none⟩))) w2:=⟨by rw [HB22.out.cell 0 (by decide)];rfl,by rw [HB32.out.cell 0 (by decide)];rfl⟩
    have HS2:=jg s2
    have s3:(fun W:World=>W.cell? ⟨B2,0,none⟩=some (.pointer (some ⟨c.g,0,none⟩))/\W.cell? ⟨B3,0,none⟩=some (.pointer (some ⟨nb,1,none⟩))) (w2.setCell ⟨nb,6,none⟩ (.slice ka l.length kc)):=⟨by rw [HB23.out.cell 0 (by decide)];rfl,by rw [HB33.out.cell 0 (by decide)];rfl⟩
    have HS3:=jg s3
    have k6:w2.cell? ⟨nb,6,none⟩=some (.slice none 0 0):=HN2.out.own.c 6 rfl
    have kf6:=HN2.out.own.soft 6
    have ln2:=HN2.out.own.lt
    refine hK _ _ ⟨HS2.out,?_⟩
    refine tk 4 (.pointer (some ⟨nb,1,none⟩)) rfl (by kernel_rfl) (by rfl) (fun _ _ _ h=>h) HS2.out (fun W hW=>?_) ?_
    ·obtain ⟨e1,e2⟩:=hW;go_simp
    refine tk 5 (.pointer (some ⟨nb,6,none⟩)) rfl (by kernel_rfl) (by rfl) (fun _ _ _ h=>h) HS2.out (fun W hW=>?_) ?_
    ·obtain ⟨e1,e2⟩:=hW;go_simp
    refine bH 6 (by kernel_rfl) rfl (fun K hK=>?_)
    go_simp
    refine hK _ _ ⟨HS3.out,?_⟩
    refine Go.wpAnyH_done (by kernel_rfl) ?_ _
    go_wp2_with fail
    go_meet
    exact ⟨_,ts2,ka,kc,HOK.out,HP3.out,HN3.out,HB23.out,HB33.out,HF3.out⟩
 case rest=>
  obtain ⟨ks,ts2,ka,kc,hok,hp,hn4,hb4,hb5,hf4⟩:=hcut
  rw [hok] at HX
  simp only [bnd] at HX
  have HP4:=jg hp
  have HN4:=jg hn4
  have HB24:=jg hb4
  have HB34:=jg hb5
  have HF4:=jg hf4
  generalize wc=wd at *
  have p0:=HB24.out.c 0 rfl
  have p1:=HB34.out.c 0 rfl
  have l2:=HB24.out.lt
  have l3:=HB34.out.lt
  have ln:=HN4.out.own.lt
  have HS4:Hid ((fun W:World=>W.cell? ⟨B2,0,none⟩=some (.pointer (some ⟨c.g,0,none⟩))/\W.cell? ⟨B3,0,none⟩=some (.pointer (some ⟨nb,1,none⟩))) wd.drew):=⟨p0,p1⟩
  have HWN:=jg (lv c HE.out ts2 wd.drew (HP4.out.later aA))
  go_wp2_with fail
  go_cut [] from 16 to 20 (fun wx=>∃ v ts3,kR rd c.line.size ts2=.ok (v,ts3)/\PJ c wx ts3/\NB c wx nb ⟨nm,{ aB with k:=4,c:=cols,nm:=[],ks:=ks,wk:=v.1,ws:=v.2.1,wt:=v.2.2,ag:=[] },ins,[],0⟩ ⟨⟨none,0,none,0,ca,cc,none,0,ka,kc,none,0,none,0⟩,ia,ic,none,0⟩/\aD wx B2 82 1 [.pointer (some ⟨c.g,0,none⟩)]/\aD wx B3 197 1 [.pointer (some ⟨nb,1,none⟩)]/\Fr w wx [c.g,nb])
  case first=>
   refine Go.wp_region_held (S:=(fun W=>W.cell? ⟨B2,0,none⟩=some (.pointer (some ⟨c.g,0,none⟩))/\W.cell? ⟨B3,0,none⟩=some (.pointer (some ⟨nb,1,none⟩)))) (by kernel_rfl) ?_
   change Go.wpAnyH _ _ _ _ _ _ _ _ (World.drew _)
   refine tk 0 (.pointer (some ⟨nb,1,none⟩)) rfl (by kernel_rfl) (by rfl) (fun _ _ _ h=>h) HS4.out (fun W hW=>?_) ?_
   ·obtain ⟨e1,e2⟩:=hW;go_simp
   refine tk 1 (.pointer (some ⟨c.g,0,none⟩)) rfl (by kernel_rfl) (by rfl) (fun _ _ _ h=>h) HS4.out (fun W hW=>?_) ?_
   ·obtain ⟨e1,e2⟩:=hW;go_simp
   refine bH 2 (by kernel_rfl) rfl (fun K hK=>?_)
   go_simp
   refine HWN.out.mono ?_
   intro e w5 hr
   rcases hr.el with ⟨n,ho,rfl,hg'⟩ | ⟨v,ts3,ho,rfl,hg',hp⟩
   ·have hg:=ai (aj aA) hg'
    have HFX:=jg (Dj HF4.out hg)
    rw [ho] at HX
    simp only [bnd] at HX
    unfold cm
    show Ed _ _ _ _ O _ _
    rw [<-HX.out]
    exact ⟨HFX.out,rfl⟩
   ·have hg:=ai (aj aA) hg'
    have HB25:=jg (HB24.out.grown hg (nS (by omega)))
    have HB35:=jg (HB34.out.grown hg (nS (by omega)))
    have HN5:=jg (HN4.out.g (by omega) hg)
    have HF5:=jg (Dj HF4.out hg)
    have HO5:=jg ho
    have HP5:=jg hp
    have HPU1:=jg (HN5.out.own.put 8 (.int .i64 v.1))
    have HPU2:=jg (HPU1.out.1.put 9 (.int .i64 v.2.1))
    have HPU3:=jg (HPU2.out.1.put 10 (.int .i64 v.2.2))
    have HPU:=jg (ai (ai HPU1.out.2 HPU2.out.2) HPU3.out.2)
    have HN6:Hid (NB c (((w5.setCell ⟨nb,8,none⟩ (.int .i64 v.1)).setCell ⟨nb,9,none⟩ (.int .i64 v.2.1)).setCell ⟨nb,10,none⟩ (.int .i64 v.2.2)) nb ⟨nm,{ aB with k:=4,c:=cols,nm:=[],ks:=ks,wk:=v.1,ws:=v.2.1,wt:=v.2.2,ag:=[] },ins,[],0⟩ ⟨⟨none,0,none,0,ca,cc,none,0,ka,kc,none,0,none,0⟩,ia,ic,none,0⟩):=⟨HPU3.out.1,bw.re (HN5.out.own2 HPU.out) ⟨rfl,rfl⟩ ⟨rfl,rfl⟩ ⟨rfl,rfl⟩ ⟨rfl,rfl⟩ ⟨rfl,rfl⟩ ⟨rfl,rfl⟩ ⟨rfl,rfl⟩ ⟨rfl,rfl⟩ ⟨rfl,rfl⟩,HN5.out.far.up (fun b hb=>⟨hb.1,hb.2.1,lL hb.2.2 HPU.out.size⟩)⟩
    have HP6:=jg (HP5.out.grown HPU.out (fun k hk=>by cases hk;omega))
    have HB26:=jg (HB25.out.grown HPU.out (nS (by omega)))
    have HB36:=jg (HB35.out.grown HPU.out (nS (by omega)))
    have HF6:=jg (Ee HF5.out HPU.out)
    have HS5:Hid ((fun W:World=>W.cell? ⟨B2,0,none⟩=some (.pointer (some ⟨c.g,0,none⟩))/\W.cell? ⟨B3,0,none⟩=some (.pointer (some ⟨nb,1,none⟩))) w5):=⟨by rw [HB25.out.cell 0 (by decide)];rfl,by rw [HB35.out.cell 0 (by decide)];rfl⟩
    have HS6:Hid ((fun W:World=>W.cell? ⟨B2,0,none⟩=some (.pointer (some ⟨c.g,0,none⟩))/\W.cell? ⟨B3,0,none⟩=some (.pointer (some ⟨nb,1,none⟩))) (((w5.setCell ⟨nb,8,none⟩ (.int .i64 v.1)).setCell ⟨nb,9,none⟩ (.int .i64 v.2.1)).setCell ⟨nb,10,none⟩ (.int .i64 v.2.2))):=⟨by rw [HB26.out.cell 0 (by decide)];rfl,by rw [HB36.out.cell 0 (by decide)];rfl⟩
    have k8:=HN5.out.own.c 8 rfl
    have k9:=HN5.out.own.c 9 rfl
    have k10:=HN5.out.own.c 10 rfl
    have kf8:=HN5.out.own.soft 8
    have kf9:=HN5.out.own.soft 9
    have kf10:=HN5.out.own.soft 10
    have ln5:=HN5.out.own.lt
    unfold vz
    refine hK _ _ ⟨HS5.out,?_⟩
    refine tk 3 (.pointer (some ⟨nb,1,none⟩)) rfl (by kernel_rfl) (by rfl) (fun _ _ _ h=>h) HS5.out (fun W hW=>?_) ?_
    ·obtain ⟨e1,e2⟩:=hW;go_simp
    refine tk 4 (.pointer (some ⟨nb,8,none⟩)) rfl (by kernel_rfl) (by rfl) (fun _ _ _ h=>h) HS5.out (fun W hW=>?_) ?_
    ·obtain ⟨e1,e2⟩:=hW;go_simp
    refine bH 5 (by kernel_rfl) rfl (fun K hK=>?_)
    go_simp
    refine hK _ _ ⟨HS6.out,?_⟩
    refine Go.wpAnyH_done (by kernel_rfl) ?_ _
    go_wp2_with fail
    go_meet
    exact ⟨v,ts3,HO5.out,HP6.out,HN6.out,HB26.out,HB36.out,HF6.out⟩
  case rest=>
   obtain ⟨v,ts3,hok,hp,hn7,hb4,hb5,hf4⟩:=hcut
   rw [hok] at HX
   simp only [bnd] at HX
   have HP7:=jg hp
   have HN7:=jg hn7
   have HB27:=jg hb4
   have HB37:=jg hb5
   have HF7:=jg hf4
   generalize wc=we at *
   have p0:=HB27.out.c 0 rfl
   have p1:=HB37.out.c 0 rfl
   have l2:=HB27.out.lt
   have l3:=HB37.out.lt
   have ln:=HN7.out.own.lt
   have HHS:=jg (jc c eK ts3 we HP7.out)
   unfold eK at HHS
   go_wp2_with fail
   refine HHS.out.mono ?_
   rintro e w8 ⟨he,hg,hp⟩
   rw [show (⟨#[103,105,118,101]⟩:ByteArray)=eK from rfl] at he hp
   subst he
   have HB28:=jg (HB27.out.grown hg (nS (by omega)))
   have HB38:=jg (HB37.out.grown hg (nS (by omega)))
   have HN8:=jg (HN7.out.g (by omega) hg)
   have HF8:=jg (Dj HF7.out hg)
   have HP8:=jg hp
   generalize (cq c.line.size eK ts3).2=ts4 at *
   generalize hh:(cq c.line.size eK ts3).1=hb at *
   cases hb with
   | false=>
    rw [if_neg (by simp)] at HX
    simp only [bnd] at HX
    go_wp2_with fail
    go_end0
    rw [<-HX.out]
    exact ⟨HF8.out,rfl,HP8.out,_,HN8.out⟩
   | true=>
    rw [if_pos rfl] at HX
    have p0:=HB28.out.c 0 rfl
    have p1:=HB38.out.c 0 rfl
    have l2:=HB28.out.lt
    have l3:=HB38.out.lt
    have ln:=HN8.out.own.lt
    have hKN:KN c B2 B3 nb ca w8.drew.heap.size:=⟨⟨hgl,l2⟩,⟨by omega,l3⟩,⟨by omega,ln⟩,fun b off e=>⟨by have:=(HN8.out.far.c b off e).1;omega,(HN8.out.far.c b off e).2.2⟩⟩
    have hks:=KS.later ⟨p0,p1,by rw [HN8.out.own.cell 4 (by decide)];rfl,HN8.out.at_.o.c⟩ aA
    have HTT:=jg (rf c (KS c B2 B3 nb cols ca cc) 184 #[] #[.pointer (some ⟨B2,0,none⟩),.pointer (some ⟨B3,0,none⟩)] (jk cols c.line.size) yL (fun ts W hq hp=>by simp only [Array.empty_append];exact qm c B2 B3 nb _ cols ca cc hKN hcl ts W hq hp) (fun ts y ts' h=>Bc h) ts4 w8.drew (fun W W' hq hg=>hq.go hKN hg) (fun W W' k hq hg hk=>hq.far hKN hg hk) hks (HP8.out.later aA))
    have HS8:Hid ((fun W:World=>W.cell? ⟨B2,0,none⟩=some (.pointer (some ⟨c.g,0,none⟩))/\W.cell? ⟨B3,0,none⟩=some (.pointer (some ⟨nb,1,none⟩))) w8.drew):=⟨p0,p1⟩
    go_wp2_with fail
    refine Go.wp_region_held (S:=(fun W=>W.cell? ⟨B2,0,none⟩=some (.pointer (some ⟨c.g,0,none⟩))/\W.cell? ⟨B3,0,none⟩=some (.pointer (some ⟨nb,1,none⟩)))) (by kernel_rfl) ?_
    change Go.wpAnyH _ _ _ _ _ _ _ _ (World.drew _)
    refine tk 0 (.pointer (some ⟨nb,1,none⟩)) rfl (by kernel_rfl) (by rfl) (fun _ _ _ h=>h) HS8.out (fun W hW=>?_) ?_
    ·obtain ⟨e1,e2⟩:=hW;go_simp
    refine tk 2 (.pointer (some ⟨c.g,0,none⟩)) rfl (by kernel_rfl) (by rfl) (fun _ _ _ h=>h) HS8.out (fun W hW=>?_) ?_
    ·obtain ⟨e1,e2⟩:=hW;go_simp
    refine tk 3 (.func (.func 184) #[] #[.pointer (some ⟨B2,0,none⟩),.pointer (some ⟨B3,0,none⟩)]) rfl (by kernel_rfl) (by rfl) (fun _ _ _ h=>h) HS8.out (fun W hW=>?_) ?_
    ·obtain ⟨e1,e2⟩:=hW;go_simp
    refine tk 1 (.pointer (some ⟨nb,1,none⟩)) rfl (by kernel_rfl) (by rfl) (fun _ _ _ h=>h) HS8.out (fun W hW=>?_) ?_
    ·obtain ⟨e1,e2⟩:=hW;go_simp
    refine bH 4 (by kernel_rfl) rfl (fun K hK=>?_)
    go_simp
    refine HTT.out.mono ?_
    intro e w9 hr
    obtain ⟨hg',hr⟩:=hr
    have hg:=ai (aj aA) hg'
    have HB29:=jg (HB28.out.grown hg (nS (by omega)))
    have HB39:=jg (HB38.out.grown hg (nS (by omega)))
    have HN9:=jg (HN8.out.g (by omega) hg)
    have HF9:=jg (Dj HF8.out hg)
    have hsz9:=hg.size
    cases ho:bg c.line.size (kB (jk cols c.line.size) c.line.size) dw ts4 with
    | error n=>
     rw [ho] at hr HX
     simp only [bnd] at hr HX
     subst hr
     unfold cm
     show Ed _ _ _ _ O _ _
     rw [<-HX.out]
     exact ⟨HF9.out,rfl⟩
    | ok p=>
     obtain ⟨l,ts5⟩:=p
     rw [ho] at hr HX
     simp only [bnd] at HX
     obtain ⟨v1,v2,he,hr1,hr2,hp,-⟩:=hr
     subst he
     rw [show (l.flatMap fun p=>bC p.1)=(l.map (·.1)).flatMap bC by simp [List.flatMap_map]] at hr2
     obtain ⟨ga,gc,rfl,hga,hgb⟩:=Ce (by simp) hr1
     obtain ⟨na,nc,rfl,hna,hnb⟩:=ph (by simp) hr2
     simp only [List.length_map]
     have hgr:∀ b off,ga=some ⟨b,off,none⟩->nb<=b+1/\b≠nb/\b<w9.heap.size:=fun b off e=>by
      have h1:w8.heap.size<=b:=hgb b off e
      have h2:b<w9.heap.size:=by
       subst e
       exact (World.ownsRow.lt hr1 b rfl).2
      omega
     have hnr:∀ b off,na=some ⟨b,off,none⟩->nb<=b+1/\b≠nb/\b<w9.heap.size:=fun b off e=>by
      have h1:w8.heap.size<=b:=hnb b off e
      have h2:b<w9.heap.size:=by
       subst e
       exact (World.ownsRow.lt hr2 b rfl).2
      omega
     have HPU1:=jg (HN9.out.own.put 11 (.slice ga l.length gc))
     have HPU2:=jg (HPU1.out.1.put 3 (.slice na l.length nc))
     have HPU:=jg (ai HPU1.out.2 HPU2.out.2)
     have HN11:Hid (NB c ((w9.setCell ⟨nb,11,none⟩ (.slice ga l.length gc)).setCell ⟨nb,3,none⟩ (.slice na l.length nc)) nb ⟨nm,{ aB with k:=4,c:=cols,nm:=l.map (·.1),ks:=ks,wk:=v.1,ws:=v.2.1,wt:=v.2.2,ag:=l.map (·.2) },ins,[],0⟩ ⟨⟨none,0,na,nc,ca,cc,none,0,ka,kc,none,0,ga,gc⟩,ia,ic,none,0⟩):=by
      have a:=HN9.out.own2 HPU.out
      have f:=HN9.out.far
      exact ⟨by rw [show au ⟨nm,{ aB with k:=4,c:=cols,nm:=l.map (·.1),ks:=ks,wk:=v.1,ws:=v.2.1,wt:=v.2.2,ag:=l.map (·.2) },ins,[],0⟩ ⟨⟨none,0,na,nc,ca,cc,none,0,ka,kc,none,0,ga,gc⟩,ia,ic,none,0⟩=((au ⟨nm,{ aB with k:=4,c:=cols,nm:=[],ks:=ks,wk:=v.1,ws:=v.2.1,wt:=v.2.2,ag:=[] },ins,[],0⟩ ⟨⟨none,0,none,0,ca,cc,none,0,ka,kc,none,0,none,0⟩,ia,ic,none,0⟩).set 11 (.slice ga l.length gc)).set 3 (.slice na l.length nc) from by simp [au,aB]];exact HPU2.out.1,⟨⟨a.o.e,bu.kept hna HPU.out (fun b off e e2=>(hnr b off e).2.1 (sI e2).symm),a.o.c,a.o.r,a.o.k,a.o.o,eR.kept hga HPU.out (fun b off e e2=>(hgr b off e).2.1 (sI e2).symm)⟩,a.i,a.c⟩,(⟨f.e,hnr,f.c,f.r,f.k,f.o,hgr,f.i,f.l⟩:wP (fun b=>nb<=b+1/\b≠nb/\b<w9.heap.size) ⟨⟨none,0,na,nc,ca,cc,none,0,ka,kc,none,0,ga,gc⟩,ia,ic,none,0⟩).up (fun b hb=>⟨hb.1,hb.2.1,lL hb.2.2 HPU.out.size⟩)⟩
     have HP11:=jg (hp.grown HPU.out (fun k hk=>by cases hk;omega))
     have HF11:=jg (Ee HF9.out HPU.out)
     have HB210:=jg (HB29.out.grown HPU1.out.2 (nS (by omega)))
     have HB310:=jg (HB39.out.grown HPU1.out.2 (nS (by omega)))
     have HB211:=jg (HB29.out.grown HPU.out (nS (by omega)))
     have HB311:=jg (HB39.out.grown HPU.out (nS (by omega)))
     have HS9:Hid ((fun W:World=>W.cell? ⟨B2,0,none⟩=some (.pointer (some ⟨c.g,0,none⟩))/\W.cell? ⟨B3,0,none⟩=some (.pointer (some ⟨nb,1,none⟩))) w9):=⟨by rw [HB29.out.cell 0 (by decide)];rfl,by rw [HB39.out.cell 0 (by decide)];rfl⟩
     have HS10:Hid ((fun W:World=>W.cell? ⟨B2,0,none⟩=some (.pointer (some ⟨c.g,0,none⟩))/\W.cell? ⟨B3,0,none⟩=some (.pointer (some ⟨nb,1,none⟩))) (w9.setCell ⟨nb,11,none⟩ (.slice ga l.length gc))):=⟨by rw [HB210.out.cell 0 (by decide)];rfl,by rw [HB310.out.cell 0 (by decide)];rfl⟩
     have HS11:Hid ((fun W:World=>W.cell? ⟨B2,0,none⟩=some (.pointer (some ⟨c.g,0,none⟩))/\W.cell? ⟨B3,0,none⟩=some (.pointer (some ⟨nb,1,none⟩))) ((w9.setCell ⟨nb,11,none⟩ (.slice ga l.length gc)).setCell ⟨nb,3,none⟩ (.slice na l.length nc))):=⟨by rw [HB211.out.cell 0 (by decide)];rfl,by rw [HB311.out.cell 0 (by decide)];rfl⟩
     have k11:w9.cell? ⟨nb,11,none⟩=some (.slice none 0 0):=HN9.out.own.c 11 rfl
     have kf11:=HN9.out.own.soft 11
     have k3:w9.cell? ⟨nb,3,none⟩=some (.slice none 0 0):=HN9.out.own.c 3 rfl
     have kf3:=HN9.out.own.soft 3
     have ln9:=HN9.out.own.lt
     refine hK _ _ ⟨HS9.out,?_⟩
     refine tk 5 (.tuple #[.slice ga l.length gc,.slice na l.length nc]) rfl (by kernel_rfl) (by rfl) (fun _ _ _ h=>h) HS9.out (fun W hW=>?_) ?_
     ·obtain ⟨e1,e2⟩:=hW;go_simp
     refine tk 6 (.slice ga l.length gc) rfl (by kernel_rfl) (by rfl) (fun _ _ _ h=>h) HS9.out (fun W hW=>?_) ?_
     ·obtain ⟨e1,e2⟩:=hW;go_simp
     refine tk 7 (.slice na l.length nc) rfl (by kernel_rfl) (by rfl) (fun _ _ _ h=>h) HS9.out (fun W hW=>?_) ?_
     ·obtain ⟨e1,e2⟩:=hW;go_simp
     refine tk 8 (.pointer (some ⟨nb,1,none⟩)) rfl (by kernel_rfl) (by rfl) (fun _ _ _ h=>h) HS9.out (fun W hW=>?_) ?_
     ·obtain ⟨e1,e2⟩:=hW;go_simp
     refine tk 9 (.pointer (some ⟨nb,11,none⟩)) rfl (by kernel_rfl) (by rfl) (fun _ _ _ h=>h) HS9.out (fun W hW=>?_) ?_
     ·obtain ⟨e1,e2⟩:=hW;go_simp
     refine bH 10 (by kernel_rfl) rfl (fun K hK=>?_)
     go_simp
     refine hK _ _ ⟨HS10.out,?_⟩
     refine tk 11 (.pointer (some ⟨nb,1,none⟩)) rfl (by kernel_rfl) (by rfl) (fun _ _ _ h=>h) HS10.out (fun W hW=>?_) ?_
     ·obtain ⟨e1,e2⟩:=hW;go_simp
     refine tk 12 (.pointer (some ⟨nb,3,none⟩)) rfl (by kernel_rfl) (by rfl) (fun _ _ _ h=>h) HS10.out (fun W hW=>?_) ?_
     ·obtain ⟨e1,e2⟩:=hW;go_simp
     refine bH 13 (by kernel_rfl) rfl (fun K hK=>?_)
     go_simp
     refine hK _ _ ⟨HS11.out,?_⟩
     refine Go.wpAnyH_done (by kernel_rfl) ?_ _
     go_wp2_with fail
     go_end0
     rw [<-HX.out]
     exact ⟨HF11.out,rfl,HP11.out,_,HN11.out⟩
end Go.Proofs.YtiiliobffnhpmaaGreatDoor.Jp
