import Derived.Test.YtiiliobffnhpmaaGreatDoorGbi
set_option linter.all false
set_option maxRecDepth 100000
set_option maxHeartbeats 4000000
namespace Go.Proofs.YtiiliobffnhpmaaGreatDoor
namespace Jp
open Go.RowKit Oo
attribute [local go_sem] an
structure lz (w:World) (rd:R1) (pf:P1) (ckF:List Co->ByteArray->Except Nat Int):Prop where
 fr:∀ s W,s.size<=3000->Below w.heap.size w W->Calls Tryz.prog 172 #[.string s] W (EF W (rd s))
 fp:∀ s W,s.size<=3000->Below w.heap.size w W->Calls Tryz.prog 176 #[.string s] W (EA W (pf s))
 fs:∀ s t,pf s=.ok t->t.size<=1048576
 fk:∀ c,c.length<=4096->(∀ x∈c,x.nm.size<=12)->om w c (ckF c)
 fg:wT rd
theorem lz.later {w w':World} {rd:R1} {pf:P1} {ckF:List Co->ByteArray->Except Nat Int} (h:lz w rd pf ckF) (hb:Below w.heap.size w w'):lz w' rd pf ckF:=
 ⟨fun s W hs hW=>h.fr s W hs (hb.trans (hW.mono hb.size)),fun s W hs hW=>h.fp s W hs (hb.trans (hW.mono hb.size)),h.fs,fun c h1 h2=>(h.fk c h1 h2).later hb,h.fg⟩
theorem lz.env {rd:R1} {pf:P1} {ckF:List Co->ByteArray->Except Nat Int} (c:LC) (h:lz c.w0 rd pf ckF):Ah c rd pf:=⟨h.fr,h.fp,h.fs⟩
theorem bu.blk {w:World} {a:Option Addr} {l:List ByteArray} (h:bu w a l) (hl:l≠[]):∀ b off,a=some ⟨b,off,none⟩->b<w.heap.size:=fun b off e=>by
 obtain ⟨b',off',e',h1⟩:=h 0 (List.length_pos_iff.2 hl)
 rw [e] at e'
 cases e'
 exact bL h1
theorem aG.blk {w:World} {a:Option Addr} {l:List Int} (h:aG w a l) (hl:l≠[]):∀ b off,a=some ⟨b,off,none⟩->b<w.heap.size:=fun b off e=>by
 obtain ⟨b',off',e',h1⟩:=h 0 (List.length_pos_iff.2 hl)
 rw [e] at e'
 cases e'
 exact bL h1
theorem ap.blk {w:World} {a:Option Addr} {l:List Co} (h:ap w a l) (hl:l≠[]):∀ b off,a=some ⟨b,off,none⟩->b<w.heap.size:=fun b off e=>by
 obtain ⟨b',off',e',h1,_⟩:=h 0 (List.length_pos_iff.2 hl)
 rw [e] at e'
 cases e'
 exact bL h1
theorem eR.blk {w:World} {a:Option Addr} {l:List Oo.Ag} (h:eR w a l) (hl:l≠[]):∀ b off,a=some ⟨b,off,none⟩->b<w.heap.size:=fun b off e=>by
 obtain ⟨b',off',e',h1,_⟩:=h 0 (List.length_pos_iff.2 hl)
 rw [e] at e'
 cases e'
 exact bL h1
structure kf (R:Nat->Prop) (m:aJ) (q:bM):Prop where
 e:m.op.ex≠[]->∀ b off,q.p.ea=some ⟨b,off,none⟩->R b
 n:m.op.nm≠[]->∀ b off,q.p.na=some ⟨b,off,none⟩->R b
 c:m.op.c≠[]->∀ b off,q.p.ca=some ⟨b,off,none⟩->R b
 r:m.op.r≠[]->∀ b off,q.p.ra=some ⟨b,off,none⟩->R b
 k:m.op.ks≠[]->∀ b off,q.p.ka=some ⟨b,off,none⟩->R b
 o:m.op.os≠[]->∀ b off,q.p.oa=some ⟨b,off,none⟩->R b
 g:m.op.ag≠[]->∀ b off,q.p.ga=some ⟨b,off,none⟩->R b
 i:m.ins≠[]->∀ b off,q.ia=some ⟨b,off,none⟩->R b
 l:m.cols≠[]->∀ b off,q.ka=some ⟨b,off,none⟩->R b
theorem kf.up {R R':Nat->Prop} {n:aJ} {q:bM} (h:kf R n q) (hr:∀ b,R b->R' b):kf R' n q:=⟨fun x b o e=>hr b (h.e x b o e),fun x b o e=>hr b (h.n x b o e),fun x b o e=>hr b (h.c x b o e),fun x b o e=>hr b (h.r x b o e),fun x b o e=>hr b (h.k x b o e),fun x b o e=>hr b (h.o x b o e),fun x b o e=>hr b (h.g x b o e),fun x b o e=>hr b (h.i x b o e),fun x b o e=>hr b (h.l x b o e)⟩
theorem uD {w:World} {R:Nat->Prop} {n:aJ} {q:bM} (h:bw w n q) (hf:wP R q):kf (fun b=>R b/\b<w.heap.size) n q:=⟨fun x b o e=>⟨hf.e b o e,bu.blk h.o.e x b o e⟩,fun x b o e=>⟨hf.n b o e,bu.blk h.o.n x b o e⟩,fun x b o e=>⟨hf.c b o e,ap.blk h.o.c x b o e⟩,fun x b o e=>⟨hf.r b o e,ap.blk h.o.r x b o e⟩,fun x b o e=>⟨hf.k b o e,aG.blk h.o.k x b o e⟩,fun x b o e=>⟨hf.o b o e,aG.blk h.o.o x b o e⟩,fun x b o e=>⟨hf.g b o e,eR.blk h.o.g x b o e⟩,fun x b o e=>⟨hf.i b o e,aG.blk h.i x b o e⟩,fun x b o e=>⟨hf.l b o e,ap.blk h.c x b o e⟩⟩
theorem gM {α:Type} {l:List α} {p:(i:Nat)->i<l.length->Prop} (h:l=[]):∀ i (hi:i<l.length),p i hi:=fun i hi=>absurd hi (by simp [h])
theorem bw.keptL {w w':World} {n:aJ} {q:bM} {r:Option Nat} {R:Nat->Prop} (h:bw w n q) (hg:w.grownBy w' r) (hf:kf R n q) (hr:∀ b,R b->r≠some b):bw w' n q:=by
 refine ⟨⟨?_,?_,?_,?_,?_,?_,?_⟩,?_,?_⟩
 ·by_cases hz:n.op.ex=[]
  ·exact gM hz
  ·exact bu.kept h.o.e hg (fun b off e=>hr b (hf.e hz b off e))
 ·by_cases hz:n.op.nm=[]
  ·exact gM hz
  ·exact bu.kept h.o.n hg (fun b off e=>hr b (hf.n hz b off e))
 ·by_cases hz:n.op.c=[]
  ·exact gM hz
  ·exact ap.kept h.o.c hg (fun b off e=>hr b (hf.c hz b off e))
 ·by_cases hz:n.op.r=[]
  ·exact gM hz
  ·exact ap.kept h.o.r hg (fun b off e=>hr b (hf.r hz b off e))
 ·by_cases hz:n.op.ks=[]
  ·exact gM hz
  ·exact aG.kept h.o.k hg (fun b off e=>hr b (hf.k hz b off e))
 ·by_cases hz:n.op.os=[]
  ·exact gM hz
  ·exact aG.kept h.o.o hg (fun b off e=>hr b (hf.o hz b off e))
 ·by_cases hz:n.op.ag=[]
  ·exact gM hz
  ·exact eR.kept h.o.g hg (fun b off e=>hr b (hf.g hz b off e))
 ·by_cases hz:n.ins=[]
  ·exact gM hz
  ·exact aG.kept h.i hg (fun b off e=>hr b (hf.i hz b off e))
 ·by_cases hz:n.cols=[]
  ·exact gM hz
  ·exact ap.kept h.c hg (fun b off e=>hr b (hf.l hz b off e))
theorem ym (n:aJ) (q:bM):(au n q).toArray=#[.string n.nm,.int .i64 n.op.k,.slice q.p.ea n.op.ex.length q.p.ec,.slice q.p.na n.op.nm.length q.p.nc,.slice q.p.ca n.op.c.length q.p.cc,.slice q.p.ra n.op.r.length q.p.rc,.slice q.p.ka n.op.ks.length q.p.kc,.slice q.p.oa n.op.os.length q.p.oc,.int .i64 n.op.wk,.int .i64 n.op.ws,.int .i64 n.op.wt,.slice q.p.ga n.op.ag.length q.p.gc,.bool n.op.ou,.slice q.ia n.ins.length q.ic,.slice q.ka n.cols.length q.kc,.int .i64 n.bd]:=rfl
def nU (n:aJ) (q:bM):Prop:=n.op.k=6/\2<=n.ins.length->n.ins.length<=q.ic
structure NR (w:World) (B:Nat) (v:Value) (ps:List (aJ × bM)):Prop where
 own:w.ownsRow B 61 16 v ps.length (ps.flatMap bU)
 at_:∀ p∈ps,bw w p.1 p.2
 far:∀ p∈ps,kf (fun b=>B<=b/\b<w.heap.size/\v.ownBlock≠some b) p.1 p.2
 cap:∀ p∈ps,nU p.1 p.2
theorem NR.later {w w':World} {B:Nat} {v:Value} {ps:List (aJ × bM)} (h:NR w B v ps) (hb:Below w.heap.size w w'):NR w' B v ps:=
 ⟨aO h.own hb,fun p hp=>(h.at_ p hp).later hb,fun p hp=>(h.far p hp).up (fun b hx=>⟨hx.1,by have:=hb.size;omega,hx.2.2⟩),h.cap⟩
theorem NR.nl {w:World} {B:Nat} {v:Value} {ps:List (aJ × bM)} (h:NR w B v ps):∃ a c,v=.slice a ps.length c/\NL w a ps:=wX rfl h.own h.at_
theorem Cd (w:World) (B:Nat):NR w B (.slice none 0 0) []:=⟨World.ownsRow_nil _ _ _ _,fun p hp=>(by cases hp),fun p hp=>(by cases hp),fun p hp=>(by cases hp)⟩
theorem pt {w:World} {g t n:Nat} {cs:Array Value} (hg:w.heap[g]?=some (.cells cs t (0,0))) (hs:cs.size=n):aD w g t n cs.toList:=
 ⟨by simp [hs],.inr ⟨g,1,cs,rfl,lR,hg,lR,by unfold maxLen;decide,by omega,by rw [List.take_of_length_le];simp [hs]⟩⟩
def Ec (w:World) (bn B:Nat) (v:Value) (o:Except Nat (List aJ)) (e:Ending) (w':World):Prop:=Fr w w' (bn::v.ownBlock.toList)/\match o with
 | .ok nodes=>e=.returned (.tuple #[])/\∃ v' ps,ps.map (·.1)=nodes/\aD w' bn 22 1 [v']/\NR w' B v' ps/\(∀ p∈ps,kf (fun b=>b<bn\/w.heap.size<=b) p.1 p.2)/\∀ g,v'.ownBlock=some g->g<bn\/w.heap.size<=g
 | .error k=>e=cm k/\Below w.heap.size w w'
theorem i6 {w w':World} {X:List Nat} (h:Below w.heap.size w w'):Fr w w' X:=⟨h.os,h.tape,h.output,h.size,fun i hi _=>h.block i hi⟩
theorem oO {w w':World} {bn B k:Nat} {v:Value} (h:Below w.heap.size w w'):Ec w bn B v (.error k) (cm k) w':=⟨i6 h,rfl,h⟩
theorem uW (ps:List (aJ × bM)) (aN:Option Addr) (cN:Nat) (NN:aJ) (QQ:bM) (B bn L:Nat) (w w8:World) (hBw8:Below w.heap.size w w8) (hNb8:aD w8 bn 22 1 [.slice aN ps.length cN]) (hR8:NR w8 B (.slice aN ps.length cN) ps) (hFB:∀ p∈ps,kf (fun b=>b<bn) p.1 p.2) (hVB:∀ g,(Value.slice aN ps.length cN).ownBlock=some g->g<bn) (hN8:bw w8 NN QQ) (hQ8:kf (fun b=>L<b/\b<w8.heap.size) NN QQ) (hL:bn<L) (hBL:B<=L) (hwL:w.heap.size<=L) (hcap:nU NN QQ)
 (gg cap9:Nat) (w9:World) (hown:w9.ownsRow B 61 16 (.slice (some ⟨gg,0,none⟩) (ps.length+1) cap9) (ps.length+1) (ps.flatMap bU++au NN QQ)) (hgrow:w8.grownBy w9 (Value.slice aN ps.length cN).ownBlock) (hgg:(Value.slice aN ps.length cN).ownBlock=some gg\/gg=w8.heap.size) (hlt:gg<w9.heap.size) :
 Ec w bn B (.slice aN ps.length cN) (.ok (ps.map (·.1)++[NN])) (.returned (.tuple #[])) (w9.setCell ⟨bn,0,none⟩ (.slice (some ⟨gg,0,none⟩) (ps.length+1) cap9)):=by
 have hb8:=hNb8.lt
 have hvb:some bn≠(Value.slice aN ps.length cN).ownBlock:=fun e=>by have:=hVB bn e.symm;omega
 have hNb9:=hNb8.grown hgrow hvb
 have hput:=hNb9.put 0 (.slice (some ⟨gg,0,none⟩) (ps.length+1) cap9)
 have hgb:gg≠bn:=by
  rcases hgg with h | h
  ·have:=hVB gg h;omega
  ·omega
 refine ⟨((i6 hBw8).trans (Fr.of (X:=(Value.slice aN ps.length cN).ownBlock.toList) hgrow (fun k hk=>.inl (by rw [hk];simp))) (fun i hi=>.inl (List.mem_cons_of_mem _ hi))).trans (Fr.of (X:=[bn]) hput.2 (fun k hk=>.inl (by cases hk;simp))) (fun i hi=>.inl (by have:=List.mem_singleton.1 hi;subst this;exact List.mem_cons_self)),rfl,_,ps++[(NN,QQ)],by simp,hput.1,?_,fun p hp=>?_,fun g hg=>?_⟩
 rotate_left
 ·rcases List.mem_append.1 hp with hp | hp
  ·exact (hFB p hp).up (fun b hb=>.inl hb)
  ·have:=List.mem_singleton.1 hp
   subst this
   exact hQ8.up (fun b hb=>.inr (by omega))
 ·have h1:gg=g:=sI hg
  rcases hgg with h | h
  ·exact .inl (hVB g (by rw [h,h1]))
  ·exact .inr (by have:=hBw8.size;omega)
 have hfl:(ps++[(NN,QQ)]).flatMap bU=ps.flatMap bU++au NN QQ:=by rw [List.flatMap_append];simp [bU]
 refine ⟨?_,fun p hp=>?_,fun p hp=>?_,fun p hp=>?_⟩
 ·rw [hfl,List.length_append]
  exact aI hown hput.2 (fun g hg e=>by have h1:gg=g:=sI hg;have h2:=sI e;omega)
 ·rcases List.mem_append.1 hp with hp | hp
  ·have h1:=(hR8.at_ p hp).keptL hgrow (hR8.far p hp) (fun b hb=>hb.2.2)
   exact h1.keptL hput.2 (hFB p hp) (fun b hb e=>by have:=sI e;omega)
  ·have:=List.mem_singleton.1 hp
   subst this
   have h1:=hN8.keptL hgrow hQ8 (fun b hb e=>by have:=hVB b e;omega)
   exact h1.keptL hput.2 hQ8 (fun b hb e=>by have:=sI e;omega)
 ·have hz:=hput.2.size
  have hz9:=hgrow.size
  rcases List.mem_append.1 hp with hp | hp
  ·refine (hR8.far p hp).up (fun b hb=>⟨hb.1,by omega,fun e=>?_⟩)
   have h1:gg=b:=sI e
   rcases hgg with h | h
   ·exact hb.2.2 (by rw [h,h1])
   ·omega
  ·have:=List.mem_singleton.1 hp
   subst this
   refine hQ8.up (fun b hb=>⟨by omega,by omega,fun e=>?_⟩)
   have h1:gg=b:=sI e
   rcases hgg with h | h
   ·have:=hVB gg h;omega
   ·omega
 ·rcases List.mem_append.1 hp with hp | hp
  ·exact hR8.cap p hp
  ·have:=List.mem_singleton.1 hp
   subst this
   exact hcap
theorem vm {rd:R1} {pf:P1} {ckF:List Co->ByteArray->Except Nat Int} (ps:List (aJ × bM)) (v:Value) (line:ByteArray) (bl bn B:Nat) (w0 w:World)
 (hE:lz w rd pf ckF) (hln:line.size<=3000) (hl:w.cell? ⟨bl,0,none⟩=some (.string line)) (hn:aD w bn 22 1 [v]) (hR:NR w0 B v ps) (h0:Below w0.heap.size w0 w) (hbn:w0.heap.size<=bn) (hB:B<=w0.heap.size) (hG:Gd (ps.map (·.1))) :
 Calls Tryz.prog 30 #[.pointer (some ⟨bl,0,none⟩),.pointer (some ⟨bn,0,none⟩)] w (Ec w bn B v (dM rd pf ckF (ps.map (·.1)) line)):=by
 obtain ⟨O,HX⟩:∃ O,Hid (dM rd pf ckF (ps.map (·.1)) line=O):=⟨_,rfl⟩
 rw [HX.out]
 unfold dM at HX
 have hmf:=ff
 have HCUT:=jg (ux line w (by omega))
 have hlb:=bL hl
 have cn0:=hn.c 0 rfl
 have hbl:=hn.lt
 have HE:=jg hE
 have HN:=jg hn
 have HR:=jg (hR.later h0)
 have HFB:Hid (∀ p∈ps,kf (fun b=>b<bn) p.1 p.2):=fun p hp=>(hR.far p hp).up (fun b hb=>by have:=hb.2.1;omega)
 have HVB:Hid (∀ g,v.ownBlock=some g->g<bn):=fun g hg=>by have:=(World.ownsRow.lt hR.own g hg).2;omega
 have HGD:=jg hG
 have hBw:B<=w.heap.size:=by have:=h0.size;omega
 go_in
 go_wp2_with fail
 refine HCUT.out.mono ?_
 rintro e w1 ⟨hb1,hq⟩
 have hl1:=af hb1 hl
 have cn1:=af hb1 cn0
 have HB1:=jg hb1
 have HE1:=jg (HE.out.later hb1)
 have HN1:=jg (HN.out.later hb1)
 have HR1:=jg (HR.out.later hb1)
 have hw1:=hb1.size
 cases ht:tok line.size 0 line.data.toList with
 | error p=>
  rw [ht] at hq HX
  simp only at hq HX
  subst hq
  go_wp2_with fail
  refine (bf 1 _).mono ?_
  rintro e w3 ⟨rfl,h3⟩
  have h3':=h3.symm
  subst h3'
  unfold cm
  go_wp2_with fail
  rw [<-HX.out]
  exact oO HB1.out
 | ok l=>
  rw [ht] at hq HX
  simp only at hq HX
  obtain ⟨x,rfl,hO⟩:=hq
  have hlen:line.data.toList.length=line.size:=by simp
  obtain ⟨hc1,hc2⟩:=fS _ _ _ _ ht
  rw [hlen] at hc1 hc2
  have hasc:=(py _ _ _ _ ht).2
  rw [Nat.zero_add,hlen] at hasc
  rcases hO.2 with ⟨-,h0⟩ | ⟨b,cap,cur,rfl,hb,hcur,hle,hmx,-⟩
  ·simp at h0
  have hbl1:=(Array.getElem?_eq_some_iff.1 hcur).1
  cases l with
  | nil=>
   simp only at HX
   go_wp2_with fail
   go_end0
   rw [<-HX.out]
   exact ⟨i6 HB1.out,rfl,v,ps,rfl,HN1.out,HR1.out,fun p hp=>(HFB.out p hp).up (fun b hb=>.inl hb),fun g hg=>.inl (HVB.out g hg)⟩
  | cons t ts=>
   simp only at HX
   have HTK:=jg (tS hln ht)
   have HSH:=jg (fun n ts' (h:dx rd pf (ps.map (·.1)) line (t::ts)=.ok (n,ts'))=>(qJ line hln HTK.out (by simp at hc1 ⊢;omega) n ts' h).1)
   obtain ⟨aN,cN,rfl,hNL⟩:=HR1.out.nl
   obtain ⟨c,HC⟩:∃ c:LC,Hid (c=⟨w1,w1.heap.size,line,aN,ps.length,cN⟩):=⟨_,rfl⟩
   have hP:PJ c (w1.alloc (.cells #[.string line,.slice (some ⟨b,0,none⟩) ((t::ts).length+1) cap,.slice aN ps.length cN] 84)) (t::ts):=by
    rw [HC.out]
    refine ⟨ae _ _,b,0,cap,aD.new w1 84 3 #[.string line,.slice (some ⟨b,0,none⟩) ((t::ts).length+1) cap,.slice aN ps.length cN] rfl,hbl1,by simp at hle ⊢;omega,hmx,hO.at,fun t' h=>⟨(hc2 t' h).1,(hc2 t' h).2.1,by have:=(hc2 t' h).2.2;omega⟩,by simp at hc1 ⊢;omega,rfl,hasc⟩
   have HP:=jg hP
   have hcg:c.g=w1.heap.size:=by rw [HC.out]
   have hcl:c.line=line:=by rw [HC.out]
   have HNL:=jg hNL
   have hgl:=HGD.out.len
   rw [List.length_map] at hgl
   have HND:=jg (xY c (lz.env c (by rw [HC.out];exact HE1.out)) (by rw [hcl];exact hln) (ps.map (·.1)) (by rw [HC.out];simp) (by simp;omega) (by rw [HC.out];exact hNL.nods) (fun n hn=>by have:=(HGD.out.cx n hn).1;omega) (t::ts) _ HP.out)
   rw [hcl] at HND
   have HWA:=jg (fun ts' W (h:PJ c W ts')=>bO c ⟨#[]⟩ ts' W h)
   have hl1t:((t::ts).length:Int)+1≠1:=by simp;omega
   have hl1u:(((t::ts).length+1:Nat):Int)≠1:=by simp;omega
   rw [hcg] at HND HWA
   generalize hTL:(t::ts)=TL at *
   have hTl:=hl1u
   have hw2:(w1.alloc (.cells #[.string line,.slice (some ⟨b,0,none⟩) (TL.length+1) cap,.slice aN ps.length cN] 84)).heap.size=w1.heap.size+1:=by simp
   have HB2:Hid (Below w1.heap.size w1 (w1.alloc (.cells #[.string line,.slice (some ⟨b,0,none⟩) (TL.length+1) cap,.slice aN ps.length cN] 84))):=ae _ _
   have hlb1:=bL hl1
   have hbn1:=bL cn1
   have hTn:=hl1t
   go_wp2_with fail
   refine HND.out.mono ?_
   intro e w3 hr
   obtain ⟨hg3,hr⟩:=hr
   have HB3:=jg (HB2.out.grown hg3 HB2.out.size (fun k hk=>by have:=sI hk;omega))
   have hw3:=hg3.size
   rcases ho:dx rd pf (ps.map (·.1)) line TL with n | ⟨nd,ts3⟩
   ·rw [ho] at hr HX
    simp only [bnd] at hr HX
    subst hr
    unfold cm
    go_wp2_with fail
    rw [<-HX.out]
    exact oO (HB1.out.trans (HB3.out.mono HB1.out.size))
   rw [ho] at hr HX
   simp only [bnd] at HX
   obtain ⟨q,rfl,hn3,hp3,hf3,hcp3⟩:=hr
   have HCP3:Hid (nU nd q):=hcp3
   have HSHN:=jg (HSH.out nd ts3 ho)
   have HN3:=jg hn3
   have HP3:=jg hp3
   have HF3:=jg (uD hn3 (hf3.up (R':=fun b=>w1.heap.size<b) (fun b hb=>by omega)))
   have HO3:Hid (aD (w3.alloc (.cells #[.string ⟨#[]⟩,.int .i64 0,.slice none 0 0,.slice none 0 0,.slice none 0 0,.slice none 0 0,.slice none 0 0,.slice none 0 0,.int .i64 0,.int .i64 0,.int .i64 0,.slice none 0 0,.bool false,.slice none 0 0,.slice none 0 0,.int .i64 0] 61)) w3.heap.size 61 16 _):=aD.new w3 61 16 #[.string ⟨#[]⟩,.int .i64 0,.slice none 0 0,.slice none 0 0,.slice none 0 0,.slice none 0 0,.slice none 0 0,.slice none 0 0,.int .i64 0,.int .i64 0,.int .i64 0,.slice none 0 0,.bool false,.slice none 0 0,.slice none 0 0,.int .i64 0] rfl
   have HR2:=jg HO3.out.row
   have HI3:Hid ((Tryz.prog.info? 61).map (·.size)=some (au nd q).toArray.size):=dE
   have ho1:Hid ((au nd q).toArray.all (·.oneCell')=true):=by unfold Hid au;simp [Value.oneCell']
   have HSZ:Hid ((#[.string ⟨#[]⟩,.int .i64 0,.slice none 0 0,.slice none 0 0,.slice none 0 0,.slice none 0 0,.slice none 0 0,.slice none 0 0,.int .i64 0,.int .i64 0,.int .i64 0,.slice none 0 0,.bool false,.slice none 0 0,.slice none 0 0,.int .i64 0]:Array Value).size=(au nd q).toArray.size):=rfl
   have cn3:=af HB3.out cn1
   generalize hCC:(au nd q).toArray=CC at *
   have HCCe:=jg hCC.symm
   go_upto_region 6 with (first
    | (refine wpList_store_row rfl 61 _ _ rfl w3.heap.size CC rfl rfl 61 #[.string ⟨#[]⟩,.int .i64 0,.slice none 0 0,.slice none 0 0,.slice none 0 0,.slice none 0 0,.slice none 0 0,.slice none 0 0,.int .i64 0,.int .i64 0,.int .i64 0,.slice none 0 0,.bool false,.slice none 0 0,.slice none 0 0,.int .i64 0] HR2.out HI3.out HSZ.out ho1.out ?_))
   have hG4:=iq (w3.alloc (.cells #[.string ⟨#[]⟩,.int .i64 0,.slice none 0 0,.slice none 0 0,.slice none 0 0,.slice none 0 0,.slice none 0 0,.slice none 0 0,.int .i64 0,.int .i64 0,.int .i64 0,.slice none 0 0,.bool false,.slice none 0 0,.slice none 0 0,.int .i64 0] 61)) w3.heap.size CC
   have HB4:=jg ((ae w3 _).grown hG4 (by simp) (fun k hk=>by have:=sI hk;omega))
   have HO4:Hid (aD ((w3.alloc (.cells #[.string ⟨#[]⟩,.int .i64 0,.slice none 0 0,.slice none 0 0,.slice none 0 0,.slice none 0 0,.slice none 0 0,.slice none 0 0,.int .i64 0,.int .i64 0,.int .i64 0,.slice none 0 0,.bool false,.slice none 0 0,.slice none 0 0,.int .i64 0] 61)).setRow w3.heap.size CC) w3.heap.size 61 16 (au nd q)):=by
    have:=pt (n:=16) (setRow_heap _ _ _ CC _ _ HR2.out) (by rw [HCCe.out];rfl)
    rw [show CC.toList=au nd q by rw [HCCe.out]] at this
    exact this
   generalize hW4:(w3.alloc (.cells #[.string ⟨#[]⟩,.int .i64 0,.slice none 0 0,.slice none 0 0,.slice none 0 0,.slice none 0 0,.slice none 0 0,.slice none 0 0,.int .i64 0,.int .i64 0,.int .i64 0,.slice none 0 0,.bool false,.slice none 0 0,.slice none 0 0,.int .i64 0] 61)).setRow w3.heap.size CC=w4 at *
   have HP4:=jg (HP3.out.later HB4.out)
   have HW4:=jg (HWA.out ts3 w4 HP4.out)
   have cn4:=af HB4.out cn3
   have hl34:=HO4.out.lt
   have hbn4:=bL cn4
   go_wp2_with fail
   refine HW4.out.mono ?_
   intro e w5 hr
   rcases hr.el with ⟨k,ho,rfl,hg5⟩ | ⟨x5,ts5,ho,rfl,hg5,hp5⟩
   ·rw [hcl] at ho
    rw [ho] at HX
    simp only at HX
    have HB5:=jg ((HB3.out.trans (HB4.out.mono HB3.out.size)).grown hg5 (by have:=HB3.out.size;omega) (fun k hk=>by have:=sI hk;omega))
    unfold cm
    go_wp2_with fail
    rw [<-HX.out]
    exact oO (HB1.out.trans (HB5.out.mono HB1.out.size))
   rw [hcl] at ho
   rw [ho] at HX
   simp only at HX
   have hw34:=HB3.out.size
   have HB5:=jg ((HB3.out.trans (HB4.out.mono HB3.out.size)).grown hg5 (by omega) (fun k hk=>by have:=sI hk;omega))
   have HO5:=jg (HO4.out.grown hg5 (nS (by omega)))
   have HN5:=jg ((HN3.out.later HB4.out).keptL hg5 HF3.out (fun b hb e=>by have:=sI e;omega))
   have HNb5:=jg (HN1.out.later HB5.out)
   have HRr5:=jg (HR1.out.later HB5.out)
   have HSET:Hid (∀ W,Below w5.heap.size w5 W->Calls Tryz.prog 35 #[.agg #[.string nd.nm,.int .i64 nd.op.k,.slice q.p.ea nd.op.ex.length q.p.ec,.slice q.p.na nd.op.nm.length q.p.nc,.slice q.p.ca nd.op.c.length q.p.cc,.slice q.p.ra nd.op.r.length q.p.rc,.slice q.p.ka nd.op.ks.length q.p.kc,.slice q.p.oa nd.op.os.length q.p.oc,.int .i64 nd.op.wk,.int .i64 nd.op.ws,.int .i64 nd.op.wt,.slice q.p.ga nd.op.ag.length q.p.gc,.bool nd.op.ou,.slice q.ia nd.ins.length q.ic,.slice q.ka nd.cols.length q.kc,.int .i64 nd.bd],.slice aN ps.length cN] W (EI W q (ix (ckF nd.op.c) (ps.map (·.1)) nd))):=fun W hW=>by
    have hsz:=yi HE1.out.fg HGD.out.cx HSHN.out
    have hnl:=HNL.out.later (HB5.out.trans (hW.mono HB5.out.size))
    have:=ro (ckF nd.op.c) ps aN cN nd q W hnl (by omega) (HN5.out.later hW) hsz.sz ((HE1.out.fk nd.op.c hsz.c hsz.cn).later (HB5.out.trans (hW.mono HB5.out.size))) hsz.c (fun hc m hm=>?_) (fun i hi x hx=>?_)
    ·exact this
    ·obtain ⟨cs,hc⟩:=hc
     rcases List.mem_append.1 hm with hm | hm
     ·obtain ⟨p,hp,rfl⟩:=List.mem_map.1 hm
      exact HGD.out.bd p.1 (List.mem_map_of_mem hp)
     ·have:=List.mem_singleton.1 hm
      subst this
      exact uu HE1.out.fg HGD.out.cx HSHN.out hc
    ·have:=HGD.out.wti i x
     rw [List.map_map] at this
     exact this hx
   obtain ⟨i0,hi0,hz0,hz1,hz2⟩:=info_parts tw
   have hl5:=HO5.out.lt
   have hbn5:=HNb5.out.lt
   have hbn3:bn<w3.heap.size:=by omega
   have hB5:B<=w5.heap.size:=by omega
   go_upto_region 7 with fail
   refine Go.wp_region_held (S:=fun W=>aD W w3.heap.size 61 16 (au nd q)) (by kernel_rfl) ?_
   change Go.wpAnyH _ _ _ _ _ _ _ _ (World.drew _)
   refine tk 1 (.agg #[.string nd.nm,.int .i64 nd.op.k,.slice q.p.ea nd.op.ex.length q.p.ec,.slice q.p.na nd.op.nm.length q.p.nc,.slice q.p.ca nd.op.c.length q.p.cc,.slice q.p.ra nd.op.r.length q.p.rc,.slice q.p.ka nd.op.ks.length q.p.kc,.slice q.p.oa nd.op.os.length q.p.oc,.int .i64 nd.op.wk,.int .i64 nd.op.ws,.int .i64 nd.op.wt,.slice q.p.ga nd.op.ag.length q.p.gc,.bool nd.op.ou,.slice q.ia nd.ins.length q.ic,.slice q.ka nd.cols.length q.kc,.int .i64 nd.bd]) rfl (by kernel_rfl) (by rfl) (fun _ _ _ h=>h) (HO5.out.later aA) (fun W hW=>?_) ?_
   ·have l9:=hW.lt
    have e0:=hW.c 0 rfl
    have e1:=hW.c 1 rfl
    have e2:=hW.c 2 rfl
    have e3:=hW.c 3 rfl
    have e4:=hW.c 4 rfl
    have e5:=hW.c 5 rfl
    have e6:=hW.c 6 rfl
    have e7:=hW.c 7 rfl
    have e8:=hW.c 8 rfl
    have e9:=hW.c 9 rfl
    have e10:=hW.c 10 rfl
    have e11:=hW.c 11 rfl
    have e12:=hW.c 12 rfl
    have e13:=hW.c 13 rfl
    have e14:=hW.c 14 rfl
    have e15:=hW.c 15 rfl
    go_simp
   have HB6:Hid (Below w5.heap.size w5 w5.drew):=aA
   have cb6:=(HNb5.out.later aA).c 0 rfl
   have hbd6:=(HNb5.out.later aA).lt
   refine Go.wpAnyH_all (rs:=[0,2]) (by kernel_rfl) (by simp) (fun j hj=>?_)
   simp only [List.mem_cons,List.not_mem_nil,or_false] at hj
   rcases hj with rfl | rfl
   case' inl=>
    refine wpOp_step rfl (fun K hK=>?_)
    go_simp
    refine hK _ _ ⟨HO5.out.later HB6.out,?_⟩
    refine bH 2 (by kernel_rfl) rfl (fun K hK=>?_)
    go_simp
    refine hK _ _ ⟨HO5.out.later HB6.out,?_⟩
    refine bH 3 (by kernel_rfl) rfl (fun K hK=>?_)
   case' inr=>
    refine wpOp_step rfl (fun K hK=>?_)
    go_simp
    refine hK _ _ ⟨HO5.out.later HB6.out,?_⟩
    refine Go.wpAnyH_all (rs:=[0,3]) (by kernel_rfl) (by simp) (fun j hj=>?_)
    simp only [List.mem_cons,List.not_mem_nil,or_false] at hj
    rcases hj with rfl | rfl
    case' inl=>
     refine wpOp_step rfl (fun K hK=>?_)
     go_simp
     refine hK _ _ ⟨HO5.out.later HB6.out,?_⟩
     refine bH 3 (by kernel_rfl) rfl (fun K hK=>?_)
    case' inr=>refine wpOp_step rfl (fun K hK=>?_)
   all_goals
    go_simp
    refine (HSET.out _ HB6.out).mono ?_
    rintro e w7 ⟨hb7,hr7⟩
    have HB7:=jg (HB6.out.trans (hb7.mono HB6.out.size))
    have hw57:=HB6.out.size
    rcases hs:ix (ckF nd.op.c) (ps.map (·.1)) nd with k7 | NN
    ·rw [hs] at hr7 HX
     simp only at hr7 HX
     subst hr7
     show Ec w bn B _ O (cm k7) w7
     rw [<-HX.out]
     exact oO ((HB1.out.trans (HB5.out.mono HB1.out.size)).trans (HB7.out.mono (HB1.out.trans (HB5.out.mono HB1.out.size)).size))
    rw [hs] at hr7 HX
    simp only at HX
    obtain ⟨ka,kc,rfl,hn7,hf7⟩:=hr7
    have HY:=jg HX.out
    have HN7:=jg hn7
    have HF7:=jg (hf7.mono HB6.out.size)
    have HQ7:Hid (kf (fun b=>w1.heap.size<b/\b<w7.heap.size) NN { q with ka:=ka,kc:=kc }):=by
     obtain ⟨_,cs,_,hnn,_⟩:=fd hs
     have hb:=HF3.out
     have hlt:=uD (R:=fun _=>True) hn7 ⟨fun _ _ _=>trivial,fun _ _ _=>trivial,fun _ _ _=>trivial,fun _ _ _=>trivial,fun _ _ _=>trivial,fun _ _ _=>trivial,fun _ _ _=>trivial,fun _ _ _=>trivial,fun _ _ _=>trivial⟩
     subst hnn
     exact ⟨fun x b o e=>⟨(hb.e x b o e).1,(hlt.e x b o e).2⟩,fun x b o e=>⟨(hb.n x b o e).1,(hlt.n x b o e).2⟩,fun x b o e=>⟨(hb.c x b o e).1,(hlt.c x b o e).2⟩,fun x b o e=>⟨(hb.r x b o e).1,(hlt.r x b o e).2⟩,fun x b o e=>⟨(hb.k x b o e).1,(hlt.k x b o e).2⟩,fun x b o e=>⟨(hb.o x b o e).1,(hlt.o x b o e).2⟩,fun x b o e=>⟨(hb.g x b o e).1,(hlt.g x b o e).2⟩,fun x b o e=>⟨(hb.i x b o e).1,(hlt.i x b o e).2⟩,fun x b o e=>⟨by have:=HF7.out b o e;omega,(hlt.l x b o e).2⟩⟩
    have HCP7:Hid (nU NN { q with ka:=ka,kc:=kc }):=by
     obtain ⟨_,cs,_,hnn,_⟩:=fd hs
     subst hnn
     exact HCP3.out
    have cb6:=af HB7.out (show w5.cell? ⟨bn,0,none⟩=some (.slice aN ps.length cN) by rw [HNb5.out.cell 0 (by decide)];rfl)
    have hbd7:=bL cb6
    generalize hQQ:({ q with ka:=ka,kc:=kc }:bM)=QQ at *
    rw [ym NN QQ]
    have HB6:=HB7
    refine hK _ _ ⟨HO5.out.later HB7.out,?_⟩
   focus
    refine Go.wpAnyH_all (rs:=[0,4]) (by kernel_rfl) (by simp) (fun j hj=>?_)
    simp only [List.mem_cons,List.not_mem_nil,or_false] at hj
    rcases hj with rfl | rfl
    case' inl=>
     refine wpOp_step rfl (fun K hK=>?_)
     go_simp
     refine hK _ _ ⟨HO5.out.later HB6.out,?_⟩
     refine bH 4 (by kernel_rfl) rfl (fun K hK=>?_)
    case' inr=>refine wpOp_step rfl (fun K hK=>?_)
   rotate_left 2
   focus refine bH 4 (by kernel_rfl) rfl (fun K hK=>?_)
   rotate_left 1
   focus refine bH 4 (by kernel_rfl) rfl (fun K hK=>?_)
   rotate_left 1
   all_goals
    go_simp
    have HSRC:Hid (aD (w7.alloc (.cells #[.string NN.nm,.int .i64 NN.op.k,.slice QQ.p.ea NN.op.ex.length QQ.p.ec,.slice QQ.p.na NN.op.nm.length QQ.p.nc,.slice QQ.p.ca NN.op.c.length QQ.p.cc,.slice QQ.p.ra NN.op.r.length QQ.p.rc,.slice QQ.p.ka NN.op.ks.length QQ.p.kc,.slice QQ.p.oa NN.op.os.length QQ.p.oc,.int .i64 NN.op.wk,.int .i64 NN.op.ws,.int .i64 NN.op.wt,.slice QQ.p.ga NN.op.ag.length QQ.p.gc,.bool NN.op.ou,.slice QQ.ia NN.ins.length QQ.ic,.slice QQ.ka NN.cols.length QQ.kc,.int .i64 NN.bd] 61)) w7.heap.size 61 16 (au NN QQ)):=aD.new w7 61 16 #[.string NN.nm,.int .i64 NN.op.k,.slice QQ.p.ea NN.op.ex.length QQ.p.ec,.slice QQ.p.na NN.op.nm.length QQ.p.nc,.slice QQ.p.ca NN.op.c.length QQ.p.cc,.slice QQ.p.ra NN.op.r.length QQ.p.rc,.slice QQ.p.ka NN.op.ks.length QQ.p.kc,.slice QQ.p.oa NN.op.os.length QQ.p.oc,.int .i64 NN.op.wk,.int .i64 NN.op.ws,.int .i64 NN.op.wt,.slice QQ.p.ga NN.op.ag.length QQ.p.gc,.bool NN.op.ou,.slice QQ.ia NN.ins.length QQ.ic,.slice QQ.ka NN.cols.length QQ.kc,.int .i64 NN.bd] rfl
    have HB8:Hid (Below w5.heap.size w5 (w7.alloc (.cells #[.string NN.nm,.int .i64 NN.op.k,.slice QQ.p.ea NN.op.ex.length QQ.p.ec,.slice QQ.p.na NN.op.nm.length QQ.p.nc,.slice QQ.p.ca NN.op.c.length QQ.p.cc,.slice QQ.p.ra NN.op.r.length QQ.p.rc,.slice QQ.p.ka NN.op.ks.length QQ.p.kc,.slice QQ.p.oa NN.op.os.length QQ.p.oc,.int .i64 NN.op.wk,.int .i64 NN.op.ws,.int .i64 NN.op.wt,.slice QQ.p.ga NN.op.ag.length QQ.p.gc,.bool NN.op.ou,.slice QQ.ia NN.ins.length QQ.ic,.slice QQ.ka NN.cols.length QQ.kc,.int .i64 NN.bd] 61))):=HB7.out.trans ((ae w7 _).mono HB7.out.size)
    have HN8:Hid (bw (w7.alloc (.cells #[.string NN.nm,.int .i64 NN.op.k,.slice QQ.p.ea NN.op.ex.length QQ.p.ec,.slice QQ.p.na NN.op.nm.length QQ.p.nc,.slice QQ.p.ca NN.op.c.length QQ.p.cc,.slice QQ.p.ra NN.op.r.length QQ.p.rc,.slice QQ.p.ka NN.op.ks.length QQ.p.kc,.slice QQ.p.oa NN.op.os.length QQ.p.oc,.int .i64 NN.op.wk,.int .i64 NN.op.ws,.int .i64 NN.op.wt,.slice QQ.p.ga NN.op.ag.length QQ.p.gc,.bool NN.op.ou,.slice QQ.ia NN.ins.length QQ.ic,.slice QQ.ka NN.cols.length QQ.kc,.int .i64 NN.bd] 61)) NN QQ):=HN7.out.later (ae w7 _)
    have HQ8:Hid (kf (fun b=>w1.heap.size<b/\b<(w7.alloc (.cells #[.string NN.nm,.int .i64 NN.op.k,.slice QQ.p.ea NN.op.ex.length QQ.p.ec,.slice QQ.p.na NN.op.nm.length QQ.p.nc,.slice QQ.p.ca NN.op.c.length QQ.p.cc,.slice QQ.p.ra NN.op.r.length QQ.p.rc,.slice QQ.p.ka NN.op.ks.length QQ.p.kc,.slice QQ.p.oa NN.op.os.length QQ.p.oc,.int .i64 NN.op.wk,.int .i64 NN.op.ws,.int .i64 NN.op.wt,.slice QQ.p.ga NN.op.ag.length QQ.p.gc,.bool NN.op.ou,.slice QQ.ia NN.ins.length QQ.ic,.slice QQ.ka NN.cols.length QQ.kc,.int .i64 NN.bd] 61)).heap.size) NN QQ):=HQ7.out.up (fun b hb=>⟨hb.1,by simp;omega⟩)
    have cb6:=af HB8.out (show w5.cell? ⟨bn,0,none⟩=some (.slice aN ps.length cN) by rw [HNb5.out.cell 0 (by decide)];rfl)
    have HB6:=HB8
    refine hK _ _ ⟨HO5.out.later HB8.out,?_⟩
    generalize hW8:w7.alloc (.cells #[.string NN.nm,.int .i64 NN.op.k,.slice QQ.p.ea NN.op.ex.length QQ.p.ec,.slice QQ.p.na NN.op.nm.length QQ.p.nc,.slice QQ.p.ca NN.op.c.length QQ.p.cc,.slice QQ.p.ra NN.op.r.length QQ.p.rc,.slice QQ.p.ka NN.op.ks.length QQ.p.kc,.slice QQ.p.oa NN.op.os.length QQ.p.oc,.int .i64 NN.op.wk,.int .i64 NN.op.ws,.int .i64 NN.op.wt,.slice QQ.p.ga NN.op.ag.length QQ.p.gc,.bool NN.op.ou,.slice QQ.ia NN.ins.length QQ.ic,.slice QQ.ka NN.cols.length QQ.kc,.int .i64 NN.bd] 61)=w8 at *
    have hl8:=HSRC.out.lt
    have hbd8:=bL cb6
    have HR8:=jg (HRr5.out.later HB8.out)
    have HFIN:=jg (fun gg cap9 w9 h1 h2 h3 h4=>uW ps aN cN NN QQ B bn w1.heap.size w w8 ((HB1.out.trans (HB5.out.mono HB1.out.size)).trans (HB8.out.mono (HB1.out.trans (HB5.out.mono HB1.out.size)).size)) (HNb5.out.later HB8.out) HR8.out HFB.out HVB.out HN8.out HQ8.out hbn1 (by omega) (by omega) HCP7.out gg cap9 w9 h1 h2 h3 h4)
   focus
    refine bH 0 (by kernel_rfl) rfl (fun K hK=>?_)
    go_simp
    refine hK _ _ ⟨HO5.out.later HB6.out,?_⟩
    refine bH 5 (by kernel_rfl) rfl (fun K hK=>?_)
   rotate_left 1
   focus refine bH 5 (by kernel_rfl) rfl (fun K hK=>?_)
   rotate_left 1
   focus refine bH 5 (by kernel_rfl) rfl (fun K hK=>?_)
   rotate_left 1
   focus refine bH 5 (by kernel_rfl) rfl (fun K hK=>?_)
   all_goals
    refine step_append_lies _ (by rfl) _ _ _ (by rfl) B 61 i0 _ 16 280 Tryz.underlying22 hi0 hz0 hz1 hz2 rfl (by decide) (.slice aN ps.length cN) ps.length (ps.flatMap bU) (by rfl) HR8.out.own ⟨w7.heap.size,0,none⟩ 1 1 (au NN QQ) (by rfl) (by rfl) (ya HSRC.out) (gI (NN,QQ)) (by decide) (by unfold maxLen;omega) (by omega) (Nat.le_trans hB5 HB8.out.size) _ rfl ?_
    intro gg cap9 w9 hown hgrow hgg hlt
    have hvb:some bn≠(Value.slice aN ps.length cN).ownBlock:=fun e=>by have:=HVB.out bn e.symm;omega
    have HNb9:=jg ((HNb5.out.later HB8.out).grown hgrow hvb)
    have HO9:=jg ((HO5.out.later HB8.out).grown hgrow (fun e=>by have:=HVB.out _ e.symm;omega))
    have cb9:=HNb9.out.c 0 rfl
    have fb9:=HNb9.out.soft 0
    have hb9:=HNb9.out.lt
    refine hK _ _ ⟨HO9.out,?_⟩
    refine bH 6 (by kernel_rfl) rfl (fun K hK=>?_)
    go_simp
    refine hK _ _ ⟨HO9.out.grown (HNb9.out.put 0 _).2 (nS (by omega)),?_⟩
    refine Go.wpAnyH_done (by kernel_rfl) ?_ _
    go_wp2_with fail
    go_end0
    rw [<-HY.out]
    exact HFIN.out _ _ _ hown hgrow hgg hlt
end Jp
namespace Jp
open Go.RowKit Oo
theorem qk (b1:Nat) (w:World) :
 CallsD Tryz.prog 73 #[.pointer (some ⟨b1,0,none⟩)] .returning w fun e u' w'=>e=.returned (.tuple #[])/\u'=.returning/\w'=w:=by
 refine callsD_of_wpS Tryz.func73 rfl fun c₀ cs hu=>?_
 apply wpS_seq
 apply wpS_region
 simp [wpOpsS,go_sem,recoverD,hu,Tryz.ntmps73,Exit.thenS,Array.replicate]
 refine wpS_of_wp ?_
 go_wp2
 cases c₀
 simp_all [bodyPostS,results,Tryz.results73,go_sem]
theorem yt (v:Value) (w:World):(Instr.typeAssert (.iface 132 (.agg #[v])) 20 132 false).run Tryz.prog w=.ok (.agg #[v]) w:=by
 simp [Instr.typeAssert,go_sem]
 try rfl
theorem CD (t:TypeId) (p:Value) (w:World):(Instr.field 132 (.agg #[.iface t p]) 0).run Tryz.prog w=.ok (.iface t p) w:=by
 simp [Instr.field,go_sem,part]
 try rfl
theorem sb (b1:Nat) (n:Nat) (w:World) (h1:w.cell? ⟨b1,0,none⟩=some .nilIface) (f1:w.frozen? ⟨b1,0,none⟩=false) (hl1:b1<w.heap.size) :
 CallsD Tryz.prog 73 #[.pointer (some ⟨b1,0,none⟩)] (.panicking [{ v:=rY n,recovered:=false }]) w fun e u' w'=>e=.returned (.tuple #[])/\u'=.panicking [{ v:=rY n,recovered:=true }]/\w'.cell? ⟨b1,0,none⟩=some (.iface 37 (.int .i64 n))/\w.grownBy w' (some b1):=by
 have hta:=yt
 have hfj:=CD
 refine callsD_of_wpS Tryz.func73 rfl fun c₀ cs hu=>?_
 apply wpS_seq
 apply wpS_region
 simp [wpOpsS,go_sem,recoverD,hu,Tryz.ntmps73,Exit.thenS,Array.replicate]
 refine wpS_of_wp ?_
 unfold rY
 go_wp2
 have g1:=aK w ⟨b1,0,none⟩ (.iface 37 (.int .i64 n))
 have c1:(w.setCell ⟨b1,0,none⟩ (.iface 37 (.int .i64 n))).cell? ⟨b1,0,none⟩=some (.iface 37 (.int .i64 n)):=by go_simp
 generalize w.setCell ⟨b1,0,none⟩ (.iface 37 (.int .i64 n))=W at *
 show bodyPostS _ _ _ _ _ _ _ _ _
 cases c₀
 simp_all [bodyPostS,results,Tryz.results73,go_sem]
theorem tB (fn:Nat) (cap:Array Value) (w:World) (Q:World->Prop) (hent:∀ (a:Array Value) (W:World),(callFunc fn a).run Tryz.prog W=.ok (.enter fn a) W)
 (hD:Calls Tryz.prog fn cap (w.alloc (.cells #[.nilIface] 26)) fun e w'=>e=.returned (.tuple #[])/\aD w' w.heap.size 26 1 [.nilIface]/\Q w') :
 Calls Tryz.prog 29 #[.func (.func fn) #[] cap] w fun e w'=>e=.returned .nilIface/\∃ w1,Q w1/\w1.grownBy w' (some w.heap.size):=by
 have hmf:=ff
 have HD:=jg hD
 go_enter_defers Tryz.func29,Tryz.ntmps29
 go_wp2_with fail
 refine HD.out.mono ?_
 rintro e w1 ⟨rfl,hO1,hq⟩
 have c1:=hO1.c 0 rfl
 have f1:=hO1.soft 0
 have hl1:=hO1.lt
 have HQ:=jg hq
 go_wp2_with fail
 have g1:=aK w1 ⟨w.heap.size,0,none⟩ .nilIface
 have d1:(w1.setCell ⟨w.heap.size,0,none⟩ .nilIface).cell? ⟨w.heap.size,0,none⟩=some .nilIface:=by go_simp
 generalize w1.setCell ⟨w.heap.size,0,none⟩ .nilIface=W at *
 refine leaves_cons (f:=73) (args:=#[.pointer (some ⟨w.heap.size,0,none⟩)]) (by simp) (by simp [go_sem]) ?_
 refine (qk w.heap.size W).mono ?_
 rintro e u' w'' ⟨rfl,rfl,rfl⟩
 simp [Leaves,settle,results,Tryz.results29,go_sem,d1]
 exact ⟨w1,HQ.out,g1⟩
theorem rg (fn:Nat) (cap:Array Value) (w:World) (Q:World->Prop) (n:Nat) (hent:∀ (a:Array Value) (W:World),(callFunc fn a).run Tryz.prog W=.ok (.enter fn a) W)
 (hD:Calls Tryz.prog fn cap (w.alloc (.cells #[.nilIface] 26)) fun e w'=>e=.panicked [{ v:=rY n,recovered:=false }]/\aD w' w.heap.size 26 1 [.nilIface]/\Q w') :
 Calls Tryz.prog 29 #[.func (.func fn) #[] cap] w fun e w'=>e=.returned (.iface 37 (.int .i64 n))/\∃ w1,Q w1/\w1.grownBy w' (some w.heap.size):=by
 have hmf:=ff
 have HD:=jg hD
 go_enter_defers Tryz.func29,Tryz.ntmps29
 go_wp2_with fail
 refine HD.out.mono ?_
 rintro e w1 ⟨rfl,hO1,hq⟩
 have c1:=hO1.c 0 rfl
 refine leaves_cons (f:=73) (args:=#[.pointer (some ⟨w.heap.size,0,none⟩)]) (by simp) (by simp [go_sem]) ?_
 refine (sb w.heap.size n w1 c1 (hO1.soft 0) hO1.lt).mono ?_
 rintro e u' w'' ⟨rfl,rfl,d1,hg⟩
 simp [Leaves,settle,results,Tryz.results29,go_sem,d1]
 exact ⟨w1,hq,hg⟩
def ES (w:World) (B:Nat) (v:Value) (o:Except Nat (List aJ)) (e:Ending) (w':World):Prop:=Fr w w' v.ownBlock.toList/\match o with
 | .ok nodes=>∃ v' ps,ps.map (·.1)=nodes/\e=.returned (.tuple #[v',.nilIface])/\NR w' B v' ps
 | .error k=>∃ v',e=.returned (.tuple #[v',.iface 37 (.int .i64 k)])
theorem zD (a:Array Value) (W:World):(callFunc 30 a).run Tryz.prog W=.ok (.enter 30 a) W:=eP Tryz.func30 (by kernel_rfl) (by rfl) a W
theorem NR.grown {w w':World} {B:Nat} {v:Value} {ps:List (aJ × bM)} {r:Nat} (h:NR w B v ps) (hg:w.grownBy w' (some r)) (hv:v.ownBlock≠some r) (hf:∀ p∈ps,kf (fun b=>b≠r) p.1 p.2):NR w' B v ps:=
 ⟨aI h.own hg (fun g hg' e=>hv (by rw [hg',e])),fun p hp=>(h.at_ p hp).keptL hg (hf p hp) (fun b hb e=>hb (sI e).symm),fun p hp=>(h.far p hp).up (fun b hb=>⟨hb.1,by have:=hg.size;omega,hb.2.2⟩),h.cap⟩
theorem oF {rd:R1} {pf:P1} {ckF:List Co->ByteArray->Except Nat Int} (ps:List (aJ × bM)) (v:Value) (line:ByteArray) (B:Nat) (w:World)
 (hE:lz w rd pf ckF) (hln:line.size<=3000) (hR:NR w B v ps) (hB:B<=w.heap.size) (hG:Gd (ps.map (·.1))) :
 Calls Tryz.prog 15 #[v,.string line] w (ES w B v (dM rd pf ckF (ps.map (·.1)) line)):=by
 have hent:=zD
 obtain ⟨aN,cN,rfl,-⟩:=hR.nl
 have hB1:Below w.heap.size w (w.alloc (.cells #[.slice aN ps.length cN] 22)):=ae _ _
 have hB2:Below w.heap.size w ((w.alloc (.cells #[.slice aN ps.length cN] 22)).alloc (.cells #[.string line] 9)):=hB1.trans ((ae _ _).mono hB1.size)
 have hn2:aD ((w.alloc (.cells #[.slice aN ps.length cN] 22)).alloc (.cells #[.string line] 9)) w.heap.size 22 1 [.slice aN ps.length cN]:=(aD.new w 22 1 #[.slice aN ps.length cN] rfl).later (ae _ _)
 have hl2:aD ((w.alloc (.cells #[.slice aN ps.length cN] 22)).alloc (.cells #[.string line] 9)) (w.heap.size+1) 9 1 [.string line]:=by
  have:=aD.new (w.alloc (.cells #[.slice aN ps.length cN] 22)) 9 1 #[.string line] rfl
  rw [show (w.alloc (.cells #[.slice aN ps.length cN] 22)).heap.size=w.heap.size+1 by simp] at this
  exact this
 have hs2:((w.alloc (.cells #[.slice aN ps.length cN] 22)).alloc (.cells #[.string line] 9)).heap.size=w.heap.size+2:=by simp
 have hvs:∀ g,(Value.slice aN ps.length cN).ownBlock=some g->g<w.heap.size:=fun g hg=>(World.ownsRow.lt hR.own g hg).2
 have HRR:=jg hR
 have hCT:∃ o,dM rd pf ckF (ps.map (·.1)) line=o/\Calls Tryz.prog 29 #[.func (.func 30) #[] #[.pointer (some ⟨w.heap.size+1,0,none⟩),.pointer (some ⟨w.heap.size,0,none⟩)]] ((w.alloc (.cells #[.slice aN ps.length cN] 22)).alloc (.cells #[.string line] 9)) (fun e w'=>Fr w w' (Value.slice aN ps.length cN).ownBlock.toList/\match o with
  | .ok nodes=>e=.returned .nilIface/\∃ v' ps,ps.map (·.1)=nodes/\w'.cell? ⟨w.heap.size,0,none⟩=some v'/\NR w' B v' ps
  | .error k=>e=.returned (.iface 37 (.int .i64 k))/\w'.cell? ⟨w.heap.size,0,none⟩=some (.slice aN ps.length cN)):=by
  generalize ((w.alloc (.cells #[.slice aN ps.length cN] 22)).alloc (.cells #[.string line] 9))=W2 at *
  have hb3:Below W2.heap.size W2 (W2.alloc (.cells #[.nilIface] 26)):=ae _ _
  have hL:=vm (rd:=rd) (pf:=pf) (ckF:=ckF) ps (.slice aN ps.length cN) line (w.heap.size+1) w.heap.size B w (W2.alloc (.cells #[.nilIface] 26)) ((hE.later hB2).later hb3) hln (by rw [(hl2.later hb3).cell 0 (by decide)];rfl) (hn2.later hb3) hR (hB2.trans (hb3.mono hB2.size)) lR hB hG
  have hne:=aD.new W2 26 1 #[.nilIface] rfl
  have hkeep:∀ w',Fr (W2.alloc (.cells #[.nilIface] 26)) w' (w.heap.size::(Value.slice aN ps.length cN).ownBlock.toList)->aD w' W2.heap.size 26 1 [.nilIface]:=fun w' hf=>Fr.own hne hf (fun g hg hm=>by
   have h1:W2.heap.size=g:=sI hg
   rcases List.mem_cons.1 hm with h | h
   ·omega
   ·have:=hvs g (by simpa using h);omega)
  have hfr:∀ w' w'',Fr (W2.alloc (.cells #[.nilIface] 26)) w' (w.heap.size::(Value.slice aN ps.length cN).ownBlock.toList)->w'.grownBy w'' (some W2.heap.size)->Fr w w'' (Value.slice aN ps.length cN).ownBlock.toList:=fun w' w'' hf hg=>by
   have h1:Fr w (W2.alloc (.cells #[.nilIface] 26)) (Value.slice aN ps.length cN).ownBlock.toList:=i6 (hB2.trans (hb3.mono hB2.size))
   have h2:=h1.trans hf (fun i hi=>by
    rcases List.mem_cons.1 hi with h | h
    ·exact .inr (by omega)
    ·exact .inl h)
   exact h2.trans (Fr.of (X:=[W2.heap.size]) hg (fun k hk=>.inl (by cases hk;simp))) (fun i hi=>.inr (by have:=List.mem_singleton.1 hi;omega))
  cases ho:dM rd pf ckF (ps.map (·.1)) line with
  | ok nodes=>
   rw [ho] at hL
   refine ⟨.ok nodes,rfl,?_⟩
   refine (tB 30 #[.pointer (some ⟨w.heap.size+1,0,none⟩),.pointer (some ⟨w.heap.size,0,none⟩)] W2 (fun w'=>Fr (W2.alloc (.cells #[.nilIface] 26)) w' (w.heap.size::(Value.slice aN ps.length cN).ownBlock.toList)/\∃ v' ps,ps.map (·.1)=nodes/\aD w' w.heap.size 22 1 [v']/\NR w' B v' ps/\(∀ p∈ps,kf (fun b=>b≠W2.heap.size) p.1 p.2)/\v'.ownBlock≠some W2.heap.size) hent (hL.mono ?_)).mono ?_
   ·rintro e w' ⟨hf,rfl,v',ps',h1,h2,h3,h4,h5⟩
    refine ⟨rfl,hkeep w' hf,hf,v',ps',h1,h2,h3,fun p hp=>(h4 p hp).up (fun b hb=>?_),fun e=>?_⟩
    ·have:(W2.alloc (.cells #[.nilIface] 26)).heap.size=W2.heap.size+1:=by simp
     omega
    ·have:(W2.alloc (.cells #[.nilIface] 26)).heap.size=W2.heap.size+1:=by simp
     have:=h5 _ e
     omega
   ·rintro e w'' ⟨rfl,w',⟨hf,v',ps',h1,h2,h3,h4,h5⟩,hg⟩
    refine ⟨hfr w' w'' hf hg,rfl,v',ps',h1,?_,h3.grown hg h5 h4⟩
    rw [(h2.grown hg (nS (by omega))).cell 0 (by decide)]
    rfl
  | error k=>
   rw [ho] at hL
   refine ⟨.error k,rfl,?_⟩
   refine (rg 30 #[.pointer (some ⟨w.heap.size+1,0,none⟩),.pointer (some ⟨w.heap.size,0,none⟩)] W2 (fun w'=>Fr (W2.alloc (.cells #[.nilIface] 26)) w' (w.heap.size::(Value.slice aN ps.length cN).ownBlock.toList)/\aD w' w.heap.size 22 1 [.slice aN ps.length cN]) k hent (hL.mono ?_)).mono ?_
   ·rintro e w' ⟨hf,rfl,hb⟩
    exact ⟨rfl,hkeep w' hf,hf,(hn2.later hb3).later hb⟩
   ·rintro e w'' ⟨rfl,w',⟨hf,hn⟩,hg⟩
    refine ⟨hfr w' w'' hf hg,rfl,?_⟩
    rw [(hn.grown hg (nS (by omega))).cell 0 (by decide)]
    rfl
 obtain ⟨o,ho,hC⟩:=hCT
 rw [ho]
 have HC:=jg hC
 go_in
 go_wp2_with fail
 refine HC.out.mono ?_
 rintro e w' ⟨hf,hr⟩
 cases o with
 | ok nodes=>
  obtain ⟨rfl,v',ps',h1,h2,h3⟩:=hr
  have HF:=jg hf
  have HN:=jg h3
  have H1:=jg h1
  go_wp2_with fail
  go_ret2
  exact ⟨HF.out,v',ps',H1.out,rfl,HN.out⟩
 | error k=>
  obtain ⟨rfl,h2⟩:=hr
  have HF:=jg hf
  go_wp2_with fail
  go_ret2
  exact ⟨HF.out,_,rfl⟩
end Jp
end Go.Proofs.YtiiliobffnhpmaaGreatDoor
