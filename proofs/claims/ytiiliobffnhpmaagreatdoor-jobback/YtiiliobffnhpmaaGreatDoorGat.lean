import Derived.Test.YtiiliobffnhpmaaGreatDoorGas
set_option linter.all false
set_option maxRecDepth 100000
set_option maxHeartbeats 4000000
namespace Go.Proofs.YtiiliobffnhpmaaGreatDoor.Jp
open Go.RowKit Oo
attribute [local go_sem] an
def tE (c:LC) (B2 B3 nb B:Nat) (nm:ByteArray) (ou:Bool) (cols right:List Co) (ins:List Int) (ca:Option Addr) (cc:Nat) (ra:Option Addr) (rc:Nat) (ia:Option Addr) (ic:Nat) (ts:List Tk) (acc:List Int) (r:Option Nat) (W:World):Prop:=PJ c W ts/\aD W B2 82 1 [.pointer (some ⟨c.g,0,none⟩)]/\aD W B3 103 1 [.pointer (some ⟨nb,0,none⟩)]/\ap W ca cols/\ap W ra right/\aG W ia ins/\B<=W.heap.size/\∃ v,aD W nb 61 16 ((au ⟨nm,{ aB with k:=5,c:=cols,r:=right,ou:=ou },ins,[],0⟩ ⟨⟨none,0,none,0,ca,cc,ra,rc,none,0,none,0,none,0⟩,ia,ic,none,0⟩).set 7 v)/\W.ownsRow B 3 1 v acc.length (acc.flatMap aT)/\r=v.ownBlock
structure JB (c:LC) (B2 B3 nb B:Nat) (ca ra ia:Option Addr):Prop where
 n:c.g<nb/\nb<B2
 b:B2<B3/\B3<B
 a:∀ b off,ca=some ⟨b,off,none⟩->c.g≠b/\b≠nb/\b<B
 r:∀ b off,ra=some ⟨b,off,none⟩->c.g≠b/\b≠nb/\b<B
 i:∀ b off,ia=some ⟨b,off,none⟩->c.g≠b/\b≠nb/\b<B
theorem tE.go {c:LC} {B2 B3 nb B:Nat} {nm:ByteArray} {ou:Bool} {cols right:List Co} {ins:List Int} {ca:Option Addr} {cc:Nat} {ra:Option Addr} {rc:Nat} {ia:Option Addr} {ic:Nat} (hb:JB c B2 B3 nb B ca ra ia) {ts ts':List Tk} {acc:List Int} {r:Option Nat} {W W':World} (h:tE c B2 B3 nb B nm ou cols right ins ca cc ra rc ia ic ts acc r W) (hg:W.grownBy W' (some c.g)) (hp:PJ c W' ts'):tE c B2 B3 nb B nm ou cols right ins ca cc ra rc ia ic ts' acc r W':=by
 obtain ⟨h1,h2,h3,h4,h5,h6,h7,v,h8,h9,h10⟩:=h
 have:=hb.n
 have:=hb.b
 exact ⟨hp,h2.grown hg (nS (by omega)),h3.grown hg (nS (by omega)),ap.kept h4 hg (fun b o e e2=>(hb.a b o e).1 (sI e2)),ap.kept h5 hg (fun b o e e2=>(hb.r b o e).1 (sI e2)),aG.kept h6 hg (fun b o e e2=>(hb.i b o e).1 (sI e2)),Nat.le_trans h7 hg.size,v,h8.grown hg (nS (by omega)),aI h9 hg (fun g hg' e=>by have:=sI e;have:=(World.ownsRow.lt h9 g hg').1;omega),h10⟩
theorem tE.keep {c:LC} {B2 B3 nb B:Nat} {nm:ByteArray} {ou:Bool} {cols right:List Co} {ins:List Int} {ca:Option Addr} {cc:Nat} {ra:Option Addr} {rc:Nat} {ia:Option Addr} {ic:Nat} (hb:JB c B2 B3 nb B ca ra ia) {ts:List Tk} {acc:List Int} {r:Option Nat} {W W':World} {k:Option Nat} (h:tE c B2 B3 nb B nm ou cols right ins ca cc ra rc ia ic ts acc r W) (hg:W.grownBy W' k) (hk:∀ j,k=some j->B<=j/\some j≠r):tE c B2 B3 nb B nm ou cols right ins ca cc ra rc ia ic ts acc r W':=by
 obtain ⟨h1,h2,h3,h4,h5,h6,h7,v,h8,h9,h10⟩:=h
 have:=hb.n
 have:=hb.b
 exact ⟨h1.grown hg (fun j hj=>by have:=(hk j hj).1;omega),h2.grown hg (fun e=>by have:=(hk _ e.symm).1;omega),h3.grown hg (fun e=>by have:=(hk _ e.symm).1;omega),ap.kept h4 hg (fun b o e e2=>by have:=(hk _ e2).1;have:=(hb.a b o e).2.2;omega),ap.kept h5 hg (fun b o e e2=>by have:=(hk _ e2).1;have:=(hb.r b o e).2.2;omega),aG.kept h6 hg (fun b o e e2=>by have:=(hk _ e2).1;have:=(hb.i b o e).2.2;omega),Nat.le_trans h7 hg.size,v,h8.grown hg (fun e=>by have:=(hk _ e.symm).1;omega),aI h9 hg (fun g hg' e=>(hk g e.symm).2 (by rw [h10,hg'])),h10⟩
def SJ (c:LC) (B2 B3 nb B:Nat) (nm:ByteArray) (ou:Bool) (cols right:List Co) (ins:List Int) (ca:Option Addr) (cc:Nat) (ra:Option Addr) (rc:Nat) (ia:Option Addr) (ic:Nat) (ts:List Tk) (acc:List Int) (r:Option Nat) (W:World):Prop:=tE c B2 B3 nb B nm ou cols right ins ca cc ra rc ia ic ts acc r W/\acc.length+ts.length<=3000
theorem SJ.side {c:LC} {B2 B3 nb B:Nat} {nm:ByteArray} {ou:Bool} {cols right:List Co} {ins:List Int} {ca:Option Addr} {cc:Nat} {ra:Option Addr} {rc:Nat} {ia:Option Addr} {ic:Nat} (hb:JB c B2 B3 nb B ca ra ia):sU c [nb] B (SJ c B2 B3 nb B nm ou cols right ins ca cc ra rc ia ic) where
 pj _ _ _ _ h:=h.1.1
 go _ _ _ _ _ _ h hg hp hle:=⟨tE.go hb h.1 hg hp,by have:=h.2;omega⟩
 keep _ _ _ _ _ k h hg hk:=⟨tE.keep hb h.1 hg hk,h.2⟩
 lt _ _ _ _ h:=by
  obtain ⟨⟨h1,h2,h3,h4,h5,h6,h7,v,h8,h9,h10⟩,-⟩:=h
  exact ⟨h7,fun k hk=>(World.ownsRow.lt h9 k (by rw [<-h10,hk])).2⟩
 x0 i hi:=by simp at hi;have:=hb.n;have:=hb.b;omega
def aH:ByteArray:=⟨#[61]⟩
def gx (cols right:List Co) (E:Nat) (ts:List Tk):Except Nat ((Int × Int) × List Tk):=bnd (fK cols E ts) fun x ts=>bnd (aM E [aH] ts) fun _ ts=>bnd (fK right E ts) fun y ts=>.ok ((x,y),ts)
theorem zm {cols right:List Co} {E:Nat} {ts ts':List Tk} {x:Int × Int} (h:gx cols right E ts=.ok (x,ts')):ts'.length<=ts.length:=
 cd h (fun y ts1 h=>iW h) (fun y ts1 ts2 h=>cd h (fun y ts1 h=>by have:=er h (by decide);omega) (fun y ts1 ts2 h=>cd h (fun y ts1 h=>iW h) (fun y ts1 ts2 h=>by cases h;exact lR)))
theorem xC:(Tryz.prog.info? 3).map (fun i=>(i.zero,i.size,i.bytes))=some (some (.int .i64 0),1,8):=by kernel_rfl
theorem rz (w:World) (y:Int):∀ j u,(aT y)[j]?=some u->(w.alloc (.cells #[.int .i64 y] 3)).cell? ((⟨w.heap.size,0,none⟩:Addr).add j)=some u:=fun i u hi=>by
 rw [WideShapes.add_plain]
 have hO:=aD.new w 3 1 #[.int .i64 y] rfl
 have hlt:=(List.getElem?_eq_some_iff.1 hi).1
 rw [Nat.zero_add,hO.cell i hlt]
 exact hi
theorem uO (y:Int):∀ u∈aT y,u.oneCell'=true:=by intro u hu;simp [aT] at hu;subst hu;rfl
theorem uQ (c:LC) (B2 B3 nb B:Nat) (nm:ByteArray) (ou:Bool) (cols right:List Co) (ins:List Int) (ca:Option Addr) (cc:Nat) (ra:Option Addr) (rc:Nat) (ia:Option Addr) (ic:Nat) (hb:JB c B2 B3 nb B ca ra ia) (hcl:cols.length<=4096) (hrl:right.length<=4096) (ts:List Tk) (acc:List Int) (r:Option Nat) (w:World) (h:SJ c B2 B3 nb B nm ou cols right ins ca cc ra rc ia ic ts acc r w) :
 Calls Tryz.prog 187 (#[]++#[.pointer (some ⟨B2,0,none⟩),.pointer (some ⟨B3,0,none⟩)]) w (kE c [nb] (SJ c B2 B3 nb B nm ou cols right ins ca cc ra rc ia ic) (Value.int .i64) acc r w (gx cols right c.line.size ts)):=by
 obtain ⟨i0,hi0,hz0,hz1,hz2⟩:=info_parts xC
 obtain ⟨O,HX⟩:∃ O,Hid (gx cols right c.line.size ts=O):=⟨_,rfl⟩
 rw [HX.out]
 unfold gx at HX
 have hn:=hb.n
 have hbb:=hb.b
 have HBD:=jg h.2
 have hacc:acc.length<=4096:=by have:=h.2;omega
 have HS0:=jg h.1
 obtain ⟨h1,h2,h3,h4,h5,h6,h7,v,h8,h9,h10⟩:=h.1
 have p0:=h2.c 0 rfl
 have p1:=h3.c 0 rfl
 have p4:=h8.c 4 rfl
 have l2:=h2.lt
 have l3:=h3.lt
 have ln:=h8.lt
 have HC:=jg (gV c cols ca cols.length cc ts w.drew rfl hcl (h4.later aA) (fun b off e=>(hb.a b off e).1) (h1.later aA))
 clear h1 h2 h3 h4 h5 h6 h7 h8 h9 h10 h
 simp only [Array.empty_append]
 go_in
 go_wp2_with fail
 go_cut [3] from 4 to 10 (fun s3 wx=>∃ x ts1,fK cols c.line.size ts=.ok (x,ts1)/\s3=.int .i64 x/\w.grownBy wx (some c.g)/\PJ c wx ts1)
 case first=>
  refine eu (K:=6) (C:=fun W=>W=w.drew) 8 (by kernel_rfl) (by kernel_rfl) (by kernel_rfl) (by decide) (by kernel_rfl) (by kernel_rfl) rfl ?_
  simp only [List.take_succ_cons,List.take_zero]
  with_reducible refine wpQuiet_step ?_
  intro K hK
  go_simp
  refine hK _ ?_
  clear hK K
  with_reducible refine wpQuiet_step ?_
  intro K hK
  go_simp
  refine hK _ ?_
  clear hK K
  with_reducible refine wpQuiet_step ?_
  intro K hK
  go_simp
  refine hK _ ?_
  clear hK K
  with_reducible refine wpQuiet_step ?_
  intro K hK
  go_simp
  refine hK _ ?_
  clear hK K
  with_reducible refine wpQuiet_step ?_
  intro K hK
  go_simp
  refine hK _ ?_
  clear hK K
  with_reducible refine wpQuiet_step ?_
  intro K hK
  go_simp
  refine hK _ ?_
  clear hK K
  intro w' hC
  obtain rfl:=hC
  refine wpAny_ready (fuel:=1) (rs:=[6]) (by kernel_rfl) (by simp) ?_
  refine AllReady.cons rfl (fun K hK=>?_) AllReady.nil
  go_simp
  refine HC.out.mono ?_
  intro e w1 hr
  rcases hr.el with ⟨n,ho,rfl,hg⟩ | ⟨x,ts1,ho,rfl,hg,hp⟩
  ·rw [ho] at HX
   simp only [bnd] at HX
   unfold cm
   show kE _ _ _ _ _ _ _ O _ _
   rw [<-HX.out]
   exact ⟨Fr.of (ai (aj aA) hg) (fun k hk=>by cases hk;simp),rfl⟩
  ·have HG:=jg (ai (aj aA) hg)
   have HP:=jg hp
   have HO:=jg ho
   clear hg hp ho hr HC
   refine hK _ _ ?_
   clear hK K
   refine wpAny_ready (fuel:=0) (rs:=[7]) (by kernel_rfl) (by simp) ?_
   refine AllReady.cons rfl (fun K hK=>?_) AllReady.nil
   go_simp
   refine hK _ _ ?_
   clear hK K
   refine ⟨by kernel_rfl,?_⟩
   go_wp2_with fail
   go_meet
   exact ⟨x,ts1,HO.out,rfl,HG.out,HP.out⟩
 case rest=>
  obtain ⟨x,ts1,ho,hv,hg,hp⟩:=hcut
  subst hv
  rw [ho] at HX
  simp only [bnd] at HX
  have HL1:=jg (iW ho)
  have HS1:=jg (tE.go hb HS0.out hg hp)
  have HF1:Hid (Fr w wc (c.g::([nb]++r.toList))):=Fr.of hg (fun k hk=>by cases hk;simp)
  clear ho hg hp HC HS0 p0 p1 p4 l2 l3 ln
  generalize wc=wd at *
  have p0:=HS1.out.2.1.c 0 rfl
  have l2:=HS1.out.2.1.lt
  have HW:=jg (bO c aH ts1 wd HS1.out.1)
  unfold aH at HW
  go_wp2_with fail
  refine HW.out.mono ?_
  intro e w3 hr
  rcases hr.el with ⟨n,ho,rfl,hg⟩ | ⟨x3,ts3,ho,rfl,hg,hp⟩
  ·change aM c.line.size [aH] ts1=_ at ho
   have HGX:=jg (HF1.out.trans (Fr.of (X:=[c.g]) hg (fun k hk=>by cases hk;simp)) (fun i hi=>by simp at hi;simp [hi]))
   clear hg hr HW
   rw [ho] at HX
   simp only [bnd] at HX
   clear ho
   unfold cm
   go_wp2_with fail
   rw [<-HX.out]
   exact ⟨HGX.out,rfl⟩
  ·change aM c.line.size [aH] ts1=_ at ho
   rw [ho] at HX
   simp only [bnd] at HX
   have HL2:=jg (er ho (by decide))
   have HF3:=jg (HF1.out.trans (Fr.of (X:=[c.g]) hg (fun k hk=>by cases hk;simp)) (fun i hi=>by simp at hi;simp [hi]))
   have HS3':=jg (tE.go hb HS1.out hg hp)
   clear hg hr HW hp ho HS1 HF1 p0 l2
   obtain ⟨h1,h2,h3,h4,h5,h6,h7,v,h8,h9,h10⟩:=HS3'.out
   have q0:=h2.c 0 rfl
   have q1:=h3.c 0 rfl
   have q5:=h8.c 5 rfl
   have k7w:=h8.c 7 rfl
   have l2:=h2.lt
   have l3:=h3.lt
   have ln:=h8.lt
   have HCB:=jg (gV c right ra right.length rc ts3 w3.drew rfl hrl (h5.later aA) (fun b off e=>(hb.r b off e).1) (h1.later aA))
   have HS3:Hid ((fun W:World=>W.cell? ⟨B2,0,none⟩=some (.pointer (some ⟨c.g,0,none⟩))/\W.cell? ⟨B3,0,none⟩=some (.pointer (some ⟨nb,0,none⟩))/\W.cell? ⟨nb,5,none⟩=some (.slice ra right.length rc)) w3.drew):=⟨q0,q1,q5⟩
   have HRB:Hid (∀ k,v.ownBlock=some k->B<=k):=fun k hk=>(World.ownsRow.lt h9 k hk).1
   have HBW:=jg h7
   have HR10:=jg h10
   have HRW:Hid (∀ w4,w3.drew.grownBy w4 (some c.g)->w4.ownsRow B 3 1 v acc.length (acc.flatMap aT)):=fun w4 hg=>aI (aO h9 aA) hg (fun g hg' e=>by have:=sI e;have:=(World.ownsRow.lt h9 g hg').1;omega)
   have HNB:Hid (∀ w4,w3.drew.grownBy w4 (some c.g)->aD w4 nb 61 16 ((au ⟨nm,{ aB with k:=5,c:=cols,r:=right,ou:=ou },ins,[],0⟩ ⟨⟨none,0,none,0,ca,cc,ra,rc,none,0,none,0,none,0⟩,ia,ic,none,0⟩).set 7 v)/\w4.cell? ⟨nb,7,none⟩=some v):=fun w4 hg=>by
    have o:=(h8.later aA).grown hg (nS (by omega))
    exact ⟨o,by rw [o.cell 7 (by decide)];rfl⟩
   have HNC:Hid (∀ w4 wz w5,w3.drew.grownBy w4 (some c.g)->Below w4.heap.size w4 wz->wz.grownBy w5 v.ownBlock->aD w5 nb 61 16 ((au ⟨nm,{ aB with k:=5,c:=cols,r:=right,ou:=ou },ins,[],0⟩ ⟨⟨none,0,none,0,ca,cc,ra,rc,none,0,none,0,none,0⟩,ia,ic,none,0⟩).set 7 v)/\w5.cell? ⟨nb,7,none⟩=some v):=fun w4 wz w5 hg hz h5=>by
    have o:=(((h8.later aA).grown hg (nS (by omega))).later hz).grown h5 (fun e=>by have:=HRB.out nb e.symm;omega)
    exact ⟨o,by rw [o.cell 7 (by decide)];rfl⟩
   have HAF:Hid (∀ w4,w3.drew.grownBy w4 (some c.g)->(fun W:World=>W.cell? ⟨B2,0,none⟩=some (.pointer (some ⟨c.g,0,none⟩))/\W.cell? ⟨B3,0,none⟩=some (.pointer (some ⟨nb,0,none⟩))/\W.cell? ⟨nb,5,none⟩=some (.slice ra right.length rc)) w4):=fun w4 hg=>⟨hg.cell q0 (fun e=>by have:=sI e;simp only at this;omega),hg.cell q1 (fun e=>by have:=sI e;simp only at this;omega),hg.cell q5 (fun e=>by have:=sI e;simp only at this;omega)⟩
   have HSB:Hid (∀ w4 wz,(fun W:World=>W.cell? ⟨B2,0,none⟩=some (.pointer (some ⟨c.g,0,none⟩))/\W.cell? ⟨B3,0,none⟩=some (.pointer (some ⟨nb,0,none⟩))/\W.cell? ⟨nb,5,none⟩=some (.slice ra right.length rc)) w4->Below w4.heap.size w4 wz->(fun W:World=>W.cell? ⟨B2,0,none⟩=some (.pointer (some ⟨c.g,0,none⟩))/\W.cell? ⟨B3,0,none⟩=some (.pointer (some ⟨nb,0,none⟩))/\W.cell? ⟨nb,5,none⟩=some (.slice ra right.length rc)) wz):=fun w4 wz h hz=>⟨af hz h.1,af hz h.2.1,af hz h.2.2⟩
   have HAG:Hid (∀ w4 wz w5,w3.drew.grownBy w4 (some c.g)->Below w4.heap.size w4 wz->wz.grownBy w5 v.ownBlock->(fun W:World=>W.cell? ⟨B2,0,none⟩=some (.pointer (some ⟨c.g,0,none⟩))/\W.cell? ⟨B3,0,none⟩=some (.pointer (some ⟨nb,0,none⟩))/\W.cell? ⟨nb,5,none⟩=some (.slice ra right.length rc)) w5):=fun w4 wz w5 hg hz h5=>by
    have a:=HSB.out w4 wz (HAF.out w4 hg) hz
    exact ⟨h5.cell a.1 (fun e=>by have:=HRB.out _ e.symm;simp only at this;omega),h5.cell a.2.1 (fun e=>by have:=HRB.out _ e.symm;simp only at this;omega),h5.cell a.2.2 (fun e=>by have:=HRB.out _ e.symm;simp only at this;omega)⟩
   have HAH:Hid (∀ w4 wz w5 u,w3.drew.grownBy w4 (some c.g)->Below w4.heap.size w4 wz->wz.grownBy w5 v.ownBlock->(fun W:World=>W.cell? ⟨B2,0,none⟩=some (.pointer (some ⟨c.g,0,none⟩))/\W.cell? ⟨B3,0,none⟩=some (.pointer (some ⟨nb,0,none⟩))/\W.cell? ⟨nb,5,none⟩=some (.slice ra right.length rc)) (w5.setCell ⟨nb,7,none⟩ u)):=fun w4 wz w5 u hg hz h5=>by
    have a:=HAG.out w4 wz w5 hg hz h5
    have o:=((HNC.out w4 wz w5 hg hz h5).1.put 7 u)
    refine ⟨o.2.cell a.1 (fun e=>by have:=sI e;simp only at this;omega),o.2.cell a.2.1 (fun e=>by have:=sI e;simp only at this;omega),by rw [o.1.cell 5 (by decide)];rfl⟩
   have FBAD:Hid (∀ n w4,fK right c.line.size ts3=.error n->w3.drew.grownBy w4 (some c.g)->kE c [nb] (SJ c B2 B3 nb B nm ou cols right ins ca cc ra rc ia ic) (Value.int .i64) acc r w O (.panicked [{ v:=rY n,recovered:=false }]) w4):=fun n w4 ho hg=>by
    have hx:=HX.out
    rw [ho] at hx
    rw [<-hx]
    exact ⟨HF3.out.trans (Fr.of (X:=[c.g]) (ai (aj aA) hg) (fun k hk=>by cases hk;simp)) (fun i hi=>by simp at hi;simp [hi]),rfl⟩
   clear h1 h2 h3 h4 h5 h6 h7 h8 h9 h10
   go_wp2_with fail
   go_cut [] from 14 to 31 (fun wx=>∃ y ts4 w4 w5 gg cap,fK right c.line.size ts3=.ok (y,ts4)/\PJ c w4 ts4/\w3.drew.grownBy w4 (some c.g)/\w5.ownsRow B 3 1 (.slice (some ⟨gg,0,none⟩) (acc.length+1) cap) (acc.length+1) (acc.flatMap aT++aT y)/\(w4.alloc (.cells #[.int .i64 y] 3)).grownBy w5 v.ownBlock/\(v.ownBlock=some gg\/gg=w4.heap.size+1)/\aD w5 nb 61 16 ((au ⟨nm,{ aB with k:=5,c:=cols,r:=right,ou:=ou },ins,[],0⟩ ⟨⟨none,0,none,0,ca,cc,ra,rc,none,0,none,0,none,0⟩,ia,ic,none,0⟩).set 7 v)/\wx=w5.setCell ⟨nb,7,none⟩ (.slice (some ⟨gg,0,none⟩) (acc.length+1) cap))
   case first=>
    refine Go.wp_region_held (S:=(fun W=>W.cell? ⟨B2,0,none⟩=some (.pointer (some ⟨c.g,0,none⟩))/\W.cell? ⟨B3,0,none⟩=some (.pointer (some ⟨nb,0,none⟩))/\W.cell? ⟨nb,5,none⟩=some (.slice ra right.length rc))) (by kernel_rfl) ?_
    change Go.wpAnyH _ _ _ _ _ _ _ _ (World.drew _)
    refine tk 0 (.pointer (some ⟨nb,0,none⟩)) rfl (by kernel_rfl) (by rfl) (fun _ _ _ h=>h) HS3.out (fun W hW=>?_) ?_
    ·obtain ⟨e1,e2,e3⟩:=hW;go_simp
    refine tk 1 (.pointer (some ⟨nb,0,none⟩)) rfl (by kernel_rfl) (by rfl) (fun _ _ _ h=>h) HS3.out (fun W hW=>?_) ?_
    ·obtain ⟨e1,e2,e3⟩:=hW;go_simp
    refine tk 2 (.pointer (some ⟨nb,0,none⟩)) rfl (by kernel_rfl) (by rfl) (fun _ _ _ h=>h) HS3.out (fun W hW=>?_) ?_
    ·obtain ⟨e1,e2,e3⟩:=hW;go_simp
    refine tk 3 (.pointer (some ⟨nb,1,none⟩)) rfl (by kernel_rfl) (by rfl) (fun _ _ _ h=>h) HS3.out (fun W hW=>?_) ?_
    ·obtain ⟨e1,e2,e3⟩:=hW;go_simp
    refine tk 4 (.pointer (some ⟨nb,7,none⟩)) rfl (by kernel_rfl) (by rfl) (fun _ _ _ h=>h) HS3.out (fun W hW=>?_) ?_
    ·obtain ⟨e1,e2,e3⟩:=hW;go_simp
    refine tk 6 (.pointer (some ⟨c.g,0,none⟩)) rfl (by kernel_rfl) (by rfl) (fun _ _ _ h=>h) HS3.out (fun W hW=>?_) ?_
    ·obtain ⟨e1,e2,e3⟩:=hW;go_simp
    refine tk 7 (.pointer (some ⟨nb,0,none⟩)) rfl (by kernel_rfl) (by rfl) (fun _ _ _ h=>h) HS3.out (fun W hW=>?_) ?_
    ·obtain ⟨e1,e2,e3⟩:=hW;go_simp
    refine tk 8 (.pointer (some ⟨nb,0,none⟩)) rfl (by kernel_rfl) (by rfl) (fun _ _ _ h=>h) HS3.out (fun W hW=>?_) ?_
    ·obtain ⟨e1,e2,e3⟩:=hW;go_simp
    refine tk 9 (.pointer (some ⟨nb,1,none⟩)) rfl (by kernel_rfl) (by rfl) (fun _ _ _ h=>h) HS3.out (fun W hW=>?_) ?_
    ·obtain ⟨e1,e2,e3⟩:=hW;go_simp
    refine tk 10 (.pointer (some ⟨nb,5,none⟩)) rfl (by kernel_rfl) (by rfl) (fun _ _ _ h=>h) HS3.out (fun W hW=>?_) ?_
    ·obtain ⟨e1,e2,e3⟩:=hW;go_simp
    refine tk 11 (.slice ra right.length rc) rfl (by kernel_rfl) (by rfl) (fun _ _ _ h=>h) HS3.out (fun W hW=>?_) ?_
    ·obtain ⟨e1,e2,e3⟩:=hW;go_simp
    refine Go.wpAnyH_all (rs:=[5,12]) (by kernel_rfl) (by simp) (fun j hj=>?_)
    simp only [List.mem_cons,List.not_mem_nil,or_false] at hj
    rcases hj with rfl | rfl
    ·refine wpOp_step rfl (fun K hK=>?_)
     go_simp
     refine hK _ _ ⟨HS3.out,?_⟩
     clear hK K
     refine bH 12 (by kernel_rfl) rfl (fun K hK=>?_)
     go_simp
     refine HCB.out.mono ?_
     intro e w4 hr
     rcases hr.el with ⟨n,ho,rfl,hg4⟩ | ⟨y,ts4,ho,rfl,hg4,hp4⟩
     ·exact FBAD.out n w4 ho hg4
     have HG4:=jg hg4
     have HP4:=jg hp4
     have HO4:=jg ho
     have hS4:=HAF.out w4 hg4
     have HS4:=jg hS4
     obtain ⟨o4,x4⟩:=HNB.out w4 hg4
     have k7:=x4
     have kf7:=o4.soft 7
     have ln4:=o4.lt
     clear hg4 hp4 ho hr hS4 o4 x4
     refine hK _ _ ⟨HS4.out,?_⟩
     clear hK K
     refine bH 13 (by kernel_rfl) rfl (fun K hK=>?_)
     go_simp
     refine hK _ _ ⟨HSB.out w4 _ HS4.out (ae w4 _),?_⟩
     clear hK K
     refine bH 14 (by kernel_rfl) rfl (fun K hK=>?_)
     refine step_append_lies _ (by rfl) _ _ _ (by rfl) B 3 i0 _ 1 8 Tryz.underlying31 hi0 hz0 hz1 hz2 rfl (by decide) v acc.length (acc.flatMap aT) (by rfl) ((HRW.out w4 HG4.out).alloc _) ⟨w4.heap.size,0,none⟩ 1 1 (aT y) (by rfl) (by rfl) (rz w4 y) (uO y) (by decide) (by unfold maxLen;omega) (by omega) (by have h1:w3.heap.size<=w4.heap.size:=HG4.out.size;have h2:=HBW.out;simp;omega) (w4.heap.size+1) (by simp) ?_
     intro gg cap w5 hown hgrow hgg hlt
     obtain ⟨o5,x5⟩:=HNC.out w4 _ w5 HG4.out (ae w4 _) hgrow
     have k75:=x5
     have kf75:=o5.soft 7
     have ln5:=o5.lt
     have HS5:=jg (HAG.out w4 _ w5 HG4.out (ae w4 _) hgrow)
     have HOWN:=jg hown
     have HGROW:=jg hgrow
     have HGG:=jg hgg
     have HO5:=jg o5
     have HS6:=jg (HAH.out w4 _ w5 (.slice (some ⟨gg,0,none⟩) (acc.length+1) cap) HG4.out (ae w4 _) hgrow)
     clear hown hgrow hgg o5 x5
     refine hK _ _ ⟨HS5.out,?_⟩
     clear hK K
     refine tk 15 (.pointer (some ⟨nb,0,none⟩)) rfl (by kernel_rfl) (by rfl) (fun _ _ _ h=>h) HS5.out (fun W hW=>?_) ?_
     ·obtain ⟨e1,e2,e3⟩:=hW;go_simp
     refine tk 16 (.pointer (some ⟨nb,1,none⟩)) rfl (by kernel_rfl) (by rfl) (fun _ _ _ h=>h) HS5.out (fun W hW=>?_) ?_
     ·obtain ⟨e1,e2,e3⟩:=hW;go_simp
     refine tk 17 (.pointer (some ⟨nb,7,none⟩)) rfl (by kernel_rfl) (by rfl) (fun _ _ _ h=>h) HS5.out (fun W hW=>?_) ?_
     ·obtain ⟨e1,e2,e3⟩:=hW;go_simp
     refine bH 18 (by kernel_rfl) rfl (fun K hK=>?_)
     go_simp
     refine hK _ _ ⟨HS6.out,?_⟩
     clear hK K
     refine Go.wpAnyH_done (by kernel_rfl) ?_ _
     go_wp2_with fail
     go_meet
     exact ⟨y,ts4,w4,w5,gg,cap,HO4.out,HP4.out,HG4.out,HOWN.out,HGROW.out,HGG.out,HO5.out,rfl⟩
    ·refine wpOp_step rfl (fun K hK=>?_)
     go_simp
     refine HCB.out.mono ?_
     intro e w4 hr
     rcases hr.el with ⟨n,ho,rfl,hg4⟩ | ⟨y,ts4,ho,rfl,hg4,hp4⟩
     ·exact FBAD.out n w4 ho hg4
     have HG4:=jg hg4
     have HP4:=jg hp4
     have HO4:=jg ho
     have hS4:=HAF.out w4 hg4
     have HS4:=jg hS4
     obtain ⟨o4,x4⟩:=HNB.out w4 hg4
     have k7:=x4
     have kf7:=o4.soft 7
     have ln4:=o4.lt
     clear hg4 hp4 ho hr hS4 o4 x4
     refine hK _ _ ⟨HS4.out,?_⟩
     clear hK K
     refine Go.wpAnyH_all (rs:=[5,13]) (by kernel_rfl) (by simp) (fun j hj=>?_)
     simp only [List.mem_cons,List.not_mem_nil,or_false] at hj
     rcases hj with rfl | rfl
     ·refine wpOp_step rfl (fun K hK=>?_)
      go_simp
      refine hK _ _ ⟨HS4.out,?_⟩
      clear hK K
      refine bH 13 (by kernel_rfl) rfl (fun K hK=>?_)
      go_simp
      refine hK _ _ ⟨HSB.out w4 _ HS4.out (ae w4 _),?_⟩
      clear hK K
      refine bH 14 (by kernel_rfl) rfl (fun K hK=>?_)
      refine step_append_lies _ (by rfl) _ _ _ (by rfl) B 3 i0 _ 1 8 Tryz.underlying31 hi0 hz0 hz1 hz2 rfl (by decide) v acc.length (acc.flatMap aT) (by rfl) ((HRW.out w4 HG4.out).alloc _) ⟨w4.heap.size,0,none⟩ 1 1 (aT y) (by rfl) (by rfl) (rz w4 y) (uO y) (by decide) (by unfold maxLen;omega) (by omega) (by have h1:w3.heap.size<=w4.heap.size:=HG4.out.size;have h2:=HBW.out;simp;omega) (w4.heap.size+1) (by simp) ?_
      intro gg cap w5 hown hgrow hgg hlt
      obtain ⟨o5,x5⟩:=HNC.out w4 _ w5 HG4.out (ae w4 _) hgrow
      have k75:=x5
      have kf75:=o5.soft 7
      have ln5:=o5.lt
      have HS5:=jg (HAG.out w4 _ w5 HG4.out (ae w4 _) hgrow)
      have HOWN:=jg hown
      have HGROW:=jg hgrow
      have HGG:=jg hgg
      have HO5:=jg o5
      have HS6:=jg (HAH.out w4 _ w5 (.slice (some ⟨gg,0,none⟩) (acc.length+1) cap) HG4.out (ae w4 _) hgrow)
      clear hown hgrow hgg o5 x5
      refine hK _ _ ⟨HS5.out,?_⟩
      clear hK K
      refine tk 15 (.pointer (some ⟨nb,0,none⟩)) rfl (by kernel_rfl) (by rfl) (fun _ _ _ h=>h) HS5.out (fun W hW=>?_) ?_
      ·obtain ⟨e1,e2,e3⟩:=hW;go_simp
      refine tk 16 (.pointer (some ⟨nb,1,none⟩)) rfl (by kernel_rfl) (by rfl) (fun _ _ _ h=>h) HS5.out (fun W hW=>?_) ?_
      ·obtain ⟨e1,e2,e3⟩:=hW;go_simp
      refine tk 17 (.pointer (some ⟨nb,7,none⟩)) rfl (by kernel_rfl) (by rfl) (fun _ _ _ h=>h) HS5.out (fun W hW=>?_) ?_
      ·obtain ⟨e1,e2,e3⟩:=hW;go_simp
      refine bH 18 (by kernel_rfl) rfl (fun K hK=>?_)
      go_simp
      refine hK _ _ ⟨HS6.out,?_⟩
      clear hK K
      refine Go.wpAnyH_done (by kernel_rfl) ?_ _
      go_wp2_with fail
      go_meet
      exact ⟨y,ts4,w4,w5,gg,cap,HO4.out,HP4.out,HG4.out,HOWN.out,HGROW.out,HGG.out,HO5.out,rfl⟩
     ·refine wpOp_step rfl (fun K hK=>?_)
      go_simp
      refine hK _ _ ⟨HSB.out w4 _ HS4.out (ae w4 _),?_⟩
      clear hK K
      refine bH 5 (by kernel_rfl) rfl (fun K hK=>?_)
      go_simp
      refine hK _ _ ⟨(HSB.out w4 _ HS4.out (ae w4 _)),?_⟩
      clear hK K
      refine bH 14 (by kernel_rfl) rfl (fun K hK=>?_)
      refine step_append_lies _ (by rfl) _ _ _ (by rfl) B 3 i0 _ 1 8 Tryz.underlying31 hi0 hz0 hz1 hz2 rfl (by decide) v acc.length (acc.flatMap aT) (by rfl) ((HRW.out w4 HG4.out).alloc _) ⟨w4.heap.size,0,none⟩ 1 1 (aT y) (by rfl) (by rfl) (rz w4 y) (uO y) (by decide) (by unfold maxLen;omega) (by omega) (by have h1:w3.heap.size<=w4.heap.size:=HG4.out.size;have h2:=HBW.out;simp;omega) (w4.heap.size+1) (by simp) ?_
      intro gg cap w5 hown hgrow hgg hlt
      obtain ⟨o5,x5⟩:=HNC.out w4 _ w5 HG4.out (ae w4 _) hgrow
      have k75:=x5
      have kf75:=o5.soft 7
      have ln5:=o5.lt
      have HS5:=jg (HAG.out w4 _ w5 HG4.out (ae w4 _) hgrow)
      have HOWN:=jg hown
      have HGROW:=jg hgrow
      have HGG:=jg hgg
      have HO5:=jg o5
      have HS6:=jg (HAH.out w4 _ w5 (.slice (some ⟨gg,0,none⟩) (acc.length+1) cap) HG4.out (ae w4 _) hgrow)
      clear hown hgrow hgg o5 x5
      refine hK _ _ ⟨HS5.out,?_⟩
      clear hK K
      refine tk 15 (.pointer (some ⟨nb,0,none⟩)) rfl (by kernel_rfl) (by rfl) (fun _ _ _ h=>h) HS5.out (fun W hW=>?_) ?_
      ·obtain ⟨e1,e2,e3⟩:=hW;go_simp
      refine tk 16 (.pointer (some ⟨nb,1,none⟩)) rfl (by kernel_rfl) (by rfl) (fun _ _ _ h=>h) HS5.out (fun W hW=>?_) ?_
      ·obtain ⟨e1,e2,e3⟩:=hW;go_simp
      refine tk 17 (.pointer (some ⟨nb,7,none⟩)) rfl (by kernel_rfl) (by rfl) (fun _ _ _ h=>h) HS5.out (fun W hW=>?_) ?_
      ·obtain ⟨e1,e2,e3⟩:=hW;go_simp
      refine bH 18 (by kernel_rfl) rfl (fun K hK=>?_)
      go_simp
      refine hK _ _ ⟨HS6.out,?_⟩
      clear hK K
      refine Go.wpAnyH_done (by kernel_rfl) ?_ _
      go_wp2_with fail
      go_meet
      exact ⟨y,ts4,w4,w5,gg,cap,HO4.out,HP4.out,HG4.out,HOWN.out,HGROW.out,HGG.out,HO5.out,rfl⟩
   case rest=>
    obtain ⟨y,ts4,w4,w5,gg,cap,ho,hp4,hg4,hown,hgrow,hgg,ho5,hwx⟩:=hcut
    rw [ho] at HX
    simp only [bnd] at HX
    have HL3:=jg (iW ho)
    have hput:=ho5.put 7 (.slice (some ⟨gg,0,none⟩) (acc.length+1) cap)
    rw [<-hwx] at hput
    obtain ⟨ho6,hg6⟩:=hput
    have hsz:w3.heap.size<=w4.heap.size:=hg4.size
    have hgb:B<=gg:=by
     rcases hgg with h | h
     ·exact HRB.out gg h
     ·have:=HBW.out;omega
    have hrb:=HRB.out
    have hS4:=tE.go hb (tE.keep (k:=none) hb HS3'.out (aj aA) (fun j hj=>by cases hj)) hg4 hp4
    have hS5:=tE.keep (k:=none) hb hS4 (aj (ae w4 (.cells #[.int .i64 y] 3))) (fun j hj=>by cases hj)
    obtain ⟨a1,a2,a3,a4,a5,a6,a7,-⟩:=hS5
    have hSX:tE c B2 B3 nb B nm ou cols right ins ca cc ra rc ia ic ts4 (acc++[y]) (some gg) wc:=by
     refine ⟨(a1.grown hgrow (fun k hk=>by have:=hrb k hk;omega)).grown hg6 (fun k hk=>by cases hk;omega),(a2.grown hgrow (fun e=>by have:=hrb _ e.symm;omega)).grown hg6 (nS (by omega)),(a3.grown hgrow (fun e=>by have:=hrb _ e.symm;omega)).grown hg6 (nS (by omega)),ap.kept (ap.kept a4 hgrow (fun b o e e2=>by have:=hrb _ e2;have:=(hb.a b o e).2.2;omega)) hg6 (fun b o e e2=>(hb.a b o e).2.1 (sI e2).symm),ap.kept (ap.kept a5 hgrow (fun b o e e2=>by have:=hrb _ e2;have:=(hb.r b o e).2.2;omega)) hg6 (fun b o e e2=>(hb.r b o e).2.1 (sI e2).symm),aG.kept (aG.kept a6 hgrow (fun b o e e2=>by have:=hrb _ e2;have:=(hb.i b o e).2.2;omega)) hg6 (fun b o e e2=>(hb.i b o e).2.1 (sI e2).symm),Nat.le_trans a7 (Nat.le_trans hgrow.size hg6.size),_,by rw [List.set_set] at ho6;exact ho6,?_,rfl⟩
     have:=aI hown hg6 (fun g hg' e=>by have h1:gg=g:=sI hg';have h2:=sI e;omega)
     simpa using this
    have HS:=jg hSX
    have HFR:Hid (Fr w wc (c.g::([nb]++r.toList))):=by
     refine ((((HF3.out.trans (Fr.of (X:=[c.g]) (ai (aj aA) hg4) (fun k hk=>by cases hk;simp)) (fun i hi=>by simp at hi;simp [hi])).trans (Fr.of (X:=[]) (aj (r:=none) (ae w4 (.cells #[.int .i64 y] 3))) (fun k hk=>by cases hk)) (fun i hi=>by cases hi)).trans (Fr.of (X:=r.toList) hgrow (fun k hk=>by left;rw [HR10.out,hk];simp)) (fun i hi=>?_):Fr w w5 (c.g::([nb]++r.toList))).trans (Fr.of (X:=[nb]) hg6 (fun k hk=>by cases hk;simp)) (fun i hi=>by simp at hi;simp [hi]))
     simp at hi;simp [hi]
    have HRR:Hid (some gg=r\/∃ k,some gg=some k/\w.heap.size<=k):=by
     rcases hgg with h | h
     ·left;rw [HR10.out,h]
     ·right;exact ⟨gg,rfl,by have:=HF3.out.size;omega⟩
    clear ho hp4 hg4 hown hgrow hgg ho5 hwx ho6 hg6 hS4 a1 a2 a3 a4 a5 a6 a7 hSX
    go_wp2_with fail
    go_ret
    rw [<-HX.out]
    exact ⟨HFR.out,rfl,some gg,⟨HS.out,by have:=HBD.out;have:=HL1.out;have:=HL2.out;have:=HL3.out;simp;omega⟩,HRR.out⟩
end Go.Proofs.YtiiliobffnhpmaaGreatDoor.Jp
