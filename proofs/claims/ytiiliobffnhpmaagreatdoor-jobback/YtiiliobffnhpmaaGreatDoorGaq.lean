import Derived.Test.YtiiliobffnhpmaaGreatDoorGap
set_option linter.all false
set_option maxRecDepth 100000
set_option maxHeartbeats 4000000
namespace Go.Proofs.YtiiliobffnhpmaaGreatDoor.Jp
open Go.RowKit Oo
attribute [local go_sem] an
theorem er {E:Nat} {x:ByteArray} {ts ts':List Tk} {s:ByteArray} (h:aM E [x] ts=.ok (s,ts')) (hx:x≠⟨#[]⟩):ts'.length+1<=ts.length:=by
 unfold aM at h
 split at h
 ·rename_i hm
  rw [fq] at hm
  cases ts with
  | nil=>simp [hd] at hm;exact absurd hm.symm hx
  | cons t ts=>cases h;simp
 ·cases h
def jj (c:LC) (Q:World->Prop) (fv:Value) (b2 b3 b6:Nat) (ts:List Tk) (acc:List ByteArray) (r:Option Nat) (W:World):Prop:=PJ c W ts/\Q W/\aD W b2 82 1 [.pointer (some ⟨c.g,0,none⟩)]/\aD W b3 71 1 [fv]/\∃ v,aD W b6 40 1 [v]/\W.ownsRow (b6+1) 9 1 v acc.length (acc.flatMap bC)/\r=v.ownBlock
theorem jj.go {c:LC} {Q:World->Prop} {fv:Value} {b2 b3 b6:Nat} (hb:c.g<b2/\b2<b3/\b3<b6) (hQg:∀ W W',Q W->W.grownBy W' (some c.g)->Q W') {ts ts':List Tk} {acc:List ByteArray} {r:Option Nat} {W W':World} (h:jj c Q fv b2 b3 b6 ts acc r W) (hg:W.grownBy W' (some c.g)) (hp:PJ c W' ts'):jj c Q fv b2 b3 b6 ts' acc r W':=by
 obtain ⟨h1,h2,h3,h4,v,h5,h6,h7⟩:=h
 exact ⟨hp,hQg _ _ h2 hg,h3.grown hg (nS (by omega)),h4.grown hg (nS (by omega)),v,h5.grown hg (nS (by omega)),aI h6 hg (fun g hg' e=>by have:=sI e;have:=(World.ownsRow.lt h6 g hg').1;omega),h7⟩
theorem jj.keep {c:LC} {Q:World->Prop} {fv:Value} {b2 b3 b6:Nat} (hb:c.g<b2/\b2<b3/\b3<b6) (hQf:∀ W W' k,Q W->W.grownBy W' k->(∀ j,k=some j->b2<=j)->Q W') {ts:List Tk} {acc:List ByteArray} {r:Option Nat} {W W':World} {k:Option Nat} (h:jj c Q fv b2 b3 b6 ts acc r W) (hg:W.grownBy W' k) (hk:∀ j,k=some j->b6+1<=j/\some j≠r):jj c Q fv b2 b3 b6 ts acc r W':=by
 obtain ⟨h1,h2,h3,h4,v,h5,h6,h7⟩:=h
 exact ⟨h1.grown hg (fun j hj=>by have:=(hk j hj).1;omega),hQf _ _ k h2 hg (fun j hj=>by have:=(hk j hj).1;omega),h3.grown hg (fun e=>by have:=(hk _ e.symm).1;omega),h4.grown hg (fun e=>by have:=(hk _ e.symm).1;omega),v,h5.grown hg (fun e=>by have:=(hk _ e.symm).1;omega),aI h6 hg (fun g hg' e=>(hk g e.symm).2 (by rw [h7,hg'])),h7⟩
def Bj (c:LC) (Q:World->Prop) (fv:Value) (b2 b3 b6:Nat) (ts:List Tk) (acc:List ByteArray) (r:Option Nat) (W:World):Prop:=jj c Q fv b2 b3 b6 ts acc r W/\acc.length+ts.length<=3000
theorem Bj.side {c:LC} {Q:World->Prop} {fv:Value} {b2 b3 b6:Nat} (hb:c.g<b2/\b2<b3/\b3<b6) (hQg:∀ W W',Q W->W.grownBy W' (some c.g)->Q W') (hQf:∀ W W' k,Q W->W.grownBy W' k->(∀ j,k=some j->b2<=j)->Q W'):sU c [b6] (b6+1) (Bj c Q fv b2 b3 b6) where
 pj _ _ _ _ h:=h.1.1
 go _ _ _ _ _ _ h hg hp hle:=⟨jj.go hb hQg h.1 hg hp,by have:=h.2;omega⟩
 keep _ _ _ _ _ k h hg hk:=⟨jj.keep hb hQf h.1 hg hk,h.2⟩
 lt _ _ _ _ h:=by
  obtain ⟨⟨h1,h2,h3,h4,v,h5,h6,h7⟩,-⟩:=h
  exact ⟨h5.lt,fun k hk=>(World.ownsRow.lt h6 k (by rw [<-h7,hk])).2⟩
 x0 i hi:=by simp at hi;omega
theorem DI:(Tryz.prog.info? 9).map (fun i=>(i.zero,i.size,i.bytes))=some (some (.string ⟨#[]⟩),1,16):=by kernel_rfl
theorem Dt (w:World) (y:ByteArray):∀ j u,(bC y)[j]?=some u->(w.alloc (.cells #[.string y] 9)).cell? ((⟨w.heap.size,0,none⟩:Addr).add j)=some u:=fun i u hi=>by
 rw [WideShapes.add_plain]
 have hO:=aD.new w 9 1 #[.string y] rfl
 have hlt:=(List.getElem?_eq_some_iff.1 hi).1
 rw [Nat.zero_add,hO.cell i hlt]
 exact hi
theorem Em (y:ByteArray):∀ u∈bC y,u.oneCell'=true:=by intro u hu;simp [bC] at hu;subst hu;rfl
def kF (f1:List Tk->Except Nat (ByteArray × List Tk)) (E:Nat) (ts:List Tk):Except Nat ((ByteArray × ByteArray) × List Tk):=bnd (f1 ts) fun y ts=>bnd (aM E [bAs] ts) fun _ ts=>bnd (bm E ts) fun x ts=>.ok ((x,y),ts)
theorem pE (c:LC) (Q:World->Prop) (b2 b3 b6 fn1:Nat) (first1 cp1:Array Value) (hb:c.g<b2/\b2<b3/\b3<b6) (hQg:∀ W W',Q W->W.grownBy W' (some c.g)->Q W') (hQf:∀ W W' k,Q W->W.grownBy W' k->(∀ j,k=some j->b2<=j)->Q W') (f1:List Tk->Except Nat (ByteArray × List Tk)) (hent:∀ (a:Array Value) (W:World),(callFunc fn1 a).run Tryz.prog W=.ok (.enter fn1 a) W)
 (hone:∀ ts W,Q W->PJ c W ts->Calls Tryz.prog fn1 (first1++cp1) W (RP c W (f1 ts) Value.string))
 (hlen:∀ ts y ts',f1 ts=.ok (y,ts')->ts'.length<=ts.length) (ts:List Tk) (acc:List ByteArray) (r:Option Nat) (w:World) (h:Bj c Q (.func (.func fn1) first1 cp1) b2 b3 b6 ts acc r w) :
 Calls Tryz.prog 178 (#[]++#[.pointer (some ⟨b6,0,none⟩),.pointer (some ⟨b3,0,none⟩),.pointer (some ⟨b2,0,none⟩)]) w (kE c [b6] (Bj c Q (.func (.func fn1) first1 cp1) b2 b3 b6) Value.string acc r w (kF f1 c.line.size ts)):=by
 obtain ⟨i0,hi0,hz0,hz1,hz2⟩:=info_parts DI
 obtain ⟨O,HX⟩:∃ O,Hid (kF f1 c.line.size ts=O):=⟨_,rfl⟩
 rw [HX.out]
 unfold kF at HX
 have hacc:acc.length<=4096:=by have:=h.2;omega
 have HBD:=jg h.2
 have HLEN:=jg hlen
 obtain ⟨⟨h1,h2,h3,h4,v,h5,h6,h7⟩,-⟩:=h
 have news1:=Dt
 have one1:=Em
 have hgl:=h1.lt
 have d6w:=h5.c 0 rfl
 have f6w:=h5.soft 0
 have d3w:=h4.c 0 rfl
 have hl6:=h5.lt
 have hl3:=h4.lt
 have HIN:=jg (hone ts w.drew (hQf _ _ none h2 (aj aA) (fun j hj=>by cases hj)) (h1.later aA))
 have HBX:Hid (∀ w1,w.drew.grownBy w1 (some c.g)->aD w1 b6 40 1 [v]):=fun w1 hg=>(h5.later aA).grown hg (nS (by omega))
 have HRB:Hid (∀ k,v.ownBlock=some k->b6<k):=fun k hk=>(World.ownsRow.lt h6 k hk).1
 have HRW:Hid (∀ w1,w.drew.grownBy w1 (some c.g)->w1.ownsRow (b6+1) 9 1 v acc.length (acc.flatMap bC)):=fun w1 hg=>aI (aO h6 aA) hg (fun g hg' e=>by have:=sI e;have:=(World.ownsRow.lt h6 g hg').1;omega)
 have HS0:Hid (jj c Q (.func (.func fn1) first1 cp1) b2 b3 b6 ts acc r w):=⟨h1,h2,h3,h4,v,h5,h6,h7⟩
 have HR7:=jg h7
 have HQG:=jg hQg
 have HQF:=jg hQf
 clear h1 h2 h3 h4 h5 h6 h7 hQg hQf hone hlen
 simp only [Array.empty_append]
 go_in
 go_wp2_with fail
 cases ho:f1 ts with
 | error n=>
  rw [ho] at HX
  simp only [bnd] at HX
  have HBB:Hid (Calls Tryz.prog fn1 (first1++cp1) w.drew fun e w'=>w.drew.grownBy w' (some c.g)/\e=.panicked [{ v:=rY n,recovered:=false }]):=HIN.out.mono (by
   intro e w' h
   rw [ho] at h
   exact h)
  have FIN:Hid (∀ w5,w.drew.grownBy w5 (some c.g)->kE c [b6] (Bj c Q (.func (.func fn1) first1 cp1) b2 b3 b6) Value.string acc r w O (.panicked [{ v:=rY n,recovered:=false }]) w5):=fun w5 hg=>by
   rw [<-HX.out];exact ⟨Fr.of (ai (aj aA) hg) (fun k hk=>by cases hk;simp),rfl⟩
  clear ho HIN HX
  refine wp_region_any (by kernel_rfl) ?_
  change wpAny _ _ _ _ _ _ _ (World.drew _)
  refine wpAny_ready (rs:=[0,1]) (by kernel_rfl) (by simp) ?_
  refine AllReady.cons rfl (fun K hK=>?_) ?_
  ·go_simp
   refine hK _ _ ?_
   clear hK K
   refine aY 1 (by kernel_rfl) rfl (fun K hK=>?_)
   go_simp
   refine hK _ _ ?_
   clear hK K
   refine aY 2 (by kernel_rfl) rfl (fun K hK=>?_)
   go_simp
   refine HBB.out.mono ?_
   rintro e w5 ⟨hg5,rfl⟩
   exact FIN.out w5 hg5
  ·refine AllReady.cons rfl (fun K hK=>?_) AllReady.nil
   go_simp
   refine hK _ _ ?_
   clear hK K
   refine wpAny_ready (rs:=[0,2]) (by kernel_rfl) (by simp) ?_
   refine AllReady.cons rfl (fun K hK=>?_) ?_
   ·go_simp
    refine hK _ _ ?_
    clear hK K
    refine aY 2 (by kernel_rfl) rfl (fun K hK=>?_)
    go_simp
    refine HBB.out.mono ?_
    rintro e w5 ⟨hg5,rfl⟩
    exact FIN.out w5 hg5
   ·refine AllReady.cons rfl (fun K hK=>?_) AllReady.nil
    go_simp
    refine HBB.out.mono ?_
    rintro e w5 ⟨hg5,rfl⟩
    exact FIN.out w5 hg5
 | ok p=>
  obtain ⟨y,ts1⟩:=p
  rw [ho] at HX
  simp only [bnd] at HX
  have HIX:Hid (Calls Tryz.prog fn1 (first1++cp1) w.drew fun e w'=>e=.returned (Value.string y)/\w.drew.grownBy w' (some c.g)/\PJ c w' ts1):=HIN.out.mono (by
   intro e w' h
   rw [ho] at h
   exact ⟨h.2.1,h.1,h.2.2⟩)
  have HL1:=jg (HLEN.out _ _ _ ho)
  clear ho HIN
  unfold Value.string at HIX
  go_cut [] from 4 to 8 (fun wx=>∃ w1 w5 gg cap,PJ c w1 ts1/\w.drew.grownBy w1 (some c.g)/\w5.ownsRow (b6+1) 9 1 (.slice (some ⟨gg,0,none⟩) (acc.length+1) cap) (acc.length+1) (acc.flatMap bC++bC y)/\(w1.alloc (.cells #[.string y] 9)).grownBy w5 v.ownBlock/\(v.ownBlock=some gg\/gg=w1.heap.size+1)/\gg<w5.heap.size/\aD w5 b6 40 1 [v]/\wx=w5.setCell ⟨b6,0,none⟩ (.slice (some ⟨gg,0,none⟩) (acc.length+1) cap))
  case first=>
   refine wp_region_any (by kernel_rfl) ?_
   change wpAny _ _ _ _ _ _ _ (World.drew _)
   refine wpAny_ready (rs:=[0,1]) (by kernel_rfl) (by simp) ?_
   refine AllReady.cons rfl (fun K hK=>?_) ?_
   ·go_simp
    refine hK _ _ ?_
    clear hK K
    refine aY 1 (by kernel_rfl) rfl (fun K hK=>?_)
    go_simp
    refine hK _ _ ?_
    clear hK K
    refine aY 2 (by kernel_rfl) rfl (fun K hK=>?_)
    go_simp
    refine HIX.out.mono ?_
    rintro e w1 ⟨rfl,hg1,hp1⟩
    have HG1:=jg hg1
    have HP1:=jg hp1
    have hO1:=HBX.out w1 hg1
    have d6:=hO1.c 0 rfl
    have f6:=hO1.soft 0
    have hl1:=hO1.lt
    clear hg1 hp1 hO1
    refine hK _ _ ?_
    clear hK K
    refine aY 3 (by kernel_rfl) rfl (fun K hK=>?_)
    go_simp
    refine hK _ _ ?_
    clear hK K
    refine aY 4 (by kernel_rfl) rfl (fun K hK=>?_)
    refine step_append_lies _ (by rfl) _ _ _ (by rfl) (b6+1) 9 i0 _ 1 16 Tryz.underlying40 hi0 hz0 hz1 hz2 rfl (by decide) v acc.length (acc.flatMap bC) (by rfl) ((HRW.out w1 HG1.out).alloc _) ⟨w1.heap.size,0,none⟩ 1 1 (bC y) (by rfl) (by rfl) (news1 w1 y) (one1 y) (by decide) (by unfold maxLen;omega) (by omega) (by simp;omega) (w1.heap.size+1) (by simp) ?_
    intro gg cap w5 hown hgrow hgg hlt
    have hO5:=HBX.out w1 HG1.out
    have hO5b:=(hO5.later (ae w1 _)).grown hgrow (fun e=>by have:=HRB.out b6 e.symm;omega)
    have d65:=hO5b.c 0 rfl
    have f65:=hO5b.soft 0
    have hl5:=hO5b.lt
    have HOWN:=jg hown
    have HGROW:=jg hgrow
    have HGG:=jg hgg
    have HO5:=jg hO5b
    clear hown hgrow hgg hO5 hO5b
    refine hK _ _ ?_
    clear hK K
    refine aY 5 (by kernel_rfl) rfl (fun K hK=>?_)
    go_simp
    refine hK _ _ ?_
    clear hK K
    refine ⟨by kernel_rfl,?_⟩
    go_wp2_with fail
    go_meet
    exact ⟨w1,w5,gg,cap,HP1.out,HG1.out,HOWN.out,HGROW.out,HGG.out,hlt,HO5.out,rfl⟩
   ·refine AllReady.cons rfl (fun K hK=>?_) AllReady.nil
    go_simp
    refine hK _ _ ?_
    clear hK K
    refine wpAny_ready (rs:=[0,2]) (by kernel_rfl) (by simp) ?_
    refine AllReady.cons rfl (fun K hK=>?_) ?_
    ·go_simp
     refine hK _ _ ?_
     clear hK K
     refine aY 2 (by kernel_rfl) rfl (fun K hK=>?_)
     go_simp
     refine HIX.out.mono ?_
     rintro e w1 ⟨rfl,hg1,hp1⟩
     have HG1:=jg hg1
     have HP1:=jg hp1
     have hO1:=HBX.out w1 hg1
     have d6:=hO1.c 0 rfl
     have f6:=hO1.soft 0
     have hl1:=hO1.lt
     clear hg1 hp1 hO1
     refine hK _ _ ?_
     clear hK K
     refine aY 3 (by kernel_rfl) rfl (fun K hK=>?_)
     go_simp
     refine hK _ _ ?_
     clear hK K
     refine aY 4 (by kernel_rfl) rfl (fun K hK=>?_)
     refine step_append_lies _ (by rfl) _ _ _ (by rfl) (b6+1) 9 i0 _ 1 16 Tryz.underlying40 hi0 hz0 hz1 hz2 rfl (by decide) v acc.length (acc.flatMap bC) (by rfl) ((HRW.out w1 HG1.out).alloc _) ⟨w1.heap.size,0,none⟩ 1 1 (bC y) (by rfl) (by rfl) (news1 w1 y) (one1 y) (by decide) (by unfold maxLen;omega) (by omega) (by simp;omega) (w1.heap.size+1) (by simp) ?_
     intro gg cap w5 hown hgrow hgg hlt
     have hO5:=HBX.out w1 HG1.out
     have hO5b:=(hO5.later (ae w1 _)).grown hgrow (fun e=>by have:=HRB.out b6 e.symm;omega)
     have d65:=hO5b.c 0 rfl
     have f65:=hO5b.soft 0
     have hl5:=hO5b.lt
     have HOWN:=jg hown
     have HGROW:=jg hgrow
     have HGG:=jg hgg
     have HO5:=jg hO5b
     clear hown hgrow hgg hO5 hO5b
     refine hK _ _ ?_
     clear hK K
     refine aY 5 (by kernel_rfl) rfl (fun K hK=>?_)
     go_simp
     refine hK _ _ ?_
     clear hK K
     refine ⟨by kernel_rfl,?_⟩
     go_wp2_with fail
     go_meet
     exact ⟨w1,w5,gg,cap,HP1.out,HG1.out,HOWN.out,HGROW.out,HGG.out,hlt,HO5.out,rfl⟩
    ·refine AllReady.cons rfl (fun K hK=>?_) AllReady.nil
     go_simp
     refine HIX.out.mono ?_
     rintro e w1 ⟨rfl,hg1,hp1⟩
     have HG1:=jg hg1
     have HP1:=jg hp1
     have hO1:=HBX.out w1 hg1
     have d6:=hO1.c 0 rfl
     have f6:=hO1.soft 0
     have hl1:=hO1.lt
     clear hg1 hp1 hO1
     refine hK _ _ ?_
     clear hK K
     refine wpAny_ready (rs:=[0,3]) (by kernel_rfl) (by simp) ?_
     refine AllReady.cons rfl (fun K hK=>?_) ?_
     ·go_simp
      refine hK _ _ ?_
      clear hK K
      refine aY 3 (by kernel_rfl) rfl (fun K hK=>?_)
      go_simp
      refine hK _ _ ?_
      clear hK K
      refine aY 4 (by kernel_rfl) rfl (fun K hK=>?_)
      refine step_append_lies _ (by rfl) _ _ _ (by rfl) (b6+1) 9 i0 _ 1 16 Tryz.underlying40 hi0 hz0 hz1 hz2 rfl (by decide) v acc.length (acc.flatMap bC) (by rfl) ((HRW.out w1 HG1.out).alloc _) ⟨w1.heap.size,0,none⟩ 1 1 (bC y) (by rfl) (by rfl) (news1 w1 y) (one1 y) (by decide) (by unfold maxLen;omega) (by omega) (by simp;omega) (w1.heap.size+1) (by simp) ?_
      intro gg cap w5 hown hgrow hgg hlt
      have hO5:=HBX.out w1 HG1.out
      have hO5b:=(hO5.later (ae w1 _)).grown hgrow (fun e=>by have:=HRB.out b6 e.symm;omega)
      have d65:=hO5b.c 0 rfl
      have f65:=hO5b.soft 0
      have hl5:=hO5b.lt
      have HOWN:=jg hown
      have HGROW:=jg hgrow
      have HGG:=jg hgg
      have HO5:=jg hO5b
      clear hown hgrow hgg hO5 hO5b
      refine hK _ _ ?_
      clear hK K
      refine aY 5 (by kernel_rfl) rfl (fun K hK=>?_)
      go_simp
      refine hK _ _ ?_
      clear hK K
      refine ⟨by kernel_rfl,?_⟩
      go_wp2_with fail
      go_meet
      exact ⟨w1,w5,gg,cap,HP1.out,HG1.out,HOWN.out,HGROW.out,HGG.out,hlt,HO5.out,rfl⟩
     ·refine AllReady.cons rfl (fun K hK=>?_) AllReady.nil
      go_simp
      refine hK _ _ ?_
      clear hK K
      refine aY 0 (by kernel_rfl) rfl (fun K hK=>?_)
      go_simp
      refine hK _ _ ?_
      clear hK K
      refine aY 4 (by kernel_rfl) rfl (fun K hK=>?_)
      refine step_append_lies _ (by rfl) _ _ _ (by rfl) (b6+1) 9 i0 _ 1 16 Tryz.underlying40 hi0 hz0 hz1 hz2 rfl (by decide) v acc.length (acc.flatMap bC) (by rfl) ((HRW.out w1 HG1.out).alloc _) ⟨w1.heap.size,0,none⟩ 1 1 (bC y) (by rfl) (by rfl) (news1 w1 y) (one1 y) (by decide) (by unfold maxLen;omega) (by omega) (by simp;omega) (w1.heap.size+1) (by simp) ?_
      intro gg cap w5 hown hgrow hgg hlt
      have hO5:=HBX.out w1 HG1.out
      have hO5b:=(hO5.later (ae w1 _)).grown hgrow (fun e=>by have:=HRB.out b6 e.symm;omega)
      have d65:=hO5b.c 0 rfl
      have f65:=hO5b.soft 0
      have hl5:=hO5b.lt
      have HOWN:=jg hown
      have HGROW:=jg hgrow
      have HGG:=jg hgg
      have HO5:=jg hO5b
      clear hown hgrow hgg hO5 hO5b
      refine hK _ _ ?_
      clear hK K
      refine aY 5 (by kernel_rfl) rfl (fun K hK=>?_)
      go_simp
      refine hK _ _ ?_
      clear hK K
      refine ⟨by kernel_rfl,?_⟩
      go_wp2_with fail
      go_meet
      exact ⟨w1,w5,gg,cap,HP1.out,HG1.out,HOWN.out,HGROW.out,HGG.out,hlt,HO5.out,rfl⟩
  case rest=>
   obtain ⟨w1,w5,gg,cap,hp1,hg1,hown,hgrow,hgg,hlt,ho5,hwx⟩:=hcut
   have hput:=ho5.put 0 (.slice (some ⟨gg,0,none⟩) (acc.length+1) cap)
   rw [<-hwx] at hput
   obtain ⟨ho6,hg6⟩:=hput
   have hsz1:w.heap.size<=w1.heap.size:=hg1.size
   have hgb:b6<gg:=by
    rcases hgg with h | h
    ·exact HRB.out gg h
    ·omega
   have hrb:=HRB.out
   have hS1:=jj.go hb HQG.out (jj.keep (k:=none) hb HQF.out HS0.out (aj aA) (fun j hj=>by cases hj)) hg1 hp1
   have hS2:=jj.keep (k:=none) hb HQF.out hS1 (aj (ae w1 (.cells #[.string y] 9))) (fun j hj=>by cases hj)
   obtain ⟨a1,a2,a3,a4,-⟩:=hS2
   have hSX:jj c Q (.func (.func fn1) first1 cp1) b2 b3 b6 ts1 (acc++[y]) (some gg) wc:=by
    refine ⟨(a1.grown hgrow (fun k hk=>by have:=hrb k hk;omega)).grown hg6 (fun k hk=>by cases hk;omega),HQF.out _ _ _ (HQF.out _ _ _ a2 hgrow (fun j hj=>by have:=hrb j hj;omega)) hg6 (fun j hj=>by cases hj;omega),(a3.grown hgrow (fun e=>by have:=hrb _ e.symm;omega)).grown hg6 (nS (by omega)),(a4.grown hgrow (fun e=>by have:=hrb _ e.symm;omega)).grown hg6 (nS (by omega)),_,ho6,?_,rfl⟩
    have:=aI hown hg6 (fun g hg' e=>by have h1:gg=g:=sI hg';have h2:=sI e;omega)
    simpa using this
   have HS:=jg hSX
   have HFR:Hid (Fr w wc (c.g::([b6]++r.toList))):=by
    refine (((Fr.of (X:=c.g::([b6]++r.toList)) (ai (aj aA) hg1) (fun k hk=>by cases hk;simp)).trans (Fr.of (X:=[]) (aj (r:=none) (ae w1 (.cells #[.string y] 9))) (fun k hk=>by cases hk)) (fun i hi=>by cases hi)).trans (Fr.of (X:=r.toList) hgrow (fun k hk=>by left;rw [HR7.out,hk];simp)) (fun i hi=>?_):Fr w w5 (c.g::([b6]++r.toList))).trans (Fr.of (X:=[b6]) hg6 (fun k hk=>by cases hk;simp)) (fun i hi=>by simp at hi;simp [hi])
    simp at hi;simp [hi]
   have HRR:Hid (some gg=r\/∃ k,some gg=some k/\w.heap.size<=k):=by
    rcases hgg with h | h
    ·left;rw [HR7.out,h]
    ·right;exact ⟨gg,rfl,by omega⟩
   have hl2:=hSX.2.2.1.lt
   have d2:=hSX.2.2.1.c 0 rfl
   clear hp1 hg1 hown hgrow hgg hlt ho5 hwx ho6 hg6 hS1 a1 a2 a3 a4 hSX HS0 HBX HRB HRW HIX hrb hsz1 d6w f6w d3w hl6 hl3
   have HW:=jg (bO c bAs ts1 wc HS.out.1)
   unfold bAs at HW
   go_wp2_with fail
   refine HW.out.mono ?_
   intro e w6 hr
   rcases hr.el with ⟨n,ho,rfl,hg⟩ | ⟨x6,ts2,ho,rfl,hg,hp⟩
   ·change aM c.line.size [bAs] ts1=_ at ho
    have HGX:=jg (HFR.out.trans (Fr.of (X:=[c.g]) hg (fun k hk=>by cases hk;simp)) (fun i hi=>by simp at hi;simp [hi]))
    clear hg hr HW
    rw [ho] at HX
    simp only [bnd] at HX
    clear ho
    unfold cm
    go_wp2_with fail
    rw [<-HX.out]
    exact ⟨HGX.out,rfl⟩
   ·change aM c.line.size [bAs] ts1=_ at ho
    rw [ho] at HX
    simp only [bnd] at HX
    have HGX:=jg (HFR.out.trans (Fr.of (X:=[c.g]) hg (fun k hk=>by cases hk;simp)) (fun i hi=>by simp at hi;simp [hi]))
    have HS6:=jg (jj.go hb HQG.out HS.out hg hp)
    have HL2:=jg (er ho (by decide))
    clear hg hr HW hp ho HS HFR d2 hl2
    have hl2:=HS6.out.2.2.1.lt
    have d2:=HS6.out.2.2.1.c 0 rfl
    go_wp2_with fail
    refine (fG c ts2 w6 HS6.out.1).mono ?_
    intro e w7 hr
    rcases hr.el with ⟨n,ho,rfl,hg⟩ | ⟨x,ts3,ho,rfl,hg,hp⟩
    ·have HGY:=jg (HGX.out.trans (Fr.of (X:=[c.g]) hg (fun k hk=>by cases hk;simp)) (fun i hi=>by simp at hi;simp [hi]))
     clear hg hr
     rw [ho] at HX
     simp only [bnd] at HX
     clear ho
     unfold cm
     go_wp2_with fail
     rw [<-HX.out]
     exact ⟨HGY.out,rfl⟩
    ·rw [ho] at HX
     simp only [bnd] at HX
     have HGY:=jg (HGX.out.trans (Fr.of (X:=[c.g]) hg (fun k hk=>by cases hk;simp)) (fun i hi=>by simp at hi;simp [hi]))
     have HS7:=jg (jj.go hb HQG.out HS6.out hg hp)
     have HL3:=jg (fz ho)
     clear hg hr hp ho
     go_wp2_with fail
     go_ret
     rw [<-HX.out]
     exact ⟨HGY.out,rfl,some gg,⟨HS7.out,by have:=HBD.out;have:=HL1.out;have:=HL2.out;have:=HL3.out;simp;omega⟩,HRR.out⟩
theorem yf (a:Array Value) (W:World):(callFunc 178 a).run Tryz.prog W=.ok (.enter 178 a) W:=eP Tryz.func178 (by kernel_rfl) (by rfl) a W
theorem xi {f1:List Tk->Except Nat (ByteArray × List Tk)} (hlen:∀ ts y ts',f1 ts=.ok (y,ts')->ts'.length<=ts.length) {E:Nat} {ts ts':List Tk} {x:ByteArray × ByteArray} (h:kF f1 E ts=.ok (x,ts')):ts'.length<=ts.length:=
 cd h (fun y ts1 h=>hlen _ _ _ h) (fun y ts1 ts2 h=>cd h (fun y ts1 h=>by have:=er h (by decide);omega) (fun y ts1 ts2 h=>cd h (fun y ts1 h=>fz h) (fun y ts1 ts2 h=>by cases h;exact lR)))
def EW (c:LC) (Q:World->Prop) (w:World) (o:Except Nat (List (ByteArray × ByteArray) × List Tk)) (e:Ending) (w':World):Prop:=w.grownBy w' (some c.g)/\match o with
 | .ok (l,ts')=>∃ v1 v2,e=.returned (.tuple #[v1,v2])/\w'.ownsRow w.heap.size 9 1 v1 l.length ((l.map (·.2)).flatMap bC)/\w'.ownsRow w.heap.size 9 1 v2 l.length (l.flatMap fun p=>bC p.1)/\PJ c w' ts'/\Q w'
 | .error n=>e=cm n
theorem qP (c:LC) (Q:World->Prop) (fn1:Nat) (first1 cp1:Array Value) (f1:List Tk->Except Nat (ByteArray × List Tk)) (hent:∀ (a:Array Value) (W:World),(callFunc fn1 a).run Tryz.prog W=.ok (.enter fn1 a) W)
 (hone:∀ ts W,Q W->PJ c W ts->Calls Tryz.prog fn1 (first1++cp1) W (RP c W (f1 ts) Value.string)) (hlen:∀ ts y ts',f1 ts=.ok (y,ts')->ts'.length<=ts.length)
 (ts:List Tk) (w:World) (hQg:∀ W W',Q W->W.grownBy W' (some c.g)->Q W') (hQf:∀ W W' k,Q W->W.grownBy W' k->(∀ j,k=some j->w.heap.size<=j)->Q W') (hQ:Q w) (h:PJ c w ts) :
 Calls Tryz.prog 140 #[.pointer (some ⟨c.g,0,none⟩),.func (.func fn1) first1 cp1] w (EW c Q w (bg c.line.size (kF f1 c.line.size) dw ts)):=by
 have hgl:=h.lt
 have hmf:=ff
 have hB3:Below w.heap.size w (((w.alloc (.cells #[.pointer (some ⟨c.g,0,none⟩)] 82)).alloc (.cells #[.func (.func fn1) first1 cp1] 71)).alloc (.cells #[.slice none 0 0] 40)):=((ae w _).alloc (by simp) _).alloc (by simp;omega) _
 have o2:=((aD.new w 82 1 #[.pointer (some ⟨c.g,0,none⟩)] rfl).later (ae (w.alloc (.cells #[.pointer (some ⟨c.g,0,none⟩)] 82)) (.cells #[.func (.func fn1) first1 cp1] 71))).later (ae ((w.alloc (.cells #[.pointer (some ⟨c.g,0,none⟩)] 82)).alloc (.cells #[.func (.func fn1) first1 cp1] 71)) (.cells #[.slice none 0 0] 40))
 have o3:=(aD.new (w.alloc (.cells #[.pointer (some ⟨c.g,0,none⟩)] 82)) 71 1 #[.func (.func fn1) first1 cp1] rfl).later (ae ((w.alloc (.cells #[.pointer (some ⟨c.g,0,none⟩)] 82)).alloc (.cells #[.func (.func fn1) first1 cp1] 71)) (.cells #[.slice none 0 0] 40))
 have o6:=aD.new ((w.alloc (.cells #[.pointer (some ⟨c.g,0,none⟩)] 82)).alloc (.cells #[.func (.func fn1) first1 cp1] 71)) 40 1 #[.slice none 0 0] rfl
 rw [show (w.alloc (.cells #[.pointer (some ⟨c.g,0,none⟩)] 82)).heap.size=w.heap.size+1 from by simp] at o3
 rw [show ((w.alloc (.cells #[.pointer (some ⟨c.g,0,none⟩)] 82)).alloc (.cells #[.func (.func fn1) first1 cp1] 71)).heap.size=w.heap.size+2 from by simp] at o6
 have hS:Bj c Q (.func (.func fn1) first1 cp1) w.heap.size (w.heap.size+1) (w.heap.size+2) ts [] none (((w.alloc (.cells #[.pointer (some ⟨c.g,0,none⟩)] 82)).alloc (.cells #[.func (.func fn1) first1 cp1] 71)).alloc (.cells #[.slice none 0 0] 40)):=⟨⟨h.later hB3,hQf _ _ none hQ (aj hB3) (fun j hj=>by cases hj),o2,o3,_,o6,World.ownsRow_nil _ _ _ _,rfl⟩,by have:=h.len;simpa using this⟩
 have hb:c.g<w.heap.size/\w.heap.size<w.heap.size+1/\w.heap.size+1<w.heap.size+2:=by omega
 have HLS:=jg (gp .s c [w.heap.size+2] (w.heap.size+2+1) 178 #[] #[.pointer (some ⟨w.heap.size+2,0,none⟩),.pointer (some ⟨w.heap.size+1,0,none⟩),.pointer (some ⟨w.heap.size,0,none⟩)] (Bj c Q (.func (.func fn1) first1 cp1) w.heap.size (w.heap.size+1) (w.heap.size+2)) (Bj.side hb hQg hQf) (kF f1 c.line.size) (fun ts x ts' h=>xi hlen h) dw mL yf (fun ts acc r W h=>pE c Q _ _ _ fn1 first1 cp1 hb hQg hQf f1 hent hone hlen ts acc r W h) ts [] none (((w.alloc (.cells #[.pointer (some ⟨c.g,0,none⟩)] 82)).alloc (.cells #[.func (.func fn1) first1 cp1] 71)).alloc (.cells #[.slice none 0 0] 40)) hS)
 unfold dw at HLS
 have HB3:=jg hB3
 clear hS o2 o3 o6 h hQ hone hB3
 go_in
 go_wp2_with fail
 refine HLS.out.mono ?_
 intro e w5 hr
 obtain ⟨hfr,hr⟩:=hr
 rw [show (⟨#[44]⟩:ByteArray)=dw from rfl] at hr
 have HG:Hid (w.grownBy w5 (some c.g)):=⟨hfr.os.trans HB3.out.os,hfr.tape.trans HB3.out.tape,hfr.output.trans HB3.out.output,Nat.le_trans HB3.out.size hfr.size,fun k hk hne=>(hfr.block k (by have:=HB3.out.size;omega) (by simp;exact ⟨fun e=>hne (by rw [e]),by omega⟩)).trans (HB3.out.block k hk)⟩
 have HSZ:=jg HB3.out.size
 clear hfr HLS HB3
 cases ho:bg c.line.size (kF f1 c.line.size) dw ts with
 | error n=>
  rw [ho] at hr
  simp only at hr
  subst hr
  have HO:=jg ho
  clear ho
  unfold cm
  go_wp2_with fail
  exact ⟨HG.out,rfl⟩
 | ok p=>
  obtain ⟨l,ts3⟩:=p
  rw [ho] at hr
  obtain ⟨v2,r',he,how,⟨⟨hp,hq,-,-,v1,ho6,hrow,-⟩,-⟩,-⟩:=hr
  subst he
  have HO:=jg ho
  have HP:=jg hp
  have HQ:=jg hq
  have HR2:=jg (how.mono HSZ.out)
  have HR1:Hid (w5.ownsRow w.heap.size 9 1 v1 l.length ((l.map (·.2)).flatMap bC)):=by
   have:=hrow.mono (show w.heap.size<=w.heap.size+2+1 by omega)
   unfold Hid
   simpa using this
  have d6:=ho6.c 0 rfl
  have hl6:=ho6.lt
  clear ho how hp hq ho6 hrow
  go_wp2_with fail
  refine bodyPost_ret (v:=.tuple #[v1,v2]) (by simp [results,Tryz.results140,go_sem]) rfl ?_
  rw [HO.out]
  exact ⟨HG.out,v1,v2,rfl,HR1.out,HR2.out,HP.out,HQ.out⟩
end Go.Proofs.YtiiliobffnhpmaaGreatDoor.Jp
