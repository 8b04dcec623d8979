import Derived.Test.YtiiliobffnhpmaaGreatDoorGal
set_option linter.all false
set_option maxRecDepth 100000
set_option maxHeartbeats 4000000
namespace Go.Proofs.YtiiliobffnhpmaaGreatDoor
namespace Jp
variable {P:Program} {ops:Array Oper} {Q:Exit->Act->World->Prop} {md:Region.Mode} {S:World->Prop}
theorem tk (i:Nat) (v:Value) {oi:Oper} {fuel:Nat} {listed:Array Bool} {a:Act} {w:World} (hi:ops[i]?=some oi) (hk:(Region.noSelect ops&&(Region.free md ops listed i&&(Region.ready md ops listed).contains i))=true) (hw:Region.wanted oi (yielded ops a.tmps)=true) (hQ:∀ c a w,Q (.panic c) (a.put oi.dst v) w->Q (.panic c) a w) (hS:S w) (hy:∀ W,S W->(execOp a.eval oi).run P W=.ok (.value v) W)
 (h:Go.wpAnyH P md ops Q S fuel (listed.setIfInBounds i true) (a.put oi.dst v) w):Go.wpAnyH P md ops Q S (fuel+1) listed a w:=by
 simp only [Bool.and_eq_true] at hk
 exact Go.wpAnyH_take hi hk.1 hk.2.1 hk.2.2 hQ (.inl ⟨hw,hy⟩) hS h
theorem bH (i:Nat) {o:Oper} {fuel:Nat} {listed:Array Bool} {a:Act} {w:World} (hr:Region.ready md ops listed=[i]) (ho:ops[i]?=some o) (h:∀ K':Act->World->Prop,(∀ a w,(S w/\Go.wpAnyH P md ops Q S fuel (listed.setIfInBounds i true) a w)->K' a w)->if Region.wanted o (yielded ops a.tmps)=true then Oper.wp P o a w K' Q else K' (a.put o.dst undef) w):Go.wpAnyH P md ops Q S (fuel+1) listed a w:=
 Go.wpAnyH_all hr (by simp) (fun j hj=>by rw [List.mem_singleton] at hj;subst hj;exact wpOp_step ho h)
end Jp
namespace Jp
open Go.RowKit
def rY (n:Nat):Value:=.iface 132 (.agg #[.iface 37 (.int .i64 n)])
def cm (n:Nat):Ending:=.panicked [{ v:=rY n,recovered:=false }]
structure LC where
 w0:World
 g:Nat
 line:ByteArray
 aN:Option Addr
 nN:Nat
 cN:Nat
def BM (E:Nat) (ts:List Tk):Prop:=ts.Pairwise (fun a b=>a.pl+a.tx.size<=b.pl)/\∀ t∈ts,t.pl+t.tx.size<=E
theorem BM.tail {E:Nat} {t:Tk} {ts:List Tk} (h:BM E (t::ts)):BM E ts:=⟨(List.pairwise_cons.1 h.1).2,fun x hx=>h.2 x (by simp [hx])⟩
def PJ (c:LC) (W:World) (ts:List Tk):Prop:=Below c.g c.w0 W/\∃ b off cap,aD W c.g 84 3 [.string c.line,.slice (some ⟨b,off,none⟩) (ts.length+1) cap,.slice c.aN c.nN c.cN]/\b<c.g/\ts.length+1<=cap/\cap<=maxLen/\jG c.w0 b off (ts++[⟨c.line.size,0,⟨#[]⟩⟩])/\(∀ t∈ts,t.kd≠0/\t.tx.size≠0/\t.tx.size<=3000)/\ts.length<=3000/\c.g=c.w0.heap.size/\BM c.line.size ts
theorem PJ.bel {c:LC} {W:World} {ts:List Tk} (h:PJ c W ts):Below c.w0.heap.size c.w0 W:=by obtain ⟨h0,b,off,cap,h1,h2,h3,h4,h5,h6,h7,h8⟩:=h;rw [<-h8.1];exact h0
theorem PJ.ge {c:LC} {W:World} {ts:List Tk} (h:PJ c W ts):c.g=c.w0.heap.size:=by obtain ⟨h0,b,off,cap,h1,h2,h3,h4,h5,h6,h7,h8⟩:=h;exact h8.1
theorem PJ.asc {c:LC} {W:World} {ts:List Tk} (h:PJ c W ts):BM c.line.size ts:=by obtain ⟨h0,b,off,cap,h1,h2,h3,h4,h5,h6,h7,h8⟩:=h;exact h8.2
theorem PJ.len {c:LC} {W:World} {ts:List Tk} (h:PJ c W ts):ts.length<=3000:=by obtain ⟨h0,b,off,cap,h1,h2,h3,h4,h5,h6,h7,h8⟩:=h;exact h7
theorem PJ.kd {c:LC} {W:World} {ts:List Tk} (h:PJ c W ts):∀ t∈ts,t.kd≠0/\t.tx.size≠0/\t.tx.size<=3000:=by obtain ⟨h0,b,off,cap,h1,h2,h3,h4,h5,h6,h7,h8⟩:=h;exact h6
theorem PJ.hsz {c:LC} {W:World} {ts:List Tk} (h:PJ c W ts):(hd c.line.size ts).tx.size<=3000:=by
 obtain ⟨h0,b,off,cap,h1,h2,h3,h4,h5,h6,h7,h8⟩:=h
 cases ts with
 | nil=>exact Nat.zero_le _
 | cons t ts=>exact (h6 t (by simp)).2.2
theorem jg {p:Prop} (h:p):Hid p:=h
theorem Ch {g:Nat} {w w':World} {r:Option Nat} (hg:w.grownBy w' r) (hs:g<=w.heap.size) (hr:∀ k,r=some k->g<=k):Below g w w':=
 ⟨hg.os,hg.tape,hg.output,hg.size,fun k hk=>hg.block k (by omega) (fun e=>by have:=hr k e.symm;omega)⟩
theorem PJ.lt {c:LC} {W:World} {ts:List Tk} (h:PJ c W ts):c.g<W.heap.size:=by obtain ⟨_,b,off,cap,h1,_⟩:=h;exact h1.lt
theorem PJ.grown {c:LC} {W W':World} {ts:List Tk} {r:Option Nat} (h:PJ c W ts) (hg:W.grownBy W' r) (hr:∀ k,r=some k->c.g<k):PJ c W' ts:=by
 have hl:=h.lt
 obtain ⟨h0,b,off,cap,h1,h2⟩:=h
 exact ⟨h0.trans (Ch hg (by omega) (fun k hk=>by have:=hr k hk;omega)),b,off,cap,h1.grown hg (fun e=>by have:=hr _ e.symm;omega),h2⟩
theorem PJ.later {c:LC} {W W':World} {ts:List Tk} (h:PJ c W ts) (hb:Below W.heap.size W W'):PJ c W' ts:=h.grown (r:=none) (aj hb) (fun k hk=>by cases hk)
theorem ET {g:Nat} {w w':World} {b off:Nat} {l:List Tk} (h:jG w b off l) (hb:Below g w w') (hbg:b<g):jG w' b off l:=fun i hi=>
 have ⟨h1,h2,h3⟩:=h i hi
 ⟨(World.cell?_of_block (hb.block b hbg)).trans h1,(World.cell?_of_block (hb.block b hbg)).trans h2,(World.cell?_of_block (hb.block b hbg)).trans h3⟩
theorem bK (c:LC) (ts:List Tk) (w:World) (h:PJ c w ts) :
 Calls Tryz.prog 131 #[.pointer (some ⟨c.g,0,none⟩)] w fun e w'=>e=.returned (eA (hd c.line.size ts))/\Below w.heap.size w w':=by
 obtain ⟨h0,b,off,cap,h1,h2,h3,h4,h5,h6⟩:=h
 have c0:=h1.c 1 rfl
 obtain ⟨d0,d1,d2⟩:=Bn (ET h5 h0 h2)
 have hgl:=h1.lt
 have hbl:b<w.heap.size:=by omega
 have hl:(0:Int)<(ts.length:Int)+1:=by omega
 generalize c.g=g at *
 clear h1 h5 h6 h0
 go_in
 go_wp2
 exact bodyPost_ret (v:=eA (hd c.line.size ts)) (by simp [results,Tryz.results131,go_sem];rfl) rfl ⟨rfl,ae _ _⟩
def mS (c:LC) (w:World) (ts:List Tk) (e:Ending) (w':World):Prop:=e=.returned (eA (hd c.line.size ts))/\w.grownBy w' (some c.g)/\PJ c w' ts.tail
theorem Dv {c:LC} {W:World} {t:Tk} {ts:List Tk} {b off cap:Nat} (h0:Below c.g c.w0 W) (h1:aD W c.g 84 3 [.string c.line,.slice (some ⟨b,off,none⟩) ((t::ts).length+1) cap,.slice c.aN c.nN c.cN]) (h2:b<c.g) (h3:(t::ts).length+1<=cap) (h4:cap<=maxLen) (h5:jG c.w0 b off (t::ts++[⟨c.line.size,0,⟨#[]⟩⟩])) (h6:(∀ t_1∈t::ts,t_1.kd≠0/\t_1.tx.size≠0/\t_1.tx.size<=3000)/\(t::ts).length<=3000/\c.g=c.w0.heap.size/\BM c.line.size (t::ts)) :
 PJ c (W.setCell ⟨c.g,1,none⟩ (.slice (some ⟨b,off+3,none⟩) (ts.length+1) (cap-1))) ts/\W.grownBy (W.setCell ⟨c.g,1,none⟩ (.slice (some ⟨b,off+3,none⟩) (ts.length+1) (cap-1))) (some c.g):=by
 obtain ⟨hOp,hgp⟩:=h1.put 1 (.slice (some ⟨b,off+3,none⟩) (ts.length+1) (cap-1))
 have:=h6.2.1
 simp at this h3
 exact ⟨⟨h0.trans (Ch hgp (Nat.le_of_lt h1.lt) (fun k hk=>by cases hk;exact lR)),b,off+3,cap-1,hOp,h2,by omega,by omega,jG.tail h5,fun t ht=>h6.1 t (by simp [ht]),by omega,h6.2.2.1,h6.2.2.2.tail⟩,hgp⟩
theorem bt (c:LC) (ts:List Tk) (w:World) (h:PJ c w ts) :
 Calls Tryz.prog 82 #[.pointer (some ⟨c.g,0,none⟩)] w (mS c w ts):=by
 have HP:=jg h
 have hgl:=h.lt
 have HN:Hid (∀ W,PJ c W ts->Calls Tryz.prog 131 #[.pointer (some ⟨c.g,0,none⟩)] W fun e w'=>e=.returned (eA (hd c.line.size ts))/\Below W.heap.size W w'):=fun W hW=>bK c ts W hW
 obtain ⟨g,HGE⟩:∃ g,Hid (g=c.g):=⟨_,rfl⟩
 rw [<-HGE.out] at HN hgl ⊢
 clear h
 go_in
 go_wp2_with fail
 refine (HN.out _ (HP.out.later (ae _ _))).mono ?_
 rintro e w1 ⟨rfl,hb⟩
 have hB:=(ae w _).trans (hb.mono (by simp))
 have hP1:=HP.out.later hB
 have HP1:=jg hP1
 have HB:=jg hB
 have hR:=(aD.new w 136 3 #[.int .i64 0,.int .i64 0,.string ⟨#[]⟩] rfl).later hb
 have q0:=hR.c 0 rfl
 have q1:=hR.c 1 rfl
 have q2:=hR.c 2 rfl
 have f0:=hR.soft 0
 have f1:=hR.soft 1
 have f2:=hR.soft 2
 have hwl:=hR.lt
 clear hb hB HP hR HN
 cases ts with
 | nil=>
  clear hP1
  simp only [hd,eA]
  go_wp2_with fail
  refine bodyPost_ret (v:=eA (hd c.line.size [])) (by simp [results,Tryz.results82,go_sem,q0,q1,q2,hwl];rfl) rfl ⟨rfl,?_,?_⟩
  ·refine bv (r':=none) ?_ (aj (ae _ _)) (fun k hk=>by cases hk)
   repeat (first | exact aj HB.out | refine bv ?_ (aK _ _ _) (fun k hk=>by cases hk;exact lR))
  ·refine PJ.later ?_ (ae _ _)
   repeat (first | exact HP1.out | refine PJ.grown ?_ (aK _ _ _) (fun k hk=>by cases hk;rw [<-HGE.out];exact hgl))
 | cons t ts=>
  obtain ⟨h0,b,off,cap,h1,h2,h3,h4,h5,h6⟩:=hP1
  have ht:=(h6.1 t (by simp)).1
  have HPUT:=jg (Dv h0 h1 h2 h3 h4 h5 h6)
  have c0:w1.cell? ⟨c.g,1,none⟩=some (.slice (some ⟨b,off,none⟩) (ts.length+2) cap):=h1.c 1 rfl
  have fg:=h1.soft 1
  rw [<-HGE.out] at c0 fg
  simp only [hd,eA]
  have hk:((t.kd:Int)==0)=false:=by rw [beq_eq_false_iff_ne];omega
  have hk2:((t.kd:Int) != 0)=true:=by rw [bne,hk];rfl
  have hsl:=kO b off (ts.length+2) cap (by omega) (by simp at h3;omega)
  have hsl2:=kX b off (ts.length+2) cap (by omega) (by simp at h3;omega)
  have hg1:g<w1.heap.size:=by omega
  have hb1:b<w1.heap.size:=by rw [<-HGE.out] at h2;omega
  have hbg:b≠g:=by rw [<-HGE.out] at h2;omega
  clear h1 h5 h6 HP1 ht h0 h2 h3 h4
  go_wp2_with fail
  rw [<-HGE.out] at HPUT
  refine bodyPost_ret (v:=eA t) (by simp [results,Tryz.results82,go_sem,q0,q1,q2,hwl,Nat.ne_of_lt hgl];rfl) rfl ⟨rfl,?_,?_⟩
  ·refine bv (r':=none) ?_ (aj (ae _ _)) (fun k hk=>by cases hk)
   rw [<-HGE.out]
   repeat (first | exact ai (aj HB.out) HPUT.out.2 | refine bv ?_ (aK _ _ _) (fun k hk=>by cases hk;exact lR))
  ·refine PJ.later ?_ (ae _ _)
   repeat (first | exact HPUT.out.1 | refine PJ.grown ?_ (aK _ _ _) (fun k hk=>by cases hk;rw [<-HGE.out];exact hgl))
theorem bf (n:Nat) (w:World):Calls Tryz.prog 32 #[.iface 37 (.int .i64 n)] w fun e w'=>e=cm n/\w'=w:=by
 go_in
 go_wp2_with fail
 exact ⟨rfl,rfl,rfl⟩
theorem kA (w:World):Calls Tryz.prog 32 #[.nilIface] w fun e w'=>e=.returned (.tuple #[])/\w'=w:=by
 go_in
 go_wp2_with fail
 go_end0
 exact ⟨rfl,rfl⟩
end Jp
namespace Jp
open Go.RowKit Oo
def RP {α:Type} (c:LC) (W:World) (o:Except Nat (α × List Tk)) (enc:α->Value) (e:Ending) (w':World):Prop:=W.grownBy w' (some c.g)/\match o with
 | .ok (x,ts)=>e=.returned (enc x)/\PJ c w' ts
 | .error n=>e=cm n
theorem RP.more {α:Type} {c:LC} {W0 W:World} {o:Except Nat (α × List Tk)} {enc:α->Value} {e:Ending} {w':World} (h:RP c W o enc e w') (hg:W0.grownBy W (some c.g)):RP c W0 o enc e w':=⟨ai hg h.1,h.2⟩
def nx (x:ByteArray) (l:List ByteArray):Bool:=l.any fun y=>decide (x=y)
theorem fq (x:ByteArray) (l:List ByteArray):nx x l=true↔x∈l:=by simp [nx]
def Dp:List ByteArray:=[⟨#[115,116,114,101,97,109]⟩,⟨#[115,105,110,107]⟩,⟨#[108,97,116,101]⟩,⟨#[119,104,101,114,101]⟩,⟨#[115,101,108,101,99,116]⟩,⟨#[98,121]⟩,⟨#[105,110]⟩,⟨#[103,105,118,101]⟩,⟨#[106,111,105,110]⟩,⟨#[111,117,116,101,114]⟩,⟨#[111,110]⟩,⟨#[117,110,105,111,110]⟩,⟨#[116,117,109,98,108,101]⟩,⟨#[115,108,105,100,101]⟩,⟨#[101,118,101,114,121]⟩,⟨#[115,101,115,115,105,111,110]⟩,⟨#[119,104,111,108,101]⟩,⟨#[110,111,116,104,105,110,103]⟩]
def pF (s:ByteArray):Bool:=nx s Dp
theorem fe (t:ByteArray) (w:World):Calls Tryz.prog 138 #[.string t] w fun e w'=>e=.returned (.bool (pF t))/\w'=w:=by
 go_in
 go_wp2
 all_goals go_ret
 all_goals simp_all [xl,pF,Dp,nx]
def cq (E:Nat) (x:ByteArray) (ts:List Tk):Bool × List Tk:=if (hd E ts).tx=x then (true,ts.tail) else (false,ts)
def ov (c:LC) (w:World) (x:ByteArray) (ts:List Tk) (e:Ending) (w':World):Prop:=e=.returned (.bool (cq c.line.size x ts).1)/\w.grownBy w' (some c.g)/\PJ c w' (cq c.line.size x ts).2
theorem jc (c:LC) (x:ByteArray) (ts:List Tk) (w:World) (h:PJ c w ts) :
 Calls Tryz.prog 76 #[.pointer (some ⟨c.g,0,none⟩),.string x] w (ov c w x ts):=by
 have HP:=jg h
 have HN:=jg (bK c ts w h)
 clear h
 go_in
 go_wp2_with fail
 refine HN.out.mono ?_
 rintro e w1 ⟨rfl,hb⟩
 have HP1:=jg (HP.out.later hb)
 have HB:=jg hb
 clear hb HN HP
 generalize hT:hd c.line.size ts=T at *
 have HT:=jg hT
 have HTK:=jg (bt c ts w1 HP1.out)
 clear hT
 have hf2:=pp
 simp only [eA]
 by_cases hx:T.tx=x
 ·have hq:=BO hx
  have HX:=jg hx
  clear hx
  go_wp2_with fail
  refine HTK.out.mono ?_
  rintro e w2 ⟨rfl,hg,hp⟩
  have HG:=jg hg
  have HP2:=jg hp
  clear hg hp HTK
  unfold eA
  go_wp2_with fail
  go_ret
  unfold ov cq
  rw [HT.out,if_pos HX.out]
  exact ⟨rfl,ai (aj HB.out) HG.out,HP2.out⟩
 ·have hq:=Cs hx
  have HX:=jg hx
  clear hx
  go_wp2_with fail
  go_ret
  unfold ov cq
  rw [HT.out,if_neg HX.out]
  exact ⟨rfl,aj HB.out,HP1.out⟩
theorem uS (l:List ByteArray) (a:Option Addr) (n cc:Nat) (x:ByteArray) (w:World) (hn:n=l.length) (hl:l.length<=4096) (h:bu w a l) :
 Calls Tryz.prog 144 #[.slice a n cc,.string x] w fun e w'=>∃ i:Int,e=.returned (.int .i64 i)/\w'=w/\(0<=i↔x∈l)/\-1<=i:=by
 subst hn
 have H:=jg h
 clear h
 go_in
 go_wp2
 go_loopw [8] (fun i w'=>∃ j:Nat,j<=l.length/\i=.int .i64 j/\w'=w/\x∉l.take j) (fun i _=>l.length-(intOf i).toNat)
 case atStart=>exact ⟨0,Nat.zero_le _,rfl,rfl,by simp⟩
 case round=>
  obtain ⟨j,hj,rfl,rfl,hno⟩:=hrel
  have HNO:=jg hno
  clear hno
  by_cases hlt:j<l.length
  ·have hji:(j:Int)<(l.length:Int):=by omega
   obtain ⟨bb,off,ha,e0⟩:=H.out j hlt
   subst ha
   generalize hK:l[j]=NM at *
   have HK:=jg hK
   clear hK
   by_cases hq:x=NM
   ·have hb:=BO hq
    have HQ:=jg hq
    clear hq
    go_wp2_with fail
    go_ret
    refine ⟨j,rfl,rfl,?_,by omega⟩
    rw [HQ.out,<-HK.out]
    exact ⟨fun _=>List.getElem_mem hlt,fun _=>by omega⟩
   ·have hb:=Cs hq
    have HQ:=jg hq
    clear hq
    go_wp2_with fail
    refine ⟨⟨j+1,by omega,by go_num,trivial,?_⟩,by simp [intOf];omega⟩
    rw [List.take_succ_eq_append_getElem hlt]
    intro hm
    rcases List.mem_append.1 hm with hm | hm
    ·exact HNO.out hm
    ·simp [HK.out] at hm;exact HQ.out hm
  ·have hji:¬ (j:Int)<(l.length:Int):=by omega
   go_wp2_with fail
   go_ret
   refine ⟨-1,rfl,rfl,⟨fun h=>absurd h (by decide),fun h=>?_⟩,by decide⟩
   have:=HNO.out
   rw [List.take_of_length_le (by omega)] at this
   exact absurd h this
theorem ow (l:List ByteArray) (a:Option Addr) (n cc:Nat) (x:ByteArray) (w:World) (hn:n=l.length) (hl:l.length<=4096) (h:bu w a l) :
 Calls Tryz.prog 83 #[.slice a n cc,.string x] w fun e w'=>e=.returned (.bool (nx x l))/\w'=w:=by
 have H:=jg (uS l a n cc x w hn hl h)
 clear h hn
 go_in
 go_wp2_with fail
 refine H.out.mono ?_
 rintro e w1 ⟨i,rfl,h1,h2,h3⟩
 have h1':=h1.symm
 subst h1'
 have HI:=jg h2
 clear h2 H h1
 by_cases h0:0<=i
 ·go_wp2_with fail
  go_ret
  rw [(fq x l).2 (HI.out.1 h0)]
  exact ⟨by simp [h0],rfl⟩
 ·go_wp2_with fail
  go_ret
  rw [show nx x l=false from Bool.eq_false_iff.2 (fun h=>by have:=HI.out.2 ((fq x l).1 h);omega)]
  exact ⟨by simp;omega,rfl⟩
def aM (E:Nat) (l:List ByteArray) (ts:List Tk):Except Nat (ByteArray × List Tk):=if nx (hd E ts).tx l=true then .ok ((hd E ts).tx,ts.tail) else .error 1
theorem gt (c:LC) (l:List ByteArray) (a:Option Addr) (n cc:Nat) (ts:List Tk) (w:World) (hn:n=l.length) (hl:l.length<=4096) (hs:bu w a l) (ha:∀ b off,a=some ⟨b,off,none⟩->c.g<b) (h:PJ c w ts) :
 Calls Tryz.prog 34 #[.pointer (some ⟨c.g,0,none⟩),.slice a n cc] w (RP c w (aM c.line.size l ts) Value.string):=by
 have HTK:=jg (bt c ts w h)
 have HS:=jg hs
 have HA:=jg ha
 have HE:=jg hn
 have hgl:=h.lt
 clear hs ha h hn
 go_in
 go_wp2_with fail
 refine HTK.out.mono ?_
 rintro e w1 ⟨rfl,hg,hp⟩
 have HG:=jg hg
 have HP1:=jg hp
 generalize hT:hd c.line.size ts=T at *
 have HT:=jg hT
 have HS1:Hid (bu w1 a l):=fun i hi=>by
  obtain ⟨b,off,e,h1⟩:=HS.out i hi
  exact ⟨b,off,e,HG.out.cell h1 (fun e2=>by have:=HA.out b off e;have:=sI e2;simp only at this;omega)⟩
 clear hg hp hT HTK
 simp only [eA]
 go_wp2_with fail
 refine (ow l a n cc T.tx _ HE.out hl (HS1.out.later (ae _ _))).mono ?_
 rintro e w2 ⟨rfl,h2⟩
 have h2':=h2.symm
 subst h2'
 clear h2
 by_cases hx:nx T.tx l=true
 ·rw [hx]
  have HX:=jg hx
  clear hx
  go_wp2_with fail
  go_ret
  unfold aM
  rw [HT.out,if_pos HX.out]
  exact ⟨ai HG.out (aj (ae _ _)),rfl,HP1.out.later (ae _ _)⟩
 ·rw [Bool.eq_false_iff.2 hx]
  have HX:=jg hx
  clear hx
  go_wp2_with fail
  refine (bf 1 _).mono ?_
  rintro e w3 ⟨rfl,h3⟩
  have h3':=h3.symm
  subst h3'
  unfold cm
  go_wp2_with fail
  unfold aM
  rw [HT.out,if_neg HX.out]
  first | exact ⟨rfl,ai HG.out (aj (ae _ _)),rfl⟩ | exact ⟨ai HG.out (aj (ae _ _)),rfl⟩
attribute [local go_sem] an
def bm (E:Nat) (ts:List Tk):Except Nat (ByteArray × List Tk):=if (hd E ts).kd=1/\12<(hd E ts).tx.size then .error 4 else if pg (hd E ts).tx=true/\pF (hd E ts).tx=false then .ok ((hd E ts).tx,ts.tail) else .error 1
theorem fG (c:LC) (ts:List Tk) (w:World) (h:PJ c w ts) :
 Calls Tryz.prog 79 #[.pointer (some ⟨c.g,0,none⟩)] w (RP c w (bm c.line.size ts) Value.string):=by
 have HTK:=jg (bt c ts w h)
 have hz:=h.hsz
 clear h
 go_in
 go_wp2_with fail
 refine HTK.out.mono ?_
 rintro e w1 ⟨rfl,hg,hp⟩
 have HG:=jg hg
 have HP1:=jg hp
 generalize hT:hd c.line.size ts=T at *
 have HT:=jg hT
 have HNM:Hid (∀ W,Calls Tryz.prog 137 #[.string T.tx] W fun e w'=>e=.returned (.bool (pg T.tx))/\w'=W):=fun W=>rB T.tx W (by omega)
 have HRS:Hid (∀ W,Calls Tryz.prog 138 #[.string T.tx] W fun e w'=>e=.returned (.bool (pF T.tx))/\w'=W):=fun W=>fe T.tx W
 have HGR:Hid (∀ o,w.grownBy (w1.alloc o) (some c.g)/\PJ c (w1.alloc o) ts.tail):=fun o=>⟨ai HG.out (aj (ae _ _)),HP1.out.later (ae _ _)⟩
 clear hg hp HTK HG HP1 hT
 simp only [eA]
 by_cases hb:T.kd=1/\12<T.tx.size
 ·have HR:Hid (bm c.line.size ts=.error 4):=by unfold bm Hid;rw [HT.out,if_pos hb]
  have hk:((T.kd:Int)==1)=true:=by rw [hb.1];rfl
  have hs:(12:Int)<(T.tx.size:Int):=by omega
  have hs2:decide ((T.tx.size:Int) > 12)=true:=by simp;omega
  obtain ⟨K,hK⟩:∃ K:Int,K=(T.kd:Int):=⟨_,rfl⟩
  rw [<-hK] at hk ⊢
  clear hb hK
  go_wp2_with fail
  refine (bf 4 _).mono ?_
  rintro e w3 ⟨rfl,h3⟩
  have h3':=h3.symm
  subst h3'
  unfold cm
  go_wp2_with fail
  rw [HR.out]
  exact ⟨(HGR.out _).1,rfl⟩
 ·have HR:Hid (bm c.line.size ts=if pg T.tx=true/\pF T.tx=false then .ok (T.tx,ts.tail) else .error 1):=by unfold bm Hid;rw [HT.out,if_neg hb]
  have hgd:((((T.kd:Int)==1)&&decide ((T.tx.size:Int) > 12)))=false:=by
   rw [Bool.and_eq_false_iff]
   by_cases h1:T.kd=1
   ·right;simp;omega
   ·left;rw [beq_eq_false_iff_ne];omega
  have hk:((T.kd:Int)==1)=false\/(((T.kd:Int)==1)=true/\¬ (12:Int)<(T.tx.size:Int)/\decide ((T.tx.size:Int) > 12)=false):=by
   by_cases h1:T.kd=1
   ·right;refine ⟨by rw [h1];rfl,by omega,by simp;omega⟩
   ·left;rw [beq_eq_false_iff_ne];omega
  clear hb hgd
  generalize hN:pg T.tx=N at *
  generalize hR:pF T.tx=R at *
  clear hN hR HT
  obtain ⟨K,hK⟩:∃ K:Int,K=(T.kd:Int):=⟨_,rfl⟩
  rw [<-hK] at hk ⊢
  clear hK
  rcases hk with hk | ⟨hk,hs,hs2⟩
  all_goals
   go_wp2_with fail
   refine (HNM.out _).mono ?_
   rintro e w3 ⟨rfl,h3⟩
   have h3':=h3.symm
   subst h3'
   clear h3
   cases N
   ·go_wp2_with fail
    refine (bf 1 _).mono ?_
    rintro e w3 ⟨rfl,h3⟩
    have h3':=h3.symm
    subst h3'
    unfold cm
    go_wp2_with fail
    rw [HR.out,if_neg (by simp)]
    exact ⟨(HGR.out _).1,rfl⟩
   ·go_wp2_with fail
    refine (HRS.out _).mono ?_
    rintro e w3 ⟨rfl,h3⟩
    have h3':=h3.symm
    subst h3'
    clear h3
    cases R
    ·go_wp2_with fail
     go_ret
     rw [HR.out,if_pos (by simp)]
     exact ⟨(HGR.out _).1,rfl,(HGR.out _).2⟩
    ·go_wp2_with fail
     refine (bf 1 _).mono ?_
     rintro e w3 ⟨rfl,h3⟩
     have h3':=h3.symm
     subst h3'
     unfold cm
     go_wp2_with fail
     rw [HR.out,if_neg (by simp)]
     exact ⟨(HGR.out _).1,rfl⟩
end Jp
namespace Jp
open Go.RowKit Oo
attribute [local go_sem] an
def EF (W:World) (o:Option Int) (e:Ending) (w':World):Prop:=Below W.heap.size W w'/\match o with
 | some n=>∃ k t,e=.returned (.tuple #[.agg #[.int .i64 k,.int .i64 n,.string t],.nilIface])
 | none=>∃ k n t ty v,e=.returned (.tuple #[.agg #[.int .i64 k,.int .i64 n,.string t],.iface ty v])
def EA (W:World) (o:Except Nat ByteArray) (e:Ending) (w':World):Prop:=Below W.heap.size W w'/\∃ pl:Int,match o with
 | .ok s=>e=.returned (.tuple #[.string s,.int .i64 pl,.nilIface])
 | .error n=>e=.returned (.tuple #[.string ⟨#[]⟩,.int .i64 pl,.iface 37 (.int .i64 n)])
structure Ah (c:LC) (rd:R1) (pf:P1):Prop where
 rd:∀ s W,s.size<=3000->Below c.w0.heap.size c.w0 W->Calls Tryz.prog 172 #[.string s] W (EF W (rd s))
 pr:∀ s W,s.size<=3000->Below c.w0.heap.size c.w0 W->Calls Tryz.prog 176 #[.string s] W (EA W (pf s))
 ps:∀ s t,pf s=.ok t->t.size<=1048576
def jW (rd:R1) (E:Nat) (ts:List Tk):Except Nat (Int × List Tk):=if (hd E ts).kd=2 then match rd (hd E ts).tx with
 | some n=>.ok (n,ts.tail)
 | none=>.error 1
 else .error 1
theorem jE {rd:R1} {pf:P1} (c:LC) (hE:Ah c rd pf) (ts:List Tk) (w:World) (h:PJ c w ts) :
 Calls Tryz.prog 135 #[.pointer (some ⟨c.g,0,none⟩)] w (RP c w (jW rd c.line.size ts) (Value.int .i64)):=by
 have HTK:=jg (bt c ts w h)
 have HE:=jg hE
 have hz:=h.hsz
 go_in
 go_wp2_with fail
 refine HTK.out.mono ?_
 rintro e w1 ⟨rfl,hg,hp⟩
 have HG:=jg hg
 have HP1:=jg hp
 generalize hT:hd c.line.size ts=T at *
 have HT:=jg hT
 have HRD:=jg (HE.out.rd T.tx (w1.alloc (.cells #[.int .i64 T.pl,.int .i64 T.kd,.string T.tx] 136)) hz (HP1.out.later (ae _ _)).bel)
 simp only [eA]
 go_wp2_with fail
 refine HRD.out.mono ?_
 rintro e w2 ⟨hb,hr⟩
 have HB:=jg ((ae w1 _).trans (hb.mono (by simp)))
 have hO:=(aD.new w1 136 3 #[.int .i64 T.pl,.int .i64 T.kd,.string T.tx] rfl).later hb
 have q1:=hO.c 1 rfl
 have hl1:=hO.lt
 have HGR:Hid (∀ o,w.grownBy (w2.alloc o) (some c.g)/\PJ c (w2.alloc o) ts.tail):=fun o=>⟨ai (ai HG.out (aj HB.out)) (aj (ae _ _)),(HP1.out.later HB.out).later (ae _ _)⟩
 by_cases hk:T.kd=2
 ·cases ho:rd T.tx with
  | some n=>
   rw [ho] at hr
   obtain ⟨k,t,rfl⟩:=hr
   have HR:Hid (jW rd c.line.size ts=.ok (n,ts.tail)):=by unfold jW Hid;rw [HT.out,if_pos hk,ho]
   have hk1:((T.kd:Int) != 2)=false:=by rw [hk];rfl
   have hk2:((T.kd:Int)==2)=true:=by rw [hk];rfl
   obtain ⟨K,hK⟩:∃ K:Int,K=(T.kd:Int):=⟨_,rfl⟩
   rw [<-hK] at hk1 hk2 q1 ⊢
   go_wp2_with fail
   go_ret
   rw [HR.out]
   exact ⟨(HGR.out _).1,rfl,(HGR.out _).2⟩
  | none=>
   rw [ho] at hr
   obtain ⟨k,n,t,ty,v,rfl⟩:=hr
   have HR:Hid (jW rd c.line.size ts=.error 1):=by unfold jW Hid;rw [HT.out,if_pos hk,ho]
   have hk1:((T.kd:Int) != 2)=false:=by rw [hk];rfl
   have hk2:((T.kd:Int)==2)=true:=by rw [hk];rfl
   obtain ⟨K,hK⟩:∃ K:Int,K=(T.kd:Int):=⟨_,rfl⟩
   rw [<-hK] at hk1 hk2 q1 ⊢
   go_wp2_with fail
   refine (bf 1 _).mono ?_
   rintro e w3 ⟨rfl,h3⟩
   have h3':=h3.symm
   subst h3'
   unfold cm
   go_wp2_with fail
   rw [HR.out]
   exact ⟨(HGR.out _).1,rfl⟩
 ·have HR:Hid (jW rd c.line.size ts=.error 1):=by unfold jW Hid;rw [HT.out,if_neg hk]
  have hk2:((T.kd:Int)==2)=false:=by rw [beq_eq_false_iff_ne];omega
  have hk1:((T.kd:Int) != 2)=true:=by rw [bne,hk2];rfl
  obtain ⟨k,n,t,ev,rfl⟩:∃ k n t ev,e=.returned (.tuple #[.agg #[.int .i64 k,.int .i64 n,.string t],ev]):=by
   cases ho:rd T.tx with
   | some n=>rw [ho] at hr;obtain ⟨k,t,rfl⟩:=hr;exact ⟨_,_,_,_,rfl⟩
   | none=>rw [ho] at hr;obtain ⟨k,n,t,ty,v,rfl⟩:=hr;exact ⟨_,_,_,_,rfl⟩
  obtain ⟨K,hK⟩:∃ K:Int,K=(T.kd:Int):=⟨_,rfl⟩
  rw [<-hK] at hk1 hk2 q1 ⊢
  go_wp2_with fail
  refine (bf 1 _).mono ?_
  rintro e w3 ⟨rfl,h3⟩
  have h3':=h3.symm
  subst h3'
  unfold cm
  go_wp2_with fail
  rw [HR.out]
  exact ⟨(HGR.out _).1,rfl⟩
theorem K9:Maps.Keyed Tryz.prog 9:=Maps.string_keyed Tryz.underlying9
noncomputable def sk:fa Tryz.prog 9 ByteArray:=CZ Tryz.underlying9
def WM (w:World) (b:Nat) (ws:List (ByteArray × Int)):Prop:=MP w sk b (ws.map fun p=>(p.1,Value.int .i64 p.2))
def lW (ws:List (ByteArray × Int)) (s:ByteArray):Option Int:=(ws.find? fun p=>decide (p.1=s)).map (·.2)
theorem qu (ws:List (ByteArray × Int)) (s:ByteArray):pU (ws.map fun p=>(p.1,Value.int .i64 p.2)) s=(lW ws s).map (Value.int .i64):=by
 unfold pU lW
 induction ws with
 | nil=>rfl
 | cons p l ih=>
  rw [List.map_cons,List.find?_cons,List.find?_cons]
  by_cases h:p.1=s
  ·simp [h]
  ·simp [h];simpa using ih
def nq (ws:List (ByteArray × Int)) (E:Nat) (ts:List Tk):Except Nat (Int × List Tk):=match lW ws (hd E ts).tx with
 | some n=>.ok (n,ts.tail)
 | none=>.error 1
theorem rh (c:LC) (ws:List (ByteArray × Int)) (b:Nat) (ts:List Tk) (w:World) (hm:WM w b ws) (hb:c.g≠b) (h:PJ c w ts) :
 Calls Tryz.prog 134 #[.pointer (some ⟨c.g,0,none⟩),.map (some b)] w (RP c w (nq ws c.line.size ts) (Value.int .i64)):=by
 have HTK:=jg (bt c ts w h)
 have hz:=h.hsz
 have HM:=jg hm
 have HB:=jg hb
 have hf2:=pp
 go_in
 go_wp2_with fail
 refine HTK.out.mono ?_
 rintro e w1 ⟨rfl,hg,hp⟩
 have HG:=jg hg
 have HP1:=jg hp
 generalize hT:hd c.line.size ts=T at *
 have HT:=jg hT
 have hlk:=MP.look (t:=160) (HM.out.kept hg (fun e=>HB.out (sI e).symm)) K9 Tryz.underlying160 (z:=.int .i64 0) (by first | exact Tryz.zero93 _ | rfl | kernel_rfl) T.tx (show T.tx.size<=maxLen by unfold maxLen;omega)
 rw [qu] at hlk
 simp only [eA]
 cases ho:lW ws T.tx with
 | some n=>
  have HR:Hid (nq ws c.line.size ts=.ok (n,ts.tail)):=by unfold nq Hid;rw [HT.out,ho]
  rw [ho] at hlk
  replace hlk:(Instr.lookup 160 (.map (some b)) (.string T.tx) true).run Tryz.prog w1=.ok (.tuple #[.int .i64 n,.bool true]) w1:=hlk
  go_wp2_with fail
  go_ret
  rw [HR.out]
  exact ⟨HG.out,rfl,HP1.out⟩
 | none=>
  have HR:Hid (nq ws c.line.size ts=.error 1):=by unfold nq Hid;rw [HT.out,ho]
  rw [ho] at hlk
  replace hlk:(Instr.lookup 160 (.map (some b)) (.string T.tx) true).run Tryz.prog w1=.ok (.tuple #[.int .i64 0,.bool false]) w1:=hlk
  go_wp2_with fail
  refine (bf 1 _).mono ?_
  rintro e w3 ⟨rfl,h3⟩
  have h3':=h3.symm
  subst h3'
  unfold cm
  go_wp2_with fail
  rw [HR.out]
  exact ⟨HG.out,rfl⟩
theorem lq (c:LC) (ws:List (ByteArray × Int)) (b:Nat) (ts:List Tk) (w:World) (hm:WM w b ws) (hb:c.g≠b) (h:PJ c w ts) :
 Calls Tryz.prog 214 #[.pointer (some ⟨c.g,0,none⟩),.map (some b)] w (RP c w (nq ws c.line.size ts) (Value.int .i64)):=by
 have HTK:=jg (bt c ts w h)
 have hz:=h.hsz
 have HM:=jg hm
 have HB:=jg hb
 have hf2:=pp
 go_in
 go_wp2_with fail
 refine HTK.out.mono ?_
 rintro e w1 ⟨rfl,hg,hp⟩
 have HG:=jg hg
 have HP1:=jg hp
 generalize hT:hd c.line.size ts=T at *
 have HT:=jg hT
 have hlk:=MP.look (t:=164) (HM.out.kept hg (fun e=>HB.out (sI e).symm)) K9 Tryz.underlying164 (z:=.int .i64 0) (by first | exact Tryz.zero3 _ | rfl | kernel_rfl) T.tx (show T.tx.size<=maxLen by unfold maxLen;omega)
 rw [qu] at hlk
 simp only [eA]
 cases ho:lW ws T.tx with
 | some n=>
  have HR:Hid (nq ws c.line.size ts=.ok (n,ts.tail)):=by unfold nq Hid;rw [HT.out,ho]
  rw [ho] at hlk
  replace hlk:(Instr.lookup 164 (.map (some b)) (.string T.tx) true).run Tryz.prog w1=.ok (.tuple #[.int .i64 n,.bool true]) w1:=hlk
  go_wp2_with fail
  go_ret
  rw [HR.out]
  exact ⟨HG.out,rfl,HP1.out⟩
 | none=>
  have HR:Hid (nq ws c.line.size ts=.error 1):=by unfold nq Hid;rw [HT.out,ho]
  rw [ho] at hlk
  replace hlk:(Instr.lookup 164 (.map (some b)) (.string T.tx) true).run Tryz.prog w1=.ok (.tuple #[.int .i64 0,.bool false]) w1:=hlk
  go_wp2_with fail
  refine (bf 1 _).mono ?_
  rintro e w3 ⟨rfl,h3⟩
  have h3':=h3.symm
  subst h3'
  unfold cm
  go_wp2_with fail
  rw [HR.out]
  exact ⟨HG.out,rfl⟩
theorem fT {w w':World} {b g:Nat} (h:w.mapTurned w' b) (hg:g<=b) (hs:g<=w.heap.size):Below g w w':=Ch h.grown hs (fun k hk=>by cases hk;exact hg)
def bF:List (ByteArray × Int):=[(⟨#[105,110,116]⟩,1),(⟨#[98,111,111,108]⟩,2),(⟨#[116,101,120,116]⟩,3)]
theorem gl (w:World):Calls Tryz.prog 107 #[] w fun e w'=>e=.returned (.map (some w.heap.size))/\WM w' w.heap.size bF/\Below w.heap.size w w':=by
 have hmm:=@run_makeMap Tryz.prog
 have hm0:=MP.made w sk
 have hb0:Below w.heap.size w (w.alloc (.map #[] 0)):=ae _ _
 obtain ⟨v1,r1,hm1,ht1⟩:=MP.store (t:=160) hm0 K9 Tryz.underlying160 (⟨#[105,110,116]⟩:ByteArray) (by show _<=maxLen;decide) (.int .i64 1) (by decide)
 replace r1:(Instr.mapUpdate 160 (.map (some w.heap.size)) (.string ⟨#[105,110,116]⟩) (.int .i64 1)).run Tryz.prog (w.alloc (.map #[] 0))=.ok () v1:=r1
 have hb1:=hb0.trans (fT ht1 lR hb0.size)
 obtain ⟨v2,r2,hm2,ht2⟩:=MP.store (t:=160) hm1 K9 Tryz.underlying160 (⟨#[98,111,111,108]⟩:ByteArray) (by show _<=maxLen;decide) (.int .i64 2) (by decide)
 replace r2:(Instr.mapUpdate 160 (.map (some w.heap.size)) (.string ⟨#[98,111,111,108]⟩) (.int .i64 2)).run Tryz.prog v1=.ok () v2:=r2
 have hb2:=hb1.trans (fT ht2 lR hb1.size)
 obtain ⟨v3,r3,hm3,ht3⟩:=MP.store (t:=160) hm2 K9 Tryz.underlying160 (⟨#[116,101,120,116]⟩:ByteArray) (by show _<=maxLen;decide) (.int .i64 3) (by decide)
 replace r3:(Instr.mapUpdate 160 (.map (some w.heap.size)) (.string ⟨#[116,101,120,116]⟩) (.int .i64 3)).run Tryz.prog v2=.ok () v3:=r3
 have hb3:=hb2.trans (fT ht3 lR hb2.size)
 have HM:=jg hm3
 have HB:=jg hb3
 go_in
 go_wp2
 go_ret
 exact ⟨rfl,HM.out,HB.out⟩
def bE:List (ByteArray × Int):=[(⟨#[116,117,109,98,108,101]⟩,1),(⟨#[115,108,105,100,101]⟩,2),(⟨#[115,101,115,115,105,111,110]⟩,3),(⟨#[119,104,111,108,101]⟩,4)]
theorem rQ (w:World):Calls Tryz.prog 111 #[] w fun e w'=>e=.returned (.map (some w.heap.size))/\WM w' w.heap.size bE/\Below w.heap.size w w':=by
 have hmm:=@run_makeMap Tryz.prog
 have hm0:=MP.made w sk
 have hb0:Below w.heap.size w (w.alloc (.map #[] 0)):=ae _ _
 obtain ⟨v1,r1,hm1,ht1⟩:=MP.store (t:=164) hm0 K9 Tryz.underlying164 (⟨#[116,117,109,98,108,101]⟩:ByteArray) (by show _<=maxLen;decide) (.int .i64 1) (by decide)
 replace r1:(Instr.mapUpdate 164 (.map (some w.heap.size)) (.string ⟨#[116,117,109,98,108,101]⟩) (.int .i64 1)).run Tryz.prog (w.alloc (.map #[] 0))=.ok () v1:=r1
 have hb1:=hb0.trans (fT ht1 lR hb0.size)
 obtain ⟨v2,r2,hm2,ht2⟩:=MP.store (t:=164) hm1 K9 Tryz.underlying164 (⟨#[115,108,105,100,101]⟩:ByteArray) (by show _<=maxLen;decide) (.int .i64 2) (by decide)
 replace r2:(Instr.mapUpdate 164 (.map (some w.heap.size)) (.string ⟨#[115,108,105,100,101]⟩) (.int .i64 2)).run Tryz.prog v1=.ok () v2:=r2
 have hb2:=hb1.trans (fT ht2 lR hb1.size)
 obtain ⟨v3,r3,hm3,ht3⟩:=MP.store (t:=164) hm2 K9 Tryz.underlying164 (⟨#[115,101,115,115,105,111,110]⟩:ByteArray) (by show _<=maxLen;decide) (.int .i64 3) (by decide)
 replace r3:(Instr.mapUpdate 164 (.map (some w.heap.size)) (.string ⟨#[115,101,115,115,105,111,110]⟩) (.int .i64 3)).run Tryz.prog v2=.ok () v3:=r3
 have hb3:=hb2.trans (fT ht3 lR hb2.size)
 obtain ⟨v4,r4,hm4,ht4⟩:=MP.store (t:=164) hm3 K9 Tryz.underlying164 (⟨#[119,104,111,108,101]⟩:ByteArray) (by show _<=maxLen;decide) (.int .i64 4) (by decide)
 replace r4:(Instr.mapUpdate 164 (.map (some w.heap.size)) (.string ⟨#[119,104,111,108,101]⟩) (.int .i64 4)).run Tryz.prog v3=.ok () v4:=r4
 have hb4:=hb3.trans (fT ht4 lR hb3.size)
 have HM:=jg hm4
 have HB:=jg hb4
 go_in
 go_wp2
 go_ret
 exact ⟨rfl,HM.out,HB.out⟩
def dh:List (ByteArray × Int):=[(⟨#[99,111,117,110,116]⟩,1),(⟨#[115,117,109]⟩,2),(⟨#[109,105,110]⟩,3),(⟨#[109,97,120]⟩,4),(⟨#[102,105,114,115,116]⟩,5),(⟨#[108,97,115,116]⟩,6),(⟨#[100,105,115,116,105,110,99,116]⟩,7)]
theorem pT (w:World):Calls Tryz.prog 168 #[] w fun e w'=>e=.returned (.map (some w.heap.size))/\WM w' w.heap.size dh/\Below w.heap.size w w':=by
 have hmm:=@run_makeMap Tryz.prog
 have hm0:=MP.made w sk
 have hb0:Below w.heap.size w (w.alloc (.map #[] 0)):=ae _ _
 obtain ⟨v1,r1,hm1,ht1⟩:=MP.store (t:=164) hm0 K9 Tryz.underlying164 (⟨#[99,111,117,110,116]⟩:ByteArray) (by show _<=maxLen;decide) (.int .i64 1) (by decide)
 replace r1:(Instr.mapUpdate 164 (.map (some w.heap.size)) (.string ⟨#[99,111,117,110,116]⟩) (.int .i64 1)).run Tryz.prog (w.alloc (.map #[] 0))=.ok () v1:=r1
 have hb1:=hb0.trans (fT ht1 lR hb0.size)
 obtain ⟨v2,r2,hm2,ht2⟩:=MP.store (t:=164) hm1 K9 Tryz.underlying164 (⟨#[115,117,109]⟩:ByteArray) (by show _<=maxLen;decide) (.int .i64 2) (by decide)
 replace r2:(Instr.mapUpdate 164 (.map (some w.heap.size)) (.string ⟨#[115,117,109]⟩) (.int .i64 2)).run Tryz.prog v1=.ok () v2:=r2
 have hb2:=hb1.trans (fT ht2 lR hb1.size)
 obtain ⟨v3,r3,hm3,ht3⟩:=MP.store (t:=164) hm2 K9 Tryz.underlying164 (⟨#[109,105,110]⟩:ByteArray) (by show _<=maxLen;decide) (.int .i64 3) (by decide)
 replace r3:(Instr.mapUpdate 164 (.map (some w.heap.size)) (.string ⟨#[109,105,110]⟩) (.int .i64 3)).run Tryz.prog v2=.ok () v3:=r3
 have hb3:=hb2.trans (fT ht3 lR hb2.size)
 obtain ⟨v4,r4,hm4,ht4⟩:=MP.store (t:=164) hm3 K9 Tryz.underlying164 (⟨#[109,97,120]⟩:ByteArray) (by show _<=maxLen;decide) (.int .i64 4) (by decide)
 replace r4:(Instr.mapUpdate 164 (.map (some w.heap.size)) (.string ⟨#[109,97,120]⟩) (.int .i64 4)).run Tryz.prog v3=.ok () v4:=r4
 have hb4:=hb3.trans (fT ht4 lR hb3.size)
 obtain ⟨v5,r5,hm5,ht5⟩:=MP.store (t:=164) hm4 K9 Tryz.underlying164 (⟨#[102,105,114,115,116]⟩:ByteArray) (by show _<=maxLen;decide) (.int .i64 5) (by decide)
 replace r5:(Instr.mapUpdate 164 (.map (some w.heap.size)) (.string ⟨#[102,105,114,115,116]⟩) (.int .i64 5)).run Tryz.prog v4=.ok () v5:=r5
 have hb5:=hb4.trans (fT ht5 lR hb4.size)
 obtain ⟨v6,r6,hm6,ht6⟩:=MP.store (t:=164) hm5 K9 Tryz.underlying164 (⟨#[108,97,115,116]⟩:ByteArray) (by show _<=maxLen;decide) (.int .i64 6) (by decide)
 replace r6:(Instr.mapUpdate 164 (.map (some w.heap.size)) (.string ⟨#[108,97,115,116]⟩) (.int .i64 6)).run Tryz.prog v5=.ok () v6:=r6
 have hb6:=hb5.trans (fT ht6 lR hb5.size)
 obtain ⟨v7,r7,hm7,ht7⟩:=MP.store (t:=164) hm6 K9 Tryz.underlying164 (⟨#[100,105,115,116,105,110,99,116]⟩:ByteArray) (by show _<=maxLen;decide) (.int .i64 7) (by decide)
 replace r7:(Instr.mapUpdate 164 (.map (some w.heap.size)) (.string ⟨#[100,105,115,116,105,110,99,116]⟩) (.int .i64 7)).run Tryz.prog v6=.ok () v7:=r7
 have hb7:=hb6.trans (fT ht7 lR hb6.size)
 have HM:=jg hm7
 have HB:=jg hb7
 go_in
 go_wp2
 go_ret
 exact ⟨rfl,HM.out,HB.out⟩
end Jp
namespace Jp
open Go.RowKit Oo
attribute [local go_sem] an
structure aJ where
 nm:ByteArray
 op:eJ
 ins:List Int
 cols:List Co
 bd:Int
structure bM where
 p:mY
 ia:Option Addr
 ic:Nat
 ka:Option Addr
 kc:Nat
def au (n:aJ) (q:bM):List Value:=[.string n.nm,.int .i64 n.op.k,.slice q.p.ea n.op.ex.length q.p.ec,.slice q.p.na n.op.nm.length q.p.nc,.slice q.p.ca n.op.c.length q.p.cc,.slice q.p.ra n.op.r.length q.p.rc,.slice q.p.ka n.op.ks.length q.p.kc,.slice q.p.oa n.op.os.length q.p.oc,.int .i64 n.op.wk,.int .i64 n.op.ws,.int .i64 n.op.wt,.slice q.p.ga n.op.ag.length q.p.gc,.bool n.op.ou,.slice q.ia n.ins.length q.ic,.slice q.ka n.cols.length q.kc,.int .i64 n.bd]
structure bw (w:World) (n:aJ) (q:bM):Prop where
 o:iw w n.op q.p
 i:aG w q.ia n.ins
 c:ap w q.ka n.cols
theorem bw.later {w wx:World} {n:aJ} {q:bM} (h:bw w n q) (hb:Below w.heap.size w wx):bw wx n q:=⟨h.o.later hb,h.i.later hb,h.c.later hb⟩
def eG (w:World) (a:Option Addr) (l:List aJ):Prop:=∀ i (h:i<l.length),∃ b off q,a=some ⟨b,off,none⟩/\(∀ j v,(au l[i] q)[j]?=some v->w.cell? ⟨b,off+i*16+j,none⟩=some v)/\bw w l[i] q
theorem eG.later {w wx:World} {a:Option Addr} {l:List aJ} (h:eG w a l) (hb:Below w.heap.size w wx):eG wx a l:=fun i hi=>by
 obtain ⟨b,off,q,h1,h2,h3⟩:=h i hi
 exact ⟨b,off,q,h1,fun j v hj=>af hb (h2 j v hj),h3.later hb⟩
def dN (l:List aJ) (s:ByteArray):Option Nat:=l.findIdx? fun n=>decide (n.nm=s)
theorem tJ (nm:ByteArray) (n:aJ) (q:bM) (b:Nat) (w:World) (h:w.cell? ⟨b,0,none⟩=some (.string nm)) :
 Calls Tryz.prog 146 #[.agg (au n q).toArray,.pointer (some ⟨b,0,none⟩)] w fun e w'=>e=.returned (.bool (decide (n.nm=nm)))/\Below w.heap.size w w':=by
 have hl:=bL h
 have hl2:=hl
 have hd:(n.nm.toList==nm.toList)=decide (n.nm=nm):=by
  by_cases e:n.nm=nm
  ·rw [BO e,decide_eq_true e]
  ·rw [Cs e,decide_eq_false e]
 obtain ⟨n2,hn2⟩:∃ n2,n2=n.nm:=⟨_,rfl⟩
 rw [<-hn2] at hd ⊢
 unfold au
 rw [<-hn2]
 clear hn2
 go_in
 go_wp2
 go_ret
 exact ⟨rfl,ae _ _⟩
theorem tH (nm:ByteArray) (a:Option Addr) (n c:Nat) (l:List aJ) (b:Nat) (w:World) (hn:n=l.length) (hc:eG w a l) (hm:l.length<=4096) (h:w.cell? ⟨b,0,none⟩=some (.string nm)) :
 Calls Tryz.prog 145 #[.slice a n c,.func (.func 146) #[] #[.pointer (some ⟨b,0,none⟩)]] w fun e w'=>e=.returned (.int .i64 (lN (dN l nm)))/\Below w.heap.size w w':=by
 subst hn
 have HC:=jg hc
 have HN:=jg h
 clear hc h
 go_in
 go_wp2
 go_loopw [8] (fun i w'=>∃ j:Nat,j<=l.length/\i=.int .i64 j/\Below w.heap.size w w'/\∀ m (hm:m<l.length),m<j->l[m].nm≠nm) (fun i _=>l.length-(intOf i).toNat)
 case atStart=>exact ⟨0,Nat.zero_le _,rfl,bR,fun m _ h=>absurd h (by omega)⟩
 case round=>
  obtain ⟨j,hj,rfl,hb,hno⟩:=hrel
  have HB:=jg hb
  have HNO:=jg hno
  clear hb hno
  by_cases hlt:j<l.length
  ·have hji:(j:Int)<(l.length:Int):=by omega
   obtain ⟨bb,off,q,ha,e0,-⟩:=(HC.out.later HB.out) j hlt
   subst ha
   have hF:=jg (tJ nm l[j] q b wr (af HB.out HN.out))
   unfold au at hF e0
   generalize hN:l[j]=N at *
   have HL:=jg hN
   clear hN
   have d0:wr.cell? ⟨bb,off+j*16,none⟩=some (.string N.nm):=e0 0 _ rfl
   have d1:=e0 1 _ rfl
   have d2:=e0 2 _ rfl
   have d3:=e0 3 _ rfl
   have d4:=e0 4 _ rfl
   have d5:=e0 5 _ rfl
   have d6:=e0 6 _ rfl
   have d7:=e0 7 _ rfl
   have d8:=e0 8 _ rfl
   have d9:=e0 9 _ rfl
   have d10:=e0 10 _ rfl
   have d11:=e0 11 _ rfl
   have d12:=e0 12 _ rfl
   have d13:=e0 13 _ rfl
   have d14:=e0 14 _ rfl
   have d15:=e0 15 _ rfl
   clear e0
   go_wp2_with fail
   refine hF.out.mono ?_
   rintro e w2 ⟨rfl,hb2⟩
   have HB2:=jg (HB.out.trans (hb2.mono HB.out.size))
   clear hb2 hF d0 d1 d2 d3 d4 d5 d6 d7 d8 d9 d10 d11 d12 d13 d14 d15
   by_cases hq:N.nm=nm
   ·have HIX:Hid (dN l nm=some j):=by
     unfold dN Hid
     rw [List.findIdx?_eq_some_iff_getElem]
     exact ⟨hlt,by simp [HL.out,hq],fun m hm=>by simp;exact HNO.out m (by omega) hm⟩
    rw [decide_eq_true hq]
    clear hq
    go_wp2_with fail
    go_ret
    rw [HIX.out]
    exact ⟨rfl,HB2.out⟩
   ·rw [decide_eq_false hq]
    have HQ:=jg hq
    clear hq
    go_wp2_with fail
    exact ⟨⟨j+1,by omega,by go_num,HB2.out,fun m hm hmj=>by
     rcases Nat.lt_or_ge m j with h | h
     ·exact HNO.out m hm h
     ·have:m=j:=by omega
      subst this
      rw [HL.out]
      exact HQ.out⟩,by simp [intOf];omega⟩
  ·have HIX:Hid (dN l nm=none):=by
    unfold dN Hid
    rw [List.findIdx?_eq_none_iff]
    intro x hx
    obtain ⟨m,hm,rfl⟩:=List.getElem_of_mem hx
    simp
    exact HNO.out m hm (by omega)
   have hji:¬ (j:Int)<(l.length:Int):=by omega
   go_wp2_with fail
   go_ret
   rw [HIX.out]
   exact ⟨rfl,HB.out⟩
theorem l6 (nm:ByteArray) (a:Option Addr) (n c:Nat) (l:List aJ) (w:World) (hn:n=l.length) (hc:eG w a l) (hm:l.length<=4096) :
 Calls Tryz.prog 84 #[.slice a n c,.string nm] w fun e w'=>e=.returned (.int .i64 (lN (dN l nm)))/\Below w.heap.size w w':=by
 have hmf:=ff
 have h0:(w.alloc (.cells #[.string nm] 9)).cell? ⟨w.heap.size,0,none⟩=some (.string nm):=by go_simp
 have HI:=jg (tH nm a n c l w.heap.size (w.alloc (.cells #[.string nm] 9)) hn (hc.later (ae _ _)) hm h0)
 clear hc hn h0
 go_in
 go_wp2_with fail
 refine HI.out.mono ?_
 rintro e w2 ⟨rfl,hb2⟩
 have HB2:=jg ((ae w _).trans (hb2.mono (by simp)))
 clear hb2 HI
 go_wp2_with fail
 go_ret
 exact ⟨rfl,HB2.out⟩
theorem qW {l:List aJ} {s:ByteArray} {i:Nat} (h:dN l s=some i):i<l.length:=by
 unfold dN at h
 rw [List.findIdx?_eq_some_iff_getElem] at h
 exact h.1
def lM (l:List aJ) (E:Nat) (ts:List Tk):Except Nat (Int × List Tk):=match bm E ts with
 | .error n=>.error n
 | .ok (s,ts')=>match dN l s with
  | none=>.error 2
  | some i=>if (l[i]?.map fun n=>n.op.k)=some 7 then .error 2 else .ok (i,ts')
end Jp
end Go.Proofs.YtiiliobffnhpmaaGreatDoor
