import Derived.Test.YtiiliobffnhpmaaGreatDoorGak
import Derived.Sort.AtCall
import Derived.Laws.CopyOwn
import Derived.Deep.AppendLies
import Derived.Deep.Upon
import Derived.Lib.SliceRun
set_option linter.all false
set_option maxRecDepth 100000
set_option maxHeartbeats 4000000
namespace Go.Proofs.YtiiliobffnhpmaaGreatDoor
namespace Wn
open Go.RowKit
structure Wn where
 a:Int
 b:Int
deriving DecidableEq
def wV (v:Wn):Value:=.agg #[.int .i64 v.a,.int .i64 v.b]
theorem af {w wx:World} {a:Addr} {v:Value} (hb:Below w.heap.size w wx) (h:w.cell? a=some v):wx.cell? a=some v:=(hb.cell (bL h)).trans h
theorem ae (w:World) (o1:Obj):Below w.heap.size w (w.alloc o1):=bR.alloc lR _
theorem EQ {x:Int} (h1:-9223372036854775808<=x) (h2:x<9223372036854775808):wrap64 x=x:=by
 unfold wrap64
 omega
theorem dV (n m:Int) (w:World):Calls Tryz.prog 252 #[.int .i64 n,.int .i64 m] w fun e w'=>e=.returned (.bool (decide (1<=n)&&decide (n<=m)))/\Below w.heap.size w w':=by
 go_in
 by_cases h1:1<=n
 ·have h1':decide (1<=n)=true:=by simpa using h1
  go_wp2
  go_ret
  refine ⟨?_,?_⟩
  ·simp [h1]
  ·exact bR
 ·have h1':decide (1<=n)=false:=by simpa using h1
  go_wp2
  go_ret
  refine ⟨?_,?_⟩
  ·simp [h1]
  ·exact bR
def validB (k s p:Int):Bool:=
 if k=1\/k=3 then (decide (1<=s)&&decide (s<=1048576))&&(p==0)
 else if k=2 then ((decide (1<=s)&&decide (s<=1048576))&&(decide (1<=p)&&decide (p<=s)))&&decide (s.tdiv p<=64)
 else if k=4 then (s==0)&&(p==0)
 else false
theorem vD (k s p:Int) (hk:k=1\/k=3) (w:World):Calls Tryz.prog 219 #[.agg #[.int .i64 k,.int .i64 s,.int .i64 p]] w fun e w'=>e=.returned (.bool (validB k s p))/\Below w.heap.size w w':=by
 have hv:Hid (validB k s p=((decide (1<=s)&&decide (s<=1048576))&&(p==0))):=by unfold Hid validB;rw [if_pos hk]
 rcases hk with rfl | rfl
 ·cases h1:(decide (1<=s)&&decide (s<=1048576)) <;>
  ·go_in
   go_wp2_with (go_at_call 252;refine (dV _ _ _).mono ?_;rw [h1];rintro e w' ⟨rfl,hb⟩;have hc:=af (a:=⟨w.heap.size,2,none⟩) (v:=.int .i64 p) hb (by go_simp))
   go_ret
   refine ⟨?_,?_⟩
   ·rw [hv.out,h1];try rfl
   ·exact (ae _ _).trans (hb.mono (by simp))
 ·cases h1:(decide (1<=s)&&decide (s<=1048576)) <;>
  ·go_in
   go_wp2_with (go_at_call 252;refine (dV _ _ _).mono ?_;rw [h1];rintro e w' ⟨rfl,hb⟩;have hc:=af (a:=⟨w.heap.size,2,none⟩) (v:=.int .i64 p) hb (by go_simp))
   go_ret
   refine ⟨?_,?_⟩
   ·rw [hv.out,h1];try rfl
   ·exact (ae _ _).trans (hb.mono (by simp))
theorem vb (s p:Int) (hs:(Lit.int .i64 s).wf=true) (w:World):Calls Tryz.prog 219 #[.agg #[.int .i64 2,.int .i64 s,.int .i64 p]] w fun e w'=>e=.returned (.bool (validB 2 s p))/\Below w.heap.size w w':=by
 have hv:Hid (validB 2 s p=(((decide (1<=s)&&decide (s<=1048576))&&(decide (1<=p)&&decide (p<=s)))&&decide (s.tdiv p<=64))):=by unfold Hid validB;rw [if_neg (by decide),if_pos rfl]
 cases h1:(decide (1<=s)&&decide (s<=1048576)) with
 | false=>
  go_in
  go_wp2_with (go_at_call 252;refine (dV _ _ _).mono ?_;rw [h1];rintro e w' ⟨rfl,hb⟩)
  go_ret
  exact ⟨by rw [hv.out,h1];rfl,(ae _ _).trans (hb.mono (by simp))⟩
 | true=>
  cases h2:(decide (1<=p)&&decide (p<=s)) with
  | false=>
   go_in
   go_wp2_with (first | (go_at_call_has 252 (1048576:Int);refine (dV _ _ _).mono ?_;rw [h1];rintro e w' ⟨rfl,hb⟩;have hc:=af (a:=⟨w.heap.size,2,none⟩) (v:=.int .i64 p) hb (by go_simp);have hd:=af (a:=⟨w.heap.size,1,none⟩) (v:=.int .i64 s) hb (by go_simp)) | (go_at_call 252;refine (dV _ _ _).mono ?_;rw [h2];rintro e w2 ⟨rfl,hb2⟩))
   go_ret
   exact ⟨by rw [hv.out,h1,h2];rfl,(ae _ _).trans ((hb.trans (hb2.mono hb.size)).mono (by simp))⟩
  | true=>
   have hp0:p≠0:=by
    intro e
    subst e
    simp at h2
   have hp:(p==0)=false:=by simpa using hp0
   have hq:wrap64 (s.tdiv p)=s.tdiv p:=by
    simp at h1 h2
    have:=Int.tdiv_le_self p (a:=s) (by omega)
    have h0:=Int.tdiv_nonneg (a:=s) (b:=p) (by omega) (by omega)
    exact EQ (by omega) (by omega)
   go_in
   go_wp2_with (first | (go_at_call_has 252 (1048576:Int);refine (dV _ _ _).mono ?_;rw [h1];rintro e w' ⟨rfl,hb⟩;have hc:=af (a:=⟨w.heap.size,2,none⟩) (v:=.int .i64 p) hb (by go_simp);have hd:=af (a:=⟨w.heap.size,1,none⟩) (v:=.int .i64 s) hb (by go_simp)) | (go_at_call 252;refine (dV _ _ _).mono ?_;rw [h2];rintro e w2 ⟨rfl,hb2⟩;have hc2:=af hb2 hc;have hd2:=af hb2 hd))
   go_ret
   exact ⟨by rw [hv.out,h1,h2];rfl,(ae _ _).trans ((hb.trans (hb2.mono hb.size)).mono (by simp))⟩
theorem ql (k s p:Int) (hk:¬ (k=1\/k=3)) (hk2:¬ k=2) (w:World):Calls Tryz.prog 219 #[.agg #[.int .i64 k,.int .i64 s,.int .i64 p]] w fun e w'=>e=.returned (.bool (validB k s p))/\Below w.heap.size w w':=by
 have e1:(k==1)=false:=by simp;omega
 have e3:(k==3)=false:=by simp;omega
 have e2:(k==2)=false:=by simp;omega
 by_cases h4:k=4
 ·subst h4
  have hv:Hid (validB 4 s p=((s==0)&&(p==0))):=rfl
  cases hs:(s==0) <;>
  ·go_in
   go_wp2
   go_ret
   exact ⟨by rw [hv.out,hs];rfl,ae _ _⟩
 ·have e4:(k==4)=false:=by simp;omega
  have hv:Hid (validB k s p=false):=by unfold Hid validB;rw [if_neg hk,if_neg hk2,if_neg h4]
  go_in
  go_wp2
  go_ret
  exact ⟨by rw [hv.out];rfl,ae _ _⟩
theorem valid_any (k s p:Int) (hs:(Lit.int .i64 s).wf=true) (w:World):Calls Tryz.prog 219 #[.agg #[.int .i64 k,.int .i64 s,.int .i64 p]] w fun e w'=>e=.returned (.bool (validB k s p))/\Below w.heap.size w w':=by
 by_cases h1:k=1\/k=3
 ·exact vD k s p h1 w
 by_cases h2:k=2
 ·rw [h2];exact vb s p hs w
 exact ql k s p h1 h2 w
end Wn
namespace Oo
open Go.RowKit
theorem aU {p:Prop} (h:p):Hid p:=h
structure Ag where
 k:Int
 at_:Int
def bu (w:World) (a:Option Addr) (l:List ByteArray):Prop:=∀ i (h:i<l.length),∃ b off,a=some ⟨b,off,none⟩/\w.cell? ⟨b,off+i,none⟩=some (.string l[i])
def aG (w:World) (a:Option Addr) (l:List Int):Prop:=∀ i (h:i<l.length),∃ b off,a=some ⟨b,off,none⟩/\w.cell? ⟨b,off+i,none⟩=some (.int .i64 l[i])
def eR (w:World) (a:Option Addr) (l:List Ag):Prop:=∀ i (h:i<l.length),∃ b off,a=some ⟨b,off,none⟩/\w.cell? ⟨b,off+i*2,none⟩=some (.int .i64 l[i].k)/\w.cell? ⟨b,off+i*2+1,none⟩=some (.int .i64 l[i].at_)
theorem bu.later {w wx:World} {a:Option Addr} {l:List ByteArray} (h:bu w a l) (hb:Below w.heap.size w wx):bu wx a l:=fun i hi=>by
 obtain ⟨b,off,e,h1⟩:=h i hi
 exact ⟨b,off,e,af hb h1⟩
theorem aG.later {w wx:World} {a:Option Addr} {l:List Int} (h:aG w a l) (hb:Below w.heap.size w wx):aG wx a l:=fun i hi=>by
 obtain ⟨b,off,e,h1⟩:=h i hi
 exact ⟨b,off,e,af hb h1⟩
theorem eR.later {w wx:World} {a:Option Addr} {l:List Ag} (h:eR w a l) (hb:Below w.heap.size w wx):eR wx a l:=fun i hi=>by
 obtain ⟨b,off,e,h1,h2⟩:=h i hi
 exact ⟨b,off,e,af hb h1,af hb h2⟩
def aR (o:Co):List Value:=[.string o.nm,.int .i64 o.k]
def ci (o:Ag):List Value:=[.int .i64 o.k,.int .i64 o.at_]
def bC (o:ByteArray):List Value:=[.string o]
def aT (o:Int):List Value:=[.int .i64 o]
theorem gW (v:Co):∀ u∈aR v,u.oneCell'=true:=by intro u hu;simp [aR] at hu;rcases hu with rfl | rfl<;>rfl
theorem dB (vs:List Co):(vs.flatMap aR).length=vs.length*2:=by
 induction vs with
 | nil=>rfl
 | cons a l ih=>rw [List.flatMap_cons,List.length_append,ih,List.length_cons];simp [aR];omega
theorem kI {w:World} {b off:Nat} {vs:List Co} (h:ap w (some ⟨b,off,none⟩) vs):∀ j u,(vs.flatMap aR)[j]?=some u->w.cell? ⟨b,off+j,none⟩=some u:=by
 intro j u hj
 have hlt:j<vs.length*2:=by
  have:=(List.getElem?_eq_some_iff.1 hj).1
  rwa [dB] at this
 have hi:j / 2<vs.length:=by omega
 have e:j=j / 2*2+j % 2:=by omega
 have hf:=eH aR 2 (fun _=>rfl) vs (j / 2) (j % 2) hi (by omega)
 rw [<-e,hj] at hf
 obtain ⟨b',off',e1,h1,h2⟩:=h (j / 2) hi
 cases e1
 have hm:j % 2=0\/j % 2=1:=by omega
 rw [show off+j=off+j / 2*2+j % 2 by omega]
 rcases hm with hm | hm
 ·rw [hm] at hf ⊢
  rw [hf];exact h1
 ·rw [hm] at hf ⊢
  rw [hf];exact h2
theorem uF:(Tryz.prog.info? 95).map (fun i=>(i.zero,i.size,i.bytes))=some (some (.agg #[.string ⟨#[]⟩,.int .i64 0]),2,24):=by kernel_rfl
theorem lS (a:Option Addr) (vs:List Co) (c:Nat) (w:World) (h:ap w a vs) (hl:vs.length<=5864062014805) :
 Calls Tryz.prog 86 #[.slice a vs.length c] w fun e w'=>∃ a' c',e=.returned (.slice a' vs.length c')/\w'.ownsRow w.heap.size 95 2 (.slice a' vs.length c') vs.length (vs.flatMap aR)/\Below w.heap.size w w':=by
 obtain ⟨i0,hi0,hz0,hz1,hz2⟩:=info_parts uF
 have q22:∀ (w:World) (a:Option Addr) (n c n' c':Nat),(binOp .eql 54 (.slice a n c) (.slice none n' c')).run Tryz.prog w=.ok (.bool a.isNone) w:=fun w a n c n' c'=>Lib.run_eql_slice_nil w _ _ a n c n' c' Tryz.underlying54
 cases a with
 | none=>
  have h0:vs=[]:=by
   cases vs with
   | nil=>rfl
   | cons v l=>obtain ⟨_,_,e,_⟩:=h 0 (by simp);cases e
  subst h0
  go_in
  go_wp2
  go_ret
  exact ⟨none,0,rfl,World.ownsRow_nil _ _ _ _,bR⟩
 | some ad=>
  have HV:=jg h
  go_in
  go_wp2_with (at_builtin;refine wpList_append_own_at _ rfl _ _ 54 rfl w.heap.size 95 i0 (.agg #[.string ⟨#[]⟩,.int .i64 0]) 2 24 Tryz.underlying54 hi0 hz0 hz1 hz2 rfl (by decide) _ 0 [] rfl (World.ownsRow_made w #[] 0 lR (Nat.zero_le _) (by simp)) ad vs.length c (vs.flatMap aR) rfl ?qc1 ?qc2 ?qc3 ?qc4 ?qc5 ?qc6 ?_)
  case qc1=>exact dB vs
  case qc2=>
   intro j u hj
   have hlt:=(List.getElem?_eq_some_iff.1 hj).1
   rw [dB] at hlt
   obtain ⟨b,off,e,-⟩:=HV.out 0 (by omega)
   cases e
   rw [WideShapes.add_plain]
   exact Lib.cell?_alloc_some _ (kI HV.out j u hj)
  case qc3=>intro u hu;obtain ⟨v,_,hu⟩:=List.mem_flatMap.1 hu;exact gW v u hu
  case qc4=>unfold maxLen;omega
  case qc5=>omega
  case qc6=>simp
  intro v' w1 hown hgrow hnil hat
  have hB:=((Below.refl _ w).alloc lR _).grown hgrow (by simp) (by intro k hk;simp [Value.ownBlock] at hk;omega)
  have hO:w1.ownsRow w.heap.size 95 2 v' vs.length (vs.flatMap aR):=by
   simpa using hown
  obtain ⟨a',c',rfl⟩:∃ a' c',v'=.slice a' vs.length c':=by
   rcases hO.2 with ⟨h1,h2⟩ | ⟨g,c,cur,h1,h2,h3,-⟩
   ·exact ⟨none,0,by rw [h1,h2]⟩
   ·exact ⟨_,_,h1⟩
  have HO:=jg hO
  go_wp2
  go_ret
  exact ⟨a',c',rfl,HO.out,hB⟩
theorem Bw:(Tryz.prog.info? 168).map (fun i=>(i.zero,i.size,i.bytes))=some (some (.agg #[.int .i64 0,.int .i64 0]),2,16):=by kernel_rfl
theorem rI:(Tryz.prog.info? 9).map (fun i=>(i.zero,i.size,i.bytes))=some (some (.string ⟨#[]⟩),1,16):=by kernel_rfl
theorem Dz:(Tryz.prog.info? 3).map (fun i=>(i.zero,i.size,i.bytes))=some (some (.int .i64 0),1,8):=by kernel_rfl
def OC (w:World) (B:Nat) (x:Value) (l:List Co):Prop:=w.ownsRow B 95 2 x l.length (l.flatMap aR)
theorem OC.later {w w':World} {B:Nat} {x:Value} {l:List Co} (h:OC w B x l) (hb:Below w.heap.size w w'):OC w' B x l:=aO h hb
theorem OC.nil (w:World) (B:Nat):OC w B (.slice none 0 0) []:=World.ownsRow_nil _ _ _ _
theorem OC.form {w:World} {B:Nat} {x:Value} {l:List Co} (h:OC w B x l):∃ a c,x=.slice a l.length c/\ap w a l/\∀ y,a=some y->B<=y.block/\y.block<w.heap.size:=by
 rcases h.2 with ⟨h1,h2⟩ | ⟨g,c,cur,h1,h2,h3,-⟩
 ·refine ⟨none,0,by rw [h1,h2],fun i hi=>absurd hi (by omega),fun y hy=>by cases hy⟩
 ·refine ⟨some ⟨g,0,none⟩,c,h1,fun i hi=>?_,fun y hy=>?_⟩
  ·rw [h1] at h
   have key:∀ j,j<2->w.cell? ⟨g,i*2+j,none⟩=(aR l[i])[j]?:=fun j hj=>by
    rw [World.ownsRow.cellAt h (i*2+j) (by omega),eH aR 2 (fun _=>rfl) l i j hi hj]
   exact ⟨g,0,rfl,by rw [Nat.zero_add];exact key 0 (by decide),by rw [Nat.zero_add];exact key 1 (by decide)⟩
  ·cases hy
   rcases Nat.lt_or_ge g w.heap.size with h | h
   ·exact ⟨h2,h⟩
   ·rw [Array.getElem?_eq_none h] at h3;cases h3
theorem Bk {w:World} {ops:Array Oper} {rest:List Oper} {o:Oper} {ac:Act} {Q:Exit->Act->World->Prop} (hgd:o.guard=none) (sx x:Operand) (ho:o.op=.call { callee:=.builtin .append,args:=#[sx,x],argTypes:=#[54,54] })
 (B:Nat) (v:Value) (s l:List Co) (a:Option Addr) (c:Nat) (hs:ac.eval sx=v) (hown:OC w B v s) (hx:ac.eval x=.slice a l.length c) (hl:ap w a l) (hm:s.length+l.length<=5864062014805) (hB:B<=w.heap.size)
 (h:∀ v' w',OC w' B v' (s++l)->w.grownBy w' v.ownBlock->wpList Tryz.prog ops Q rest (ac.put o.dst v') w'):wpList Tryz.prog ops Q (o::rest) ac w:=by
 obtain ⟨i0,hi0,hz0,hz1,hz2⟩:=info_parts uF
 cases a with
 | some ad=>
  refine wpList_append_own_at _ hgd sx x 54 ho B 95 i0 (.agg #[.string ⟨#[]⟩,.int .i64 0]) 2 24 Tryz.underlying54 hi0 hz0 hz1 hz2 rfl (by decide) v s.length (s.flatMap aR) hs hown ad l.length c (l.flatMap aR) hx (dB l) ?_ (fun u hu=>by obtain ⟨v,_,hu⟩:=List.mem_flatMap.1 hu;exact gW v u hu) (by unfold maxLen;omega) (by omega) hB ?_
  ·intro j u hj
   have hlt:=(List.getElem?_eq_some_iff.1 hj).1
   rw [dB] at hlt
   obtain ⟨b,off,e,-⟩:=hl 0 (by omega)
   cases e
   rw [WideShapes.add_plain]
   exact kI hl j u hj
  intro v' w' h1 h2 _ _
  refine h v' w' ?_ h2
  unfold OC
  rw [List.length_append,List.flatMap_append]
  exact h1
 | none=>
  have hl0:l=[]:=by
   cases l with
   | nil=>rfl
   | cons y r=>obtain ⟨b,off,e,-⟩:=hl 0 (by simp);cases e
  subst hl0
  obtain ⟨ao,cs,rfl,-⟩:=hown.form
  have hle:s.length<=cs:=by
   rcases hown.2 with ⟨h1,h2⟩ | ⟨g,cap,cur,h1,h2,h3,h4,-⟩
   ·simp at h1;omega
   ·simp at h1;omega
  refine wpList_plain hgd fun K hK=>?_
  have hr:=run_append_nothing (P:=Tryz.prog) w 54 54 o.type 95 i0 Tryz.underlying54 hi0 ao s.length cs hle (.slice none 0 c) (Src.ofNil w Tryz.underlying54 c)
  have hx':ac.eval x=.slice none 0 c:=hx
  unfold Oper.wp execOp
  simp only [ho,resolve,invoke,builtin,Sem.run_bind,Sem.run_pure,Result.andThen_ok,List.map_toArray,List.map_cons,List.map_nil,hs,hx',hr]
  refine hK _ _ (h _ w (by rw [List.append_nil];exact hown) ⟨rfl,rfl,rfl,lR,fun _ _ _=>rfl⟩)
structure eJ where
 k:Int
 ex:List ByteArray
 nm:List ByteArray
 c:List Co
 r:List Co
 ks:List Int
 os:List Int
 wk:Int
 ws:Int
 wt:Int
 ag:List Ag
 ou:Bool
structure mY where
 ea:Option Addr
 ec:Nat
 na:Option Addr
 nc:Nat
 ca:Option Addr
 cc:Nat
 ra:Option Addr
 rc:Nat
 ka:Option Addr
 kc:Nat
 oa:Option Addr
 oc:Nat
 ga:Option Addr
 gc:Nat
def cO (o:eJ) (p:mY):Array Value:=#[.int .i64 o.k,.slice p.ea o.ex.length p.ec,.slice p.na o.nm.length p.nc,.slice p.ca o.c.length p.cc,.slice p.ra o.r.length p.rc,.slice p.ka o.ks.length p.kc,.slice p.oa o.os.length p.oc,.int .i64 o.wk,.int .i64 o.ws,.int .i64 o.wt,.slice p.ga o.ag.length p.gc,.bool o.ou]
structure iw (w:World) (d:eJ) (p:mY):Prop where
 e:bu w p.ea d.ex
 n:bu w p.na d.nm
 c:ap w p.ca d.c
 r:ap w p.ra d.r
 k:aG w p.ka d.ks
 o:aG w p.oa d.os
 g:eR w p.ga d.ag
theorem iw.later {w wx:World} {o:eJ} {p:mY} (h:iw w o p) (hb:Below w.heap.size w wx):iw wx o p:=
 ⟨h.e.later hb,h.n.later hb,h.c.later hb,h.r.later hb,h.k.later hb,h.o.later hb,h.g.later hb⟩
structure iv (d:eJ):Prop where
 e:d.ex.length<=8796093022208
 n:d.nm.length<=8796093022208
 c:d.c.length<=5864062014635
 r:d.r.length<=5864062014635
 k:d.ks.length<=17592186044416
 o:d.os.length<=17592186044416
 g:d.ag.length<=8796093022208
 cn:∀ x∈d.c,x.nm.size<=140737488351232
 rn:∀ x∈d.r,x.nm.size<=140737488351232
 nn:∀ x∈d.nm,x.size<=140737488351232
 ws:(Lit.int .i64 d.ws).wf=true
def zw (o:eJ):Bool:=o.wk==0&&(o.ws==0&&o.wt==0)
def cT (o:eJ):Bool:=
 if o.k=2 then decide (o.nm.length+o.r.length+o.ks.length+o.os.length+o.ag.length=0)&&(zw o&&!o.ou)
 else if o.k=3 then decide (o.r.length+o.ks.length+o.os.length+o.ag.length=0)&&(zw o&&!o.ou)
 else if o.k=4 then decide (o.ex.length+o.r.length+o.os.length=0)&&!o.ou
 else if o.k=5 then decide (o.ex.length+o.nm.length+o.ag.length=0)
 else if o.k=6\/o.k=7 then decide (o.ex.length+o.nm.length+o.r.length+o.ks.length+o.os.length+o.ag.length=0)&&(zw o&&!o.ou)
 else false
def sW (a b c a' b' c':Int):Bool:=a==a'&&(b==b'&&c==c')
theorem zx (a b c a' b' c':Int) (w:World):(Op.equalIn 10000 56 (.agg #[.int .i64 a,.int .i64 b,.int .i64 c]) (.agg #[.int .i64 a',.int .i64 b',.int .i64 c'])).run Tryz.prog w=.ok (sW a b c a' b' c') w:=by
 have u3:=Tryz.underlying3
 have u2:=Tryz.underlying2
 have a3:=Tryz.isAgg3
 have z3:=Tryz.sizeOf3
 have a2:=Tryz.isAgg2
 have z2:=Tryz.sizeOf2
 have hS:Tryz.prog.underlying 56=some (.struct (Tryz.prog.fieldsOf 56)):=by kernel_rfl
 rw [show (10000:Nat)=9999+1 from rfl,run_equalIn_agg w 9999 56 _ _ hS (by kernel_rfl)]
 simp only [Program.fieldsOf,Tryz.underlying56]
 go_simp
 unfold sW
 by_cases h1:a=a'<;>by_cases h2:b=b'<;>by_cases h3:c=c'<;>simp [h1,h2,h3]
theorem iC:Tryz.prog.eqGuardType Tryz.prog.depth 56=false:=by kernel_rfl
theorem kW (a b c a' b' c':Int) (w:World):(binOp .neq 56 (.agg #[.int .i64 a,.int .i64 b,.int .i64 c]) (.agg #[.int .i64 a',.int .i64 b',.int .i64 c'])).run Tryz.prog w=.ok (.bool (!sW a b c a' b' c')) w:=by
 rw [run_neq_struct,zx];rfl
theorem qX (a b c a' b' c':Int) (w:World):(binOp .eql 56 (.agg #[.int .i64 a,.int .i64 b,.int .i64 c]) (.agg #[.int .i64 a',.int .i64 b',.int .i64 c'])).run Tryz.prog w=.ok (.bool (sW a b c a' b' c')) w:=by
 rw [run_eql_struct,zx];rfl
attribute [local go_sem ↓] kW qX
attribute [local go_sem] iC
def ei (n:Int) (m:Nat):Bool:=decide (0<=n)&&decide (n<m)
theorem dC (n:Int) (a:Option Addr) (m c:Nat) (w:World) (hm:m<=9223372036854775807):Calls Tryz.prog 251 #[.int .i64 n,.slice a m c] w fun e w'=>e=.returned (.bool (ei n m))/\w'=w:=by
 unfold ei
 by_cases h1:0<=n<;>by_cases h2:n<m
 all_goals
  go_in
  go_wp2
  go_ret
  first | exact ⟨by simp [h1,h2],rfl⟩ | simp [h1,h2]
def zh (k:Int):Bool:=decide (1<=k)&&decide (k<=7)
theorem cz (k:Int) (w:World):Calls Tryz.prog 253 #[.int .i64 k] w fun e w'=>e=.returned (.bool (zh k))/\w'=w:=by
 unfold zh
 by_cases h1:1<=k<;>by_cases h2:k<=7
 all_goals
  go_in
  go_wp2
  go_ret
  first | exact ⟨by simp [h1,h2],rfl⟩ | simp [h1,h2]
def cI (l:List Int) (m:Nat):Bool:=l.all (fun n=>ei n m)&&decide (l.length<=8)
theorem oh {α:Type} (p:α->Bool) (l:List α) (k:Nat) (h:k<l.length):(l.take (k+1)).all p=((l.take k).all p&&p l[k]):=by
 rw [List.take_succ_eq_append_getElem h,List.all_append];simp
theorem mR {α:Type} (p:α->Bool) (l:List α) (k:Nat) (h:k<l.length) (hf:p l[k]=false):l.all p=false:=by
 rw [List.all_eq_false];exact ⟨l[k],List.getElem_mem h,by simp [hf]⟩
theorem jJ (l:List Int) (a:Option Addr) (lc:Nat) (ca:Option Addr) (m cc:Nat) (w:World) (hm:m<=9223372036854775807) (hl:l.length<=17592186044416) (h:aG w a l) :
 Calls Tryz.prog 218 #[.slice a l.length lc,.slice ca m cc] w fun e w'=>e=.returned (.bool (cI l m))/\Below w.heap.size w w':=by
 have HI:=aU h
 unfold cI
 clear h
 go_in
 go_wp2_with fail
 go_loopw [9] (fun i w'=>∃ (k:Nat),k<=l.length/\i=.int .i64 k/\(l.take k).all (fun n=>ei n m)=true/\w'=w) (fun i _=>l.length-(intOf i).toNat)
 case atStart=>exact ⟨0,Nat.zero_le _,rfl,rfl,rfl⟩
 case round=>
  obtain ⟨k,hk,rfl,hal,rfl⟩:=hrel
  have HAL:=aU hal
  clear hal
  by_cases hlt:k<l.length
  ·have hki:(k:Int)<(l.length:Int):=by omega
   obtain ⟨b,off,rfl,e1⟩:=HI.out k hlt
   have HG:Hid (l[k]=l[k]):=rfl
   obtain ⟨n,hn⟩:∃ n,n=l[k]:=⟨_,rfl⟩
   rw [<-hn] at e1
   have HN:=aU hn
   clear hn HG
   go_wp2_with fail
   refine (dC n ca m cc _ hm).mono ?_
   rintro e w1 ⟨rfl,hw⟩
   have:=hw.symm;subst this
   cases hp:ei n m with
   | false=>
    have HF:Hid (l.all (fun n=>ei n m)=false):=mR _ l k hlt (by rw [<-HN.out];exact hp)
    go_wp2_with fail
    go_ret
    exact ⟨by rw [HF.out];rfl,bR⟩
   | true=>
    have HT:Hid ((l.take (k+1)).all (fun n=>ei n m)=true):=by rw [Hid,oh _ l k hlt,HAL.out,<-HN.out,hp];rfl
    go_wp2_with fail
    exact ⟨⟨k+1,by omega,by go_num,HT.out,trivial⟩,by simp [intOf];omega⟩
  ·obtain rfl:k=l.length:=by omega
   have hnl:¬ (l.length:Int)<(l.length:Int):=by omega
   have HALL:Hid (l.all (fun n=>ei n m)=true):=by
    have:=HAL.out
    rw [List.take_length] at this
    exact this
   clear hlt hk HAL
   by_cases h8:l.length<=8
   ·have h8i:(l.length:Int)<=8:=by omega
    go_wp2_with fail
    go_ret
    exact ⟨by first | (rw [HALL.out];simp [h8];done) | (simp [HALL.out];done) | rfl,bR⟩
   ·have h8i:¬ (l.length:Int)<=8:=by omega
    go_wp2_with fail
    go_ret
    exact ⟨by first | (rw [HALL.out];simp [h8];done) | (simp [HALL.out];done) | rfl,bR⟩
theorem Cm (o:eJ) (p:mY) (w:World) (hs:iv o) (hk:o.k=2):Calls Tryz.prog 148 #[.agg (cO o p)] w fun e w'=>e=.returned (.bool (cT o))/\Below w.heap.size w w':=by
 have he:=hs.e
 have hn:=hs.n
 have hr:=hs.r
 have hks:=hs.k
 have ho:=hs.o
 have hg:=hs.g
 obtain ⟨k,ex,nm,c,r,ks,os,wk,ws,wt,ag,ou⟩:=o
 simp only at hk he hn hr hks ho hg
 subst hk
 have HU:Hid (cT ⟨2,ex,nm,c,r,ks,os,wk,ws,wt,ag,ou⟩=(decide (nm.length+r.length+ks.length+os.length+ag.length=0)&&(sW wk ws wt 0 0 0&&!ou))):=by
  unfold Hid cT zw
  try unfold sW
  simp
 unfold cO
 simp only
 clear hs
 generalize ex.length=en at *
 generalize nm.length=nn at *
 generalize c.length=cn at *
 generalize r.length=rn at *
 generalize ks.length=kn at *
 generalize os.length=on at *
 generalize ag.length=gn at *
 go_in
 go_wp2_with fail
 all_goals
  go_ret
  refine ⟨?_,ae _ _⟩
  rw [HU.out]
  first | rfl | (simp_all;done) | (simp_all;omega)
theorem BT (o:eJ) (p:mY) (w:World) (hs:iv o) (hk:o.k=3):Calls Tryz.prog 148 #[.agg (cO o p)] w fun e w'=>e=.returned (.bool (cT o))/\Below w.heap.size w w':=by
 have he:=hs.e
 have hn:=hs.n
 have hr:=hs.r
 have hks:=hs.k
 have ho:=hs.o
 have hg:=hs.g
 obtain ⟨k,ex,nm,c,r,ks,os,wk,ws,wt,ag,ou⟩:=o
 simp only at hk he hn hr hks ho hg
 subst hk
 have HU:Hid (cT ⟨3,ex,nm,c,r,ks,os,wk,ws,wt,ag,ou⟩=(decide (r.length+ks.length+os.length+ag.length=0)&&(sW wk ws wt 0 0 0&&!ou))):=by
  unfold Hid cT zw
  try unfold sW
  simp
 unfold cO
 simp only
 clear hs
 generalize ex.length=en at *
 generalize nm.length=nn at *
 generalize c.length=cn at *
 generalize r.length=rn at *
 generalize ks.length=kn at *
 generalize os.length=on at *
 generalize ag.length=gn at *
 go_in
 go_wp2_with fail
 all_goals
  go_ret
  refine ⟨?_,ae _ _⟩
  rw [HU.out]
  first | rfl | (simp_all;done) | (simp_all;omega)
theorem CQ (o:eJ) (p:mY) (w:World) (hs:iv o) (hk:o.k=4):Calls Tryz.prog 148 #[.agg (cO o p)] w fun e w'=>e=.returned (.bool (cT o))/\Below w.heap.size w w':=by
 have he:=hs.e
 have hn:=hs.n
 have hr:=hs.r
 have hks:=hs.k
 have ho:=hs.o
 have hg:=hs.g
 obtain ⟨k,ex,nm,c,r,ks,os,wk,ws,wt,ag,ou⟩:=o
 simp only at hk he hn hr hks ho hg
 subst hk
 have HU:Hid (cT ⟨4,ex,nm,c,r,ks,os,wk,ws,wt,ag,ou⟩=(decide (ex.length+r.length+os.length=0)&&!ou)):=by
  unfold Hid cT zw
  try unfold sW
  simp
 unfold cO
 simp only
 clear hs
 generalize ex.length=en at *
 generalize nm.length=nn at *
 generalize c.length=cn at *
 generalize r.length=rn at *
 generalize ks.length=kn at *
 generalize os.length=on at *
 generalize ag.length=gn at *
 go_in
 go_wp2_with fail
 all_goals
  go_ret
  refine ⟨?_,ae _ _⟩
  rw [HU.out]
  first | rfl | (simp_all;done) | (simp_all;omega)
theorem BQ (o:eJ) (p:mY) (w:World) (hs:iv o) (hk:o.k=5):Calls Tryz.prog 148 #[.agg (cO o p)] w fun e w'=>e=.returned (.bool (cT o))/\Below w.heap.size w w':=by
 have he:=hs.e
 have hn:=hs.n
 have hr:=hs.r
 have hks:=hs.k
 have ho:=hs.o
 have hg:=hs.g
 obtain ⟨k,ex,nm,c,r,ks,os,wk,ws,wt,ag,ou⟩:=o
 simp only at hk he hn hr hks ho hg
 subst hk
 have HU:Hid (cT ⟨5,ex,nm,c,r,ks,os,wk,ws,wt,ag,ou⟩=(decide (ex.length+nm.length+ag.length=0))):=by
  unfold Hid cT zw
  try unfold sW
  simp
 unfold cO
 simp only
 clear hs
 generalize ex.length=en at *
 generalize nm.length=nn at *
 generalize c.length=cn at *
 generalize r.length=rn at *
 generalize ks.length=kn at *
 generalize os.length=on at *
 generalize ag.length=gn at *
 go_in
 go_wp2_with fail
 all_goals
  go_ret
  refine ⟨?_,ae _ _⟩
  rw [HU.out]
  first | rfl | (simp_all;done) | (simp_all;omega)
theorem Cu (o:eJ) (p:mY) (w:World) (hs:iv o) (hk:o.k=6):Calls Tryz.prog 148 #[.agg (cO o p)] w fun e w'=>e=.returned (.bool (cT o))/\Below w.heap.size w w':=by
 have he:=hs.e
 have hn:=hs.n
 have hr:=hs.r
 have hks:=hs.k
 have ho:=hs.o
 have hg:=hs.g
 obtain ⟨k,ex,nm,c,r,ks,os,wk,ws,wt,ag,ou⟩:=o
 simp only at hk he hn hr hks ho hg
 subst hk
 have HU:Hid (cT ⟨6,ex,nm,c,r,ks,os,wk,ws,wt,ag,ou⟩=(decide (ex.length+nm.length+r.length+ks.length+os.length+ag.length=0)&&(sW wk ws wt 0 0 0&&!ou))):=by
  unfold Hid cT zw
  try unfold sW
  simp
 unfold cO
 simp only
 clear hs
 generalize ex.length=en at *
 generalize nm.length=nn at *
 generalize c.length=cn at *
 generalize r.length=rn at *
 generalize ks.length=kn at *
 generalize os.length=on at *
 generalize ag.length=gn at *
 go_in
 go_wp2_with fail
 all_goals
  go_ret
  refine ⟨?_,ae _ _⟩
  rw [HU.out]
  first | rfl | (simp_all;done) | (simp_all;omega)
theorem CK (o:eJ) (p:mY) (w:World) (hs:iv o) (hk:o.k=7):Calls Tryz.prog 148 #[.agg (cO o p)] w fun e w'=>e=.returned (.bool (cT o))/\Below w.heap.size w w':=by
 have he:=hs.e
 have hn:=hs.n
 have hr:=hs.r
 have hks:=hs.k
 have ho:=hs.o
 have hg:=hs.g
 obtain ⟨k,ex,nm,c,r,ks,os,wk,ws,wt,ag,ou⟩:=o
 simp only at hk he hn hr hks ho hg
 subst hk
 have HU:Hid (cT ⟨7,ex,nm,c,r,ks,os,wk,ws,wt,ag,ou⟩=(decide (ex.length+nm.length+r.length+ks.length+os.length+ag.length=0)&&(sW wk ws wt 0 0 0&&!ou))):=by
  unfold Hid cT zw
  try unfold sW
  simp
 unfold cO
 simp only
 clear hs
 generalize ex.length=en at *
 generalize nm.length=nn at *
 generalize c.length=cn at *
 generalize r.length=rn at *
 generalize ks.length=kn at *
 generalize os.length=on at *
 generalize ag.length=gn at *
 go_in
 go_wp2_with fail
 all_goals
  go_ret
  refine ⟨?_,ae _ _⟩
  rw [HU.out]
  first | rfl | (simp_all;done) | (simp_all;omega)
theorem Cr (o:eJ) (p:mY) (w:World) (hs:iv o) (hk:o.k≠2/\o.k≠3/\o.k≠4/\o.k≠5/\o.k≠6/\o.k≠7):Calls Tryz.prog 148 #[.agg (cO o p)] w fun e w'=>e=.returned (.bool (cT o))/\Below w.heap.size w w':=by
 have he:=hs.e
 have hn:=hs.n
 have hr:=hs.r
 have hks:=hs.k
 have ho:=hs.o
 have hg:=hs.g
 obtain ⟨k,ex,nm,c,r,ks,os,wk,ws,wt,ag,ou⟩:=o
 simp only at hk he hn hr hks ho hg
 obtain ⟨k2,k3,k4,k5,k6,k7⟩:=hk
 have HU:Hid (cT ⟨k,ex,nm,c,r,ks,os,wk,ws,wt,ag,ou⟩=(false)):=by
  unfold Hid cT zw
  try unfold sW
  simp [k2,k3,k4,k5,k6,k7]
 unfold cO
 simp only
 clear hs
 generalize ex.length=en at *
 generalize nm.length=nn at *
 generalize c.length=cn at *
 generalize r.length=rn at *
 generalize ks.length=kn at *
 generalize os.length=on at *
 generalize ag.length=gn at *
 go_in
 go_wp2_with fail
 all_goals
  go_ret
  refine ⟨?_,ae _ _⟩
  rw [HU.out]
  first | rfl | (simp_all;done) | (simp_all;omega)
theorem yI (o:eJ) (p:mY) (w:World) (hs:iv o):Calls Tryz.prog 148 #[.agg (cO o p)] w fun e w'=>e=.returned (.bool (cT o))/\Below w.heap.size w w':=by
 by_cases h2:o.k=2
 ·exact Cm o p w hs h2
 by_cases h3:o.k=3
 ·exact BT o p w hs h3
 by_cases h4:o.k=4
 ·exact CQ o p w hs h4
 by_cases h5:o.k=5
 ·exact BQ o p w hs h5
 by_cases h6:o.k=6
 ·exact Cu o p w hs h6
 by_cases h7:o.k=7
 ·exact CK o p w hs h7
 exact Cr o p w hs ⟨h2,h3,h4,h5,h6,h7⟩
end Oo
namespace Oo
open Go.RowKit
def dX {α β:Type} (f:α->Except Nat β):List α->Except Nat (List β)
  | []=>.ok []
  | x::l=>match f x with
    | .error n=>.error n
    | .ok b=>match dX f l with
      | .error n=>.error n
      | .ok bs=>.ok (b::bs)
theorem l5 {α β:Type} (f:α->Except Nat β):∀ l m:List α,dX f (l++m)=match dX f l with
    | .error n=>.error n
    | .ok a=>match dX f m with
      | .error n=>.error n
      | .ok b=>.ok (a++b)
  | [],m=>by
    simp only [List.nil_append,dX]
    cases dX f m<;>rfl
  | x::l,m=>by
    simp only [List.cons_append,dX]
    cases f x with
    | error n=>rfl
    | ok b=>
      simp only
      rw [l5 f l m]
      cases dX f l with
      | error n=>rfl
      | ok a=>
        simp only
        cases dX f m<;>rfl
theorem nE {α β:Type} {f:α->Except Nat β} {l:List α} {i:Nat} {acc:List β} {b:β} (h:dX f (l.take i)=.ok acc) (hi:i<l.length) (hb:f l[i]=.ok b):dX f (l.take (i+1))=.ok (acc++[b]):=by
  rw [List.take_succ_eq_append_getElem hi,l5,h]
  simp only [dX,hb]
theorem nZ {α β:Type} {f:α->Except Nat β} {l:List α} {i:Nat} {acc:List β} {n:Nat} (h:dX f (l.take i)=.ok acc) (hi:i<l.length) (hb:f l[i]=.error n):dX f l=.error n:=by
  have e:l=l.take i++(l[i]::l.drop (i+1)):=by
    rw [<-List.drop_eq_getElem_cons hi,List.take_append_drop]
  rw [e,l5,h]
  simp only [dX,hb]
theorem iM {α β:Type} (f:α->Except Nat β):∀ (l:List α) (acc:List β),dX f l=.ok acc->acc.length=l.length
  | [],acc,h=>by simp only [dX] at h;cases h;rfl
  | x::l,acc,h=>by
    simp only [dX] at h
    cases hx:f x with
    | error n=>rw [hx] at h;cases h
    | ok b=>
      rw [hx] at h
      simp only at h
      cases hl:dX f l with
      | error n=>rw [hl] at h;cases h
      | ok bs=>rw [hl] at h;cases h;simp [iM f l bs hl]
def bX (c:List Co) (n:Int):Co:=c.getD n.toNat ⟨⟨#[]⟩,0⟩
def cV (c:List Co) (a:Ag):Except Nat Int:=
  if zh a.k=false then .error 4
  else if a.k=1 then (if a.at_=-1 then .ok 1 else .error 4)
  else if ei a.at_ c.length=false then .error 4
  else if a.k=2 then (if (bX c a.at_).k=1 then .ok 1 else .error 3)
  else if a.k=7 then .ok 1 else .ok (bX c a.at_).k
def bm (r:Except Nat Int) (n:ByteArray):Except Nat Co:=match r with
  | .error x=>.error x
  | .ok k=>.ok ⟨n,k⟩
def gO (ck:ByteArray->Except Nat Int) (o:eJ):Except Nat (List Co):=match o.ex with
  | [s]=>match ck s with
    | .error n=>.error n
    | .ok k=>if k=2 then .ok o.c else .error 3
  | _=>.error 4
def nj (ck:ByteArray->Except Nat Int) (o:eJ):Except Nat (List Co):=
  if o.nm.length=o.ex.length then dX (fun q=>bm (ck q.1) q.2) (o.ex.zip o.nm) else .error 4
def pY (o:eJ):Bool:=Wn.validB o.wk o.ws o.wt
def ef (o:eJ):Except Nat (List Co):=
  if cI o.ks o.c.length=true/\pY o=true/\o.nm.length=o.ag.length then
    match dX (fun q=>bm (cV o.c q.1) q.2) (o.ag.zip o.nm) with
    | .error n=>.error n
    | .ok l=>.ok (o.ks.map (bX o.c)++l)
  else .error 4
def sj (o:eJ):Bool:=(o.ks.zip o.os).all (fun q=>(bX o.c q.1).k==(bX o.r q.2).k)
def iu (o:eJ):Except Nat (List Co):=
  if cI o.ks o.c.length=true/\cI o.os o.r.length=true/\o.ks.length=o.os.length/\pY o=true then
    (if sj o=true then .ok (o.c++o.r) else .error 3)
  else .error 4
def ji (ck:ByteArray->Except Nat Int) (o:eJ):Except Nat (List Co):=
  if o.k=2 then gO ck o else if o.k=3 then nj ck o else if o.k=4 then ef o else if o.k=5 then iu o else .ok o.c
attribute [local go_sem ↓] kW qX
attribute [local go_sem] iC
def lC (r:Except Nat Int):Value:=match r with
 | .ok k=>.tuple #[.int .i64 k,.nilIface]
 | .error n=>.tuple #[.int .i64 0,.iface 37 (.int .i64 n)]
theorem jS {n:Int} {m:Nat} (h:ei n m=true):∃ j:Nat,n=j/\j<m:=by
 unfold ei at h
 simp at h
 exact ⟨n.toNat,by omega,by omega⟩
theorem ki (c:List Co) (j:Nat) (h:j<c.length):bX c (j:Int)=c[j]:=by
 unfold bX
 rw [Int.toNat_natCast,List.getD_eq_getElem?_getD,List.getElem?_eq_getElem h]
 rfl
theorem tG (a:Ag) (c:List Co) (ca:Option Addr) (cc:Nat) (w:World) (hm:c.length<=5864062014635) (hc:ap w ca c) :
 Calls Tryz.prog 220 #[.agg #[.int .i64 a.k,.int .i64 a.at_],.slice ca c.length cc] w fun e w'=>e=.returned (lC (cV c a))/\Below w.heap.size w w':=by
 obtain ⟨k,t⟩:=a
 simp only
 have HC:=aU hc
 clear hc
 by_cases hA:zh k=true
 ·by_cases h1:k=1
  ·subst h1
   by_cases ht:t=-1
   ·subst ht
    have HR:Hid (cV c ⟨1,-1⟩=.ok 1):=by unfold Hid cV;simp [hA]
    go_in
    go_wp2_with fail
    refine (cz 1 _).mono ?_
    rw [hA]
    rintro e w1 ⟨rfl,hw⟩
    have:=hw.symm;subst this
    go_wp2_with fail
    go_ret2
    rw [HR.out]
    exact ⟨by first | rfl | trivial | (simp [lC];done),by first | exact ae _ _ | trivial⟩
   ·have HR:Hid (cV c ⟨1,t⟩=.error 4):=by unfold Hid cV;simp [hA,ht]
    have htb:(t != -1)=true:=by simp [ht]
    go_in
    go_wp2_with fail
    refine (cz 1 _).mono ?_
    rw [hA]
    rintro e w1 ⟨rfl,hw⟩
    have:=hw.symm;subst this
    go_wp2_with fail
    go_ret2
    rw [HR.out]
    exact ⟨by first | rfl | trivial | (simp [lC];done),by first | exact ae _ _ | trivial⟩
  ·have h1b:(k==1)=false:=by simp [h1]
   by_cases hP:ei t c.length=true
   ·obtain ⟨j,rfl,hj⟩:=jS hP
    obtain ⟨b,off,rfl,e1,e2⟩:=HC.out j hj
    have hji:(j:Int)<(c.length:Int):=by omega
    have HR:Hid (cV c ⟨k,(j:Int)⟩=if k=2 then (if c[j].k=1 then .ok 1 else .error 3) else if k=7 then .ok 1 else .ok c[j].k):=by
     unfold Hid cV;simp [hA,h1,hP,ki c j hj]
    obtain ⟨kd,hkd⟩:∃ kd,kd=c[j].k:=⟨_,rfl⟩
    rw [<-hkd] at e2 HR
    clear hkd e1
    have e2':(w.alloc (.cells #[.int .i64 k,.int .i64 (j:Int)] 168)).cell? ⟨b,off+j*2+1,none⟩=some (.int .i64 kd):=af (ae _ _) e2
    have hbl:=bL e2
    by_cases h2:k=2
    ·subst h2
     by_cases hk1:kd=1
     ·subst hk1
      have HR':Hid (cV c ⟨2,(j:Int)⟩=.ok 1):=HR.out
      clear HR
      go_in
      go_wp2_with fail
      refine (cz 2 _).mono ?_
      rw [hA]
      rintro e w1 ⟨rfl,hw⟩
      have:=hw.symm;subst this
      go_wp2_with fail
      refine (dC (j:Int) _ _ _ _ (by omega)).mono ?_
      rw [hP]
      rintro e w1 ⟨rfl,hw⟩
      have:=hw.symm;subst this
      go_wp2_with fail
      go_ret2
      rw [HR'.out]
      exact ⟨by first | rfl | trivial | (simp [lC];done),by first | exact ae _ _ | trivial⟩
     ·have hkb:(kd != 1)=true:=by simp [hk1]
      have HR':Hid (cV c ⟨2,(j:Int)⟩=.error 3):=by show cV c ⟨2,(j:Int)⟩=.error 3;have:=HR.out;simpa [hk1] using this
      clear HR
      go_in
      go_wp2_with fail
      refine (cz 2 _).mono ?_
      rw [hA]
      rintro e w1 ⟨rfl,hw⟩
      have:=hw.symm;subst this
      go_wp2_with fail
      refine (dC (j:Int) _ _ _ _ (by omega)).mono ?_
      rw [hP]
      rintro e w1 ⟨rfl,hw⟩
      have:=hw.symm;subst this
      go_wp2_with fail
      go_ret2
      rw [HR'.out]
      exact ⟨by first | rfl | trivial | (simp [lC];done),by first | exact ae _ _ | trivial⟩
    ·have h2b:(k==2)=false:=by simp [h2]
     by_cases h7:k=7
     ·subst h7
      have HR':Hid (cV c ⟨7,(j:Int)⟩=.ok 1):=HR.out
      clear HR
      go_in
      go_wp2_with fail
      refine (cz 7 _).mono ?_
      rw [hA]
      rintro e w1 ⟨rfl,hw⟩
      have:=hw.symm;subst this
      go_wp2_with fail
      refine (dC (j:Int) _ _ _ _ (by omega)).mono ?_
      rw [hP]
      rintro e w1 ⟨rfl,hw⟩
      have:=hw.symm;subst this
      go_wp2_with fail
      go_ret2
      rw [HR'.out]
      exact ⟨by first | rfl | trivial | (simp [lC];done),by first | exact ae _ _ | trivial⟩
     ·have h7b:(k==7)=false:=by simp [h7]
      have HR':Hid (cV c ⟨k,(j:Int)⟩=.ok kd):=by show cV c ⟨k,(j:Int)⟩=.ok kd;have:=HR.out;simpa [h2,h7] using this
      clear HR
      go_in
      go_wp2_with fail
      refine (cz k _).mono ?_
      rw [hA]
      rintro e w1 ⟨rfl,hw⟩
      have:=hw.symm;subst this
      go_wp2_with fail
      refine (dC (j:Int) _ _ _ _ (by omega)).mono ?_
      rw [hP]
      rintro e w1 ⟨rfl,hw⟩
      have:=hw.symm;subst this
      go_wp2_with fail
      go_ret2
      rw [HR'.out]
      exact ⟨by first | rfl | trivial | (simp [lC];done),by first | exact ae _ _ | trivial⟩
   ·have hPf:ei t c.length=false:=by simpa using hP
    have HR:Hid (cV c ⟨k,t⟩=.error 4):=by unfold Hid cV;simp [hA,h1,hPf]
    go_in
    go_wp2_with fail
    refine (cz k _).mono ?_
    rw [hA]
    rintro e w1 ⟨rfl,hw⟩
    have:=hw.symm;subst this
    go_wp2_with fail
    refine (dC t _ _ _ _ (by omega)).mono ?_
    rw [hPf]
    rintro e w1 ⟨rfl,hw⟩
    have:=hw.symm;subst this
    go_wp2_with fail
    go_ret2
    rw [HR.out]
    exact ⟨by first | rfl | trivial | (simp [lC];done),by first | exact ae _ _ | trivial⟩
 ·have hAf:zh k=false:=by simpa using hA
  have HR:Hid (cV c ⟨k,t⟩=.error 4):=by unfold Hid cV;simp [hAf]
  go_in
  go_wp2_with fail
  refine (cz k _).mono ?_
  rw [hAf]
  rintro e w1 ⟨rfl,hw⟩
  have:=hw.symm;subst this
  go_wp2_with fail
  go_ret2
  rw [HR.out]
  exact ⟨by first | rfl | trivial | (simp [lC];done),by first | exact ae _ _ | trivial⟩
end Oo
namespace Oo
open Go.RowKit
theorem zl {w:World} {B e size g n cap:Nat} {xs:List Value} (h:w.ownsRow B e size (.slice (some ⟨g,0,none⟩) n cap) n xs):w.ownsRow B e size (.slice (some ⟨g,0,none⟩) 0 cap) 0 []:=by
 refine ⟨by simp,.inr ?_⟩
 rcases h.2 with ⟨h1,_⟩ | ⟨g',cap',cur,h1,h2,h3,h4,h5,h6,h7⟩
 ·cases h1
 ·cases h1;exact ⟨g,cap,cur,rfl,h2,h3,Nat.zero_le _,h5,h6,by simp⟩
theorem xH (n:Nat) (hn:n<=16) (w:World):Calls Tryz.prog 254 #[.slice none 0 0,.int .i64 n] w fun e w'=>∃ v,e=.returned v/\OC w' w.heap.size v []/\Below w.heap.size w w':=by
 obtain ⟨i0,hi0,hz0,hz1,hz2⟩:=info_parts uF
 by_cases h0:n=0
 ·subst h0
  go_in
  go_wp2_with fail
  go_ret
  exact ⟨_,rfl,OC.nil _ _,bR⟩
 ·have hni:(0:Int)<n:=by omega
  have hnn:¬ (n:Int)<0:=by omega
  have hby:Tryz.t95.bytes=24:=by kernel_rfl
  have hnc:Builtin.nextslicecap n 0=n:=nextslicecap_zero (by omega)
  go_in
  go_wp2_with fail
  all_goals try (exfalso;rw [hby] at *;omega)
  all_goals try (exfalso;rw [hnc,hby] at *;omega)
  have hcap:=grownCap_ge w n 0 95
  have hcm:=grownCap_le_maxLen w n 0 95 (by unfold maxLen;omega)
  unfold grownCap at hcap hcm
  generalize (Question.appendCap n 0 95).cut (w.tape w.drawn (.appendCap n 0 95))=cap at *
  go_ret
  have h1:=World.ownsRow_lit (base:=w.heap.size) (e:=95) (size:=2) w (Builtin.zeroCells #[Value.string ⟨#[]⟩,Value.int .i64 0] n++Builtin.zeroCells #[Value.string ⟨#[]⟩,Value.int .i64 0] (cap-n)) cap lR hcm (by rw [Array.size_append,size_zeroCells,size_zeroCells];simp;omega)
  exact ⟨_,rfl,(zl h1).drew,by first | exact (ae w _).drew | exact Below.drewN' (ae w _)⟩
theorem sZ (a b:Option Addr) (ca cb:Nat) (l m:List Co) (w:World) (hl:l.length<=8) (hm:m.length<=8) (ha:ap w a l) (hb:ap w b m) (g:Nat) (hg:g<w.heap.size) (h0:w.cell? ⟨g,0,none⟩=some (.slice a l.length ca)) (h1:w.cell? ⟨g,1,none⟩=some (.slice b m.length cb)) :
 Calls Tryz.prog 221 #[.slice (some ⟨g,0,none⟩) 2 2] w fun e w'=>∃ v,e=.returned v/\OC w' w.heap.size v (l++m)/\Below w.heap.size w w':=by
 have HA:=aU ha
 have HB:=aU hb
 go_in
 go_wp2_with fail
 go_loopw [3,11] (fun s i w'=>∃ (k:Nat),k<=2/\i=.int .i64 k/\s=.int .i64 ((if k=0 then 0 else if k=1 then l.length else l.length+m.length:Nat):Int)/\w'=w) (fun _ i _=>2-(intOf i).toNat)
 case atStart=>exact ⟨0,Nat.zero_le _,rfl,rfl,rfl⟩
 case round=>
  obtain ⟨k,hk,rfl,rfl,hw⟩:=hrel
  have hw':=hw.symm
  subst hw'
  have hk3:k=0\/k=1\/k=2:=by omega
  rcases hk3 with rfl | rfl | rfl
  ·simp only [if_true]
   go_wp2_with fail
   exact ⟨⟨1,by omega,by go_num,by first | rfl | (simp;done) | go_num,by first | rfl | trivial⟩,by simp [intOf]⟩
  ·simp only [if_true,if_neg (show ¬ (1:Nat)=0 by decide)]
   go_wp2_with fail
   exact ⟨⟨2,by omega,by go_num,by first | rfl | (simp;done) | go_num,by first | rfl | trivial⟩,by simp [intOf]⟩
  ·simp only [if_neg (show ¬ (2:Nat)=0 by decide),if_neg (show ¬ (2:Nat)=1 by decide)]
   go_wp2_with fail
   refine (xH (l.length+m.length) (by omega) _).mono ?_
   rintro e w1 ⟨v,rfl,hO,hb1⟩
   have HO:=aU hO
   have HB1:=aU hb1
   have H0:=aU h0
   have H1:=aU h1
   go_wp2_with fail
   go_loopw [6,27] (fun v i w'=>∃ (k:Nat),k<=2/\i=.int .i64 k/\OC w' w.heap.size v (if k=0 then [] else if k=1 then l else l++m)/\Below w.heap.size w w') (fun _ i _=>2-(intOf i).toNat)
   case atStart=>exact ⟨0,Nat.zero_le _,rfl,HO.out,HB1.out⟩
   case round=>
    obtain ⟨k,hk,rfl,hO,hb⟩:=hrel
    have e0:=af hb H0.out
    have e1:=af hb H1.out
    have hgr:=bL e0
    have HBr:=aU hb
    have HAr:=aU (HA.out.later hb)
    have HCr:=aU (HB.out.later hb)
    have hk3:k=0\/k=1\/k=2:=by omega
    rcases hk3 with rfl | rfl | rfl
    ·have HOr:Hid (OC wr w.heap.size u6 []):=hO
     go_wp2_with (at_builtin;refine Bk rfl _ _ rfl w.heap.size u6 [] l a ca rfl HOr.out rfl HAr.out (by simp;omega) HBr.out.size ?_)
     intro v' w2 hO2 hgr2
     have HO2:=jg hO2
     have HB2:=jg (HBr.out.grown hgr2 HBr.out.size (fun j hj=>(World.ownsRow.lt HOr.out j hj).1))
     go_wp2_with fail
     exact ⟨⟨1,by omega,by go_num,HO2.out,HB2.out⟩,by simp [intOf]⟩
    ·have HOr:Hid (OC wr w.heap.size u6 l):=hO
     go_wp2_with (at_builtin;refine Bk rfl _ _ rfl w.heap.size u6 l m b cb rfl HOr.out rfl HCr.out (by omega) HBr.out.size ?_)
     intro v' w2 hO2 hgr2
     have HO2:=jg hO2
     have HB2:=jg (HBr.out.grown hgr2 HBr.out.size (fun j hj=>(World.ownsRow.lt HOr.out j hj).1))
     go_wp2_with fail
     exact ⟨⟨2,by omega,by go_num,HO2.out,HB2.out⟩,by simp [intOf]⟩
    ·have HOr:Hid (OC wr w.heap.size u6 (l++m)):=hO
     go_wp2_with fail
     go_ret
     exact ⟨_,rfl,HOr.out,HBr.out⟩
end Oo
end Go.Proofs.YtiiliobffnhpmaaGreatDoor
