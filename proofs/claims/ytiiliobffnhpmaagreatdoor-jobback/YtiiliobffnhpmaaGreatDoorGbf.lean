import Derived.Test.YtiiliobffnhpmaaGreatDoorGba
import Derived.Test.YtiiliobffnhpmaaGreatDoorGbe
set_option linter.all false
set_option maxRecDepth 100000
set_option maxHeartbeats 4000000
namespace Go.Proofs.YtiiliobffnhpmaaGreatDoor
namespace Bp
open Go.RowKit
def Bdy (l:List UInt8):Prop:=∀ c,l.head?=some c->c=32\/c=40\/c=41\/c=44
def TkOk (kd:Nat) (s:ByteArray):Prop:=(∃ c r,s.data.toList=c::r/\eO c=false)/\∀ rest,Bdy rest->bJ (s.data.toList++rest)=some (kd,s.size)
theorem tokAt_cons (c:UInt8) (r:List UInt8):bJ (c::r)=if eS c then some (2,bp (c::r)) else if dZ c then some (1,bp (c::r))
 else if c=39 then (r.findIdx? (·==39)).map (fun i=>(3,i+2))
 else if 0<cL (c::r) then some (4,cL (c::r)) else none:=rfl
theorem wLen_cons (c:UInt8) (r:List UInt8):bp (c::r)=if dZ c then bp r+1 else 0:=rfl
theorem bdy_nw {rest:List UInt8} (h:Bdy rest):bp rest=0:=by
 cases rest with
 | nil=>rfl
 | cons c r=>
  unfold bp
  rw [if_neg]
  rcases h c rfl with rfl | rfl | rfl | rfl<;>decide
theorem kw:∀ (l rest:List UInt8),bp rest=0->bp (l.take (bp l)++rest)=bp l
 | [],rest,h=>by simpa [bp] using h
 | c::r,rest,h=>by
  by_cases hc:dZ c=true
  ·have e:bp (c::r)=bp r+1:=by rw [wLen_cons,if_pos hc]
   rw [e,List.take_succ_cons,List.cons_append,wLen_cons,if_pos hc,kw r rest h]
  ·have e:bp (c::r)=0:=by rw [wLen_cons,if_neg hc]
   rw [e,List.take_zero,List.nil_append]
   exact h
theorem size_take (l:List UInt8) (n:Nat) (h:n<=l.length):(⟨(l.take n).toArray⟩:ByteArray).size=n:=by
 simp [ByteArray.size,h]
theorem Ds {c:UInt8} (h:eS c=true):dZ c=true:=by unfold dZ;rw [h];simp
theorem tokAt_ok {c:UInt8} {r:List UInt8} {kd len:Nat} (hs:eO c=false) (h:bJ (c::r)=some (kd,len)):TkOk kd ⟨((c::r).take len).toArray⟩:=by
 rw [tokAt_cons] at h
 by_cases hd:eS c=true
 ·rw [if_pos hd] at h
  simp only [Option.some.injEq,Prod.mk.injEq] at h
  obtain ⟨rfl,rfl⟩:=h
  have hw:=Ds hd
  refine ⟨⟨c,r.take (bp r),by simp [bp,hw],hs⟩,fun rest hb=>?_⟩
  rw [size_take _ _ (jY _)]
  have e:=kw (c::r) rest (bdy_nw hb)
  have e2:(c::r).take (bp (c::r))=c::r.take (bp r):=by simp [bp,hw]
  simp only
  rw [e2,List.cons_append] at e ⊢
  rw [tokAt_cons]
  rw [if_pos hd,e]
 rw [if_neg hd] at h
 by_cases hw:dZ c=true
 ·rw [if_pos hw] at h
  simp only [Option.some.injEq,Prod.mk.injEq] at h
  obtain ⟨rfl,rfl⟩:=h
  refine ⟨⟨c,r.take (bp r),by simp [bp,hw],hs⟩,fun rest hb=>?_⟩
  rw [size_take _ _ (jY _)]
  have e:=kw (c::r) rest (bdy_nw hb)
  have e2:(c::r).take (bp (c::r))=c::r.take (bp r):=by simp [bp,hw]
  simp only
  rw [e2,List.cons_append] at e ⊢
  rw [tokAt_cons]
  rw [if_neg hd,if_pos hw,e]
 rw [if_neg hw] at h
 by_cases hq:c=39
 ·rw [if_pos hq] at h
  cases hf:r.findIdx? (·==39) with
  | none=>rw [hf] at h;cases h
  | some i=>
   rw [hf] at h
   simp only [Option.map_some,Option.some.injEq,Prod.mk.injEq] at h
   obtain ⟨rfl,rfl⟩:=h
   have hi:=(List.findIdx?_eq_some_iff_getElem.1 hf).1
   refine ⟨⟨c,r.take (i+1),by simp,hs⟩,fun rest hb=>?_⟩
   rw [size_take _ _ (by simp;omega)]
   have e2:(c::r).take (i+2)=c::r.take (i+1):=by simp
   simp only
   rw [e2,List.cons_append]
   rw [tokAt_cons]
   rw [if_neg hd,if_neg hw,if_pos hq]
   have h4:(r.take (i+1)++rest).findIdx? (·==39)=some i:=by
    rw [List.findIdx?_eq_some_iff_getElem] at hf ⊢
    obtain ⟨h1,h2,h3⟩:=hf
    refine ⟨by simp;omega,?_,fun j hj=>?_⟩
    ·rw [List.getElem_append_left (by simp;omega),List.getElem_take];exact h2
    ·rw [List.getElem_append_left (by simp;omega),List.getElem_take];exact h3 j hj
   rw [h4]
   rfl
 rw [if_neg hq] at h
 by_cases h0:0<cL (c::r)
 ·rw [if_pos h0] at h
  simp only [Option.some.injEq,Prod.mk.injEq] at h
  obtain ⟨rfl,rfl⟩:=h
  have key:∀ rest,Bdy rest->cL ((c::r).take (cL (c::r))++rest)=cL (c::r)/\∃ u,(c::r).take (cL (c::r))=c::u:=by
   intro rest hb
   unfold cL
   by_cases h2:(c::r).take 2∈[[60,62],[60,61],[62,61],[43,43]]
   ·rw [if_pos h2]
    match r,h2 with
    | [],h2=>simp at h2
    | d::r',h2=>
     have e:(c::d::r').take 2=[c,d]:=by simp
     rw [e] at h2 ⊢
     refine ⟨?_,[d],rfl⟩
     rw [if_pos (by simpa using h2)]
   ·rw [if_neg h2]
    have h3:(c::r).head?∈[some 61,some 60,some 62,some 43,some 45,some 42,some 47,some 37,some 40,some 41,some 44]:=by
     unfold cL at h0
     rw [if_neg h2] at h0
     by_cases h3:(c::r).head?∈[some 61,some 60,some 62,some 43,some 45,some 42,some 47,some 37,some 40,some 41,some 44]
     ·exact h3
     ·rw [if_neg h3] at h0;omega
    rw [if_pos h3]
    refine ⟨?_,[],by simp⟩
    have e:(c::r).take 1++rest=c::rest:=by simp
    rw [e,if_neg,if_pos (by simpa using h3)]
    cases rest with
    | nil=>simp
    | cons d q=>
     have:=hb d rfl
     rcases this with rfl | rfl | rfl | rfl<;>simp
  obtain ⟨-,u,hu⟩:=key [] (by intro c h;cases h)
  refine ⟨⟨c,u,by simpa using hu,hs⟩,fun rest hb=>?_⟩
  rw [size_take _ _ (ur _)]
  have e:=(key rest hb).1
  simp only
  rw [hu,List.cons_append] at e ⊢
  rw [tokAt_cons]
  rw [if_neg hd,if_neg hw,if_neg hq,e,if_pos h0]
 ·rw [if_neg h0] at h;cases h
theorem map_ok {α β:Type} {f:α->β} {o:Except Nat α} {b:β} (h:o.map f=.ok b):∃ a,o=.ok a/\b=f a:=by
 cases o with
 | error e=>cases h
 | ok a=>cases h;exact ⟨a,rfl,rfl⟩
theorem tok_tk:∀ (n pl:Nat) (l:List UInt8) (ts:List Tk),tok n pl l=.ok ts->∀ t∈ts,TkOk t.kd t.tx
 | n,pl,[],ts,h=>by
  cases n<;>(rw [tok] at h;cases h;intro t ht;cases ht)
 | 0,pl,c::r,ts,h=>by rw [tok] at h;cases h;simp
 | n+1,pl,c::r,ts,h=>by
  rw [tok] at h
  by_cases hs:eO c=true
  ·rw [if_pos hs] at h
   exact tok_tk n _ _ _ h
  ·rw [if_neg hs] at h
   split at h
   ·cases h
   ·rename_i kd len he
    obtain ⟨l',h1,rfl⟩:=map_ok h
    intro t ht
    cases ht with
    | head=>exact tokAt_ok (by simpa using hs) he
    | tail _ ht=>exact tok_tk n _ _ _ h1 t ht
def rp (n pl:Nat) (l rest:List UInt8) (P:List Tk->Prop):Prop:=∃ n' pl' ts,rest.length<=n'/\P ts/\tok n pl l=(tok n' pl' rest).map (ts++·)
theorem rp.seq {n pl:Nat} {l mid rest:List UInt8} {P Q R:List Tk->Prop} (h:rp n pl l mid P) (h2:∀ n' pl',mid.length<=n'->rp n' pl' mid rest Q) (hR:∀ u v,P u->Q v->R (u++v)):rp n pl l rest R:=by
 obtain ⟨n1,p1,u,a1,a2,a3⟩:=h
 obtain ⟨n2,p2,v,b1,b2,b3⟩:=h2 n1 p1 a1
 refine ⟨n2,p2,u++v,b1,hR u v a2 b2,?_⟩
 rw [a3,b3]
 cases tok n2 p2 rest with
 | error e=>rfl
 | ok l=>simp [Except.map]
theorem rp.mono {n pl:Nat} {l rest:List UInt8} {P Q:List Tk->Prop} (h:rp n pl l rest P) (hR:∀ u,P u->Q u):rp n pl l rest Q:=by
 obtain ⟨n1,p1,u,a1,a2,a3⟩:=h
 exact ⟨n1,p1,u,a1,hR u a2,a3⟩
theorem pm {n pl:Nat} {rest:List UInt8} (h:(32::rest).length<=n):rp n pl (32::rest) rest (fun ts=>ts=[]):=by
 cases n with
 | zero=>simp at h
 | succ n=>
  refine ⟨n,pl+1,[],by simpa using h,rfl,?_⟩
  rw [tok,if_pos (by decide)]
  cases tok n (pl+1) rest<;>simp [Except.map]
theorem xz {n pl kd:Nat} {s:ByteArray} {rest:List UInt8} (hc:∃ c r,s.data.toList=c::r/\eO c=false) (h:(s.data.toList++rest).length<=n) (ha:bJ (s.data.toList++rest)=some (kd,s.size)):rp n pl (s.data.toList++rest) rest (fun ts=>∃ p,ts=[⟨p,kd,s⟩]):=by
 obtain ⟨c,r,e,hs⟩:=hc
 have hz:s.size=(c::r).length:=by rw [<-e];simp
 have hsd:s=⟨(c::r).toArray⟩:=by rw [<-e]
 cases n with
 | zero=>rw [e] at h;simp at h
 | succ n=>
  refine ⟨n,pl+s.size,[⟨pl,kd,s⟩],by rw [e] at h;simp at h;omega,⟨pl,rfl⟩,?_⟩
  rw [e,List.cons_append] at ha ⊢
  rw [tok,if_neg (by simp [hs]),ha]
  simp only
  rw [hz,<-List.cons_append,List.drop_left,List.take_left,<-hz,<-hsd]
  cases tok n (pl+s.size) rest<;>simp [Except.map]
theorem jO {n pl kd:Nat} {s:ByteArray} {rest:List UInt8} (ho:TkOk kd s) (h:(s.data.toList++rest).length<=n) (hb:Bdy rest):rp n pl (s.data.toList++rest) rest (fun ts=>∃ p,ts=[⟨p,kd,s⟩]):=
 xz ho.1 h (ho.2 rest hb)
theorem gj {n pl:Nat} {c:UInt8} {rest:List UInt8} (hc:c=40\/c=41\/c=44\/c=45) (h:(c::rest).length<=n):rp n pl (c::rest) rest (fun ts=>∃ p,ts=[⟨p,4,⟨#[c]⟩⟩]):=by
 refine xz (s:=⟨#[c]⟩) ⟨c,[],rfl,by rcases hc with rfl | rfl | rfl | rfl<;>decide⟩ h ?_
 show bJ (c::rest)=_
 have h1:eS c=false:=by rcases hc with rfl | rfl | rfl | rfl<;>decide
 have h2:dZ c=false:=by rcases hc with rfl | rfl | rfl | rfl<;>decide
 have h3:c≠39:=by rcases hc with rfl | rfl | rfl | rfl<;>decide
 have h4:cL (c::rest)=1:=by
  unfold cL
  rw [if_neg,if_pos]
  ·rcases hc with rfl | rfl | rfl | rfl<;>simp
  ·cases rest with
   | nil=>simp
   | cons d q=>rcases hc with rfl | rfl | rfl | rfl<;>simp
 rw [tokAt_cons]
 rw [h1,h2,h4]
 simp [h3]
 rfl
end Bp
section
open Go.RowKit
def dm:X->Int
 | .pre _ s _=>az s
 | .inf _ s _ _=>bW s
 | _=>7
theorem fL (p:Value) (w:World):(Instr.typeAssert (.iface 286 p) 256 299 true).run Tryz.prog w=.ok (.tuple #[(Value.agg #[Value.int IntKind.i64 0,Value.slice none 0 0,Value.int IntKind.i64 0,Value.nilFunc,Value.slice none 0 0,Value.string ⟨#[]⟩,Value.int IntKind.i64 0]),.bool false]) w:=by
 simp [Instr.typeAssert,go_sem]
 try rfl
theorem fy (p:Value) (w:World):(Instr.typeAssert (.iface 288 p) 256 299 true).run Tryz.prog w=.ok (.tuple #[(Value.agg #[Value.int IntKind.i64 0,Value.slice none 0 0,Value.int IntKind.i64 0,Value.nilFunc,Value.slice none 0 0,Value.string ⟨#[]⟩,Value.int IntKind.i64 0]),.bool false]) w:=by
 simp [Instr.typeAssert,go_sem]
 try rfl
theorem fN (p:Value) (w:World):(Instr.typeAssert (.iface 297 p) 256 299 true).run Tryz.prog w=.ok (.tuple #[(Value.agg #[Value.int IntKind.i64 0,Value.slice none 0 0,Value.int IntKind.i64 0,Value.nilFunc,Value.slice none 0 0,Value.string ⟨#[]⟩,Value.int IntKind.i64 0]),.bool false]) w:=by
 simp [Instr.typeAssert,go_sem]
 try rfl
theorem fu (p:Value) (w:World):(Instr.typeAssert (.iface 299 p) 256 299 true).run Tryz.prog w=.ok (.tuple #[p,.bool true]) w:=by
 simp [Instr.typeAssert,go_sem]
 try rfl
theorem fF (p:Value) (w:World):(Instr.typeAssert (.iface 302 p) 256 299 true).run Tryz.prog w=.ok (.tuple #[(Value.agg #[Value.int IntKind.i64 0,Value.slice none 0 0,Value.int IntKind.i64 0,Value.nilFunc,Value.slice none 0 0,Value.string ⟨#[]⟩,Value.int IntKind.i64 0]),.bool false]) w:=by
 simp [Instr.typeAssert,go_sem]
 try rfl
theorem fE (p:Value) (w:World):(Instr.typeAssert (.iface 286 p) 256 297 true).run Tryz.prog w=.ok (.tuple #[(Value.agg #[Value.int IntKind.i64 0,Value.slice none 0 0,Value.int IntKind.i64 0,Value.nilFunc,Value.slice none 0 0,Value.string ⟨#[]⟩,Value.int IntKind.i64 0]),.bool false]) w:=by
 simp [Instr.typeAssert,go_sem]
 try rfl
theorem fA (p:Value) (w:World):(Instr.typeAssert (.iface 288 p) 256 297 true).run Tryz.prog w=.ok (.tuple #[(Value.agg #[Value.int IntKind.i64 0,Value.slice none 0 0,Value.int IntKind.i64 0,Value.nilFunc,Value.slice none 0 0,Value.string ⟨#[]⟩,Value.int IntKind.i64 0]),.bool false]) w:=by
 simp [Instr.typeAssert,go_sem]
 try rfl
theorem fM (p:Value) (w:World):(Instr.typeAssert (.iface 297 p) 256 297 true).run Tryz.prog w=.ok (.tuple #[p,.bool true]) w:=by
 simp [Instr.typeAssert,go_sem]
 try rfl
theorem fI (p:Value) (w:World):(Instr.typeAssert (.iface 299 p) 256 297 true).run Tryz.prog w=.ok (.tuple #[(Value.agg #[Value.int IntKind.i64 0,Value.slice none 0 0,Value.int IntKind.i64 0,Value.nilFunc,Value.slice none 0 0,Value.string ⟨#[]⟩,Value.int IntKind.i64 0]),.bool false]) w:=by
 simp [Instr.typeAssert,go_sem]
 try rfl
theorem fJ (p:Value) (w:World):(Instr.typeAssert (.iface 302 p) 256 297 true).run Tryz.prog w=.ok (.tuple #[(Value.agg #[Value.int IntKind.i64 0,Value.slice none 0 0,Value.int IntKind.i64 0,Value.nilFunc,Value.slice none 0 0,Value.string ⟨#[]⟩,Value.int IntKind.i64 0]),.bool false]) w:=by
 simp [Instr.typeAssert,go_sem]
 try rfl
attribute [local go_sem] fL fy fN fu fF fE fA fM fI fJ
theorem bz {P:Prop} (h:P):Hid P:=h
theorem yz (x:X) (v:Value) (w:World) (g:Nat) (h:Nd w g x v) :
 Calls Tryz.prog 268 #[v] w fun e w'=>e=.returned (.int .i64 (dm x))/\Below w.heap.size w w':=by
 cases x with
 | lit k n t=>
  rw [Nd] at h
  subst h
  go_in
  go_wp2_with fail
  go_ret
  exact ⟨rfl,(ae w _).alloc (by simp) _⟩
 | col pl nm=>
  rw [Nd] at h
  subst h
  go_in
  go_wp2_with fail
  go_ret
  exact ⟨rfl,(ae w _).alloc (by simp) _⟩
 | pre pl s x=>
  rw [Nd] at h
  obtain ⟨tk,f,ps,u,rfl,h2,h3,h4,h5⟩:=h
  obtain ⟨ta,tn,tc,rfl⟩:=h2.form
  obtain ⟨pa,pn,pc,rfl⟩:=h4.form
  obtain ⟨n,k,rfl⟩:=h3.form
  go_in
  go_wp2_with fail
  go_ret
  exact ⟨rfl,(ae w _).alloc (by simp) _⟩
 | inf pl s l r=>
  rw [Nd] at h
  obtain ⟨tk,f,ps,u,u',rfl,h0,h2,h3,h4,h5,h6⟩:=h
  obtain ⟨ta,tn,tc,rfl⟩:=h2.form
  obtain ⟨pa,pn,pc,rfl⟩:=h4.form
  obtain ⟨n,k,rfl⟩:=h3.form
  go_in
  go_wp2_with fail
  go_ret
  exact ⟨rfl,ae w _⟩
 | app pl nm l=>
  rw [Nd] at h
  obtain ⟨tk,gv,f,ps,us,rfl,h2,h3,h4,⟨⟨ta',tn',tc',rfl⟩,hf9⟩⟩:=h
  obtain ⟨pa,pn,pc,rfl⟩:=h3.form
  rcases hf9 with rfl | ⟨n,k,rfl⟩
  ·go_in
   go_wp2_with fail
   go_ret
   exact ⟨rfl,(ae w _).alloc (by simp) _⟩
  ·go_in
   go_wp2_with fail
   go_ret
   exact ⟨rfl,(ae w _).alloc (by simp) _⟩
def wH:ByteArray:=⟨#[32]⟩
def oG:ByteArray:=⟨#[40]⟩
def oR:ByteArray:=⟨#[41]⟩
def AE:ByteArray:=⟨#[44,32]⟩
def jI (b:Bool) (s:ByteArray):ByteArray:=if b then oG++s++oR else s
def fQ (s:ByteArray):ByteArray:=if s=dz then s++wH else s
def cZ (s:ByteArray):Int:=if (bW s:Int)=3 then 4 else bW s
theorem zK (s:ByteArray) (w:World) (a b c d e:Value) :
 Calls Tryz.prog 243 #[.agg #[a,b,c,d,e,.string s,.int .i64 (az s)]] w fun e w'=>e=.returned (.string (fQ s))/\Below w.heap.size w w':=by
 unfold fQ az
 by_cases h:s=dz
 ·rw [if_pos h,if_pos h]
  subst h
  go_in
  go_wp2_with fail
  go_ret
  exact ⟨rfl,ae w _⟩
 ·rw [if_neg h,if_neg h]
  go_in
  go_wp2_with fail
  go_ret
  exact ⟨rfl,ae w _⟩
theorem xm (s:ByteArray):bW s<=7:=by
 unfold bW
 repeat' split
 all_goals decide
theorem yO (s:ByteArray) (w:World) (a b c d e:Value) :
 Calls Tryz.prog 245 #[.agg #[a,b,c,d,e,.string s,.int .i64 (bW s)]] w fun e w'=>e=.returned (.int .i64 (cZ s))/\Below w.heap.size w w':=by
 have hle:=xm s
 unfold cZ
 generalize bW s=r at *
 by_cases h:(r:Int)=3
 ·rw [if_pos h,h]
  go_in
  go_wp2_with fail
  go_ret
  exact ⟨rfl,ae w _⟩
 ·rw [if_neg h]
  go_in
  go_wp2_with fail
  go_ret
  exact ⟨rfl,ae w _⟩
theorem gY (x:X) (v:Value) (w:World) (g:Nat) (h:Nd w g x v) (s:ByteArray) (asked:Int) (hs:s.size<=1000000) (H:∀ W,Below w.heap.size w W->Calls Tryz.prog 210 #[v] W fun e w'=>e=.returned (.string s)/\Below W.heap.size W w') :
 Calls Tryz.prog 244 #[v,.int .i64 asked] w fun e w'=>e=.returned (.string (jI (decide (dm x<asked)) s))/\Below w.heap.size w w':=by
 have HR:=bz (yz x v w g h)
 have HH:=bz H
 by_cases hk:dm x<asked
 ·rw [decide_eq_true hk]
  unfold jI
  rw [if_pos rfl]
  go_in
  go_wp2_with fail
  refine HR.out.mono ?_
  rintro e w1 ⟨rfl,hb1⟩
  have HB1:=bz hb1
  go_wp2_with fail
  refine (HH.out _ HB1.out).mono ?_
  rintro e w2 ⟨rfl,hb2⟩
  have HB2:=jg (HB1.out.trans (hb2.mono HB1.out.size))
  go_wp2_with fail
  go_ret
  exact ⟨rfl,HB2.out⟩
 ·rw [decide_eq_false hk]
  unfold jI
  rw [if_neg (by decide)]
  go_in
  go_wp2_with fail
  refine HR.out.mono ?_
  rintro e w1 ⟨rfl,hb1⟩
  have HB1:=bz hb1
  go_wp2_with fail
  refine (HH.out _ HB1.out).mono ?_
  rintro e w2 ⟨rfl,hb2⟩
  have HB2:=jg (HB1.out.trans (hb2.mono HB1.out.size))
  go_wp2_with fail
  go_ret
  exact ⟨rfl,HB2.out⟩
end
namespace Dc
open Go.RowKit
def LV (s:ByteArray) (k n:Int) (t:ByteArray):Prop:=Vl.validB k n t=true/\-9223372036854775808<=n/\n<=9223372036854775807/\Vl.showB k n t=s
theorem oneLV:fl LV:=fun s k n t k' n' t' h h'=>Vl.show_inj h.1 h'.1 h.2.1 h.2.2.1 h'.2.1 h'.2.2.1 (h.2.2.2.trans h'.2.2.2.symm)
theorem rdOkLV (w:World) (h2:Vl.Sen w) (h3:Vl.Sen3 w) (ht:Vl.Tab w):oB LV (fun W=>Below w.heap.size w W):=fun s W hs hW=>by
 refine (Vl.read_tot s W (by omega) (Vl.Sen.later h2 hW) (Vl.Sen3.later h3 hW) (Vl.Tab.later ht hW)).mono ?_
 rintro e w' ⟨hb,⟨k,n,t,h4,h5,h6,h7,rfl⟩ | ⟨hno,rfl⟩⟩
 ·exact ⟨hb,.inl ⟨k,n,t,⟨h4,h5,h6,h7⟩,rfl⟩⟩
 ·exact ⟨hb,.inr ⟨fun k n t h=>hno k n t h.2.1 h.2.2.1 h.1 h.2.2.2,_,_,rfl⟩⟩
end Dc
namespace Bp
open Go.RowKit
def WB (P:Nat->Prop) (b:Bool) (lev:Nat):Prop:=if b=true then lev<12/\P (lev+1) else P lev
def NmOk (nm:ByteArray):Prop:=TkOk 1 nm/\¬ fB nm/\nm.size<=12/\nm≠cf
mutual
def W:X->Nat->Prop
 | .lit k n t,lev=>Dc.LV (Vl.showB k n t) k n t/\∃ kd,TkOk kd (Vl.showB k n t)/\(kd=2\/kd=3\/Vl.showB k n t=iJ\/Vl.showB k n t=fY)
 | .col _ nm,lev=>NmOk nm
 | .pre _ s x,lev=>lev<12/\(s=dz\/s=bh)/\WB (W x) (decide (dm x<az s)) (lev+1)
 | .inf _ s l r,lev=>bW s≠7/\(∃ kd,TkOk kd s)/\WB (W l) (decide (dm l<cZ s)) lev/\WB (W r) (decide (dm r<(bW s:Int)+1)) lev
 | .app _ nm l,lev=>lev<12/\NmOk nm/\Ws l (lev+1)
def Ws:List X->Nat->Prop
 | [],lev=>True
 | x::l,lev=>W x lev/\Ws l lev
end
theorem WB.less {P:Nat->Prop} (hP:∀ a b,b<=a->P a->P b) {b:Bool} {lev lev':Nat} (hl:lev'<=lev) (h:WB P b lev):WB P b lev':=by
 unfold WB at h ⊢
 split
 ·rename_i hb;rw [if_pos hb] at h;exact ⟨by omega,hP _ _ (by omega) h.2⟩
 ·rename_i hb;rw [if_neg hb] at h;exact hP _ _ hl h
mutual
theorem kC:∀ (x:X) (a b:Nat),b<=a->W x a->W x b
 | .lit k n t,a,b,hl,h=>by unfold W at h ⊢;exact h
 | .col _ nm,a,b,hl,h=>by unfold W at h ⊢;exact h
 | .pre _ s x,a,b,hl,h=>by
  unfold W at h ⊢
  exact ⟨by omega,h.2.1,h.2.2.less (kC x) (by omega)⟩
 | .inf _ s l r,a,b,hl,h=>by
  unfold W at h ⊢
  exact ⟨h.1,h.2.1,h.2.2.1.less (kC l) hl,h.2.2.2.less (kC r) hl⟩
 | .app _ nm l,a,b,hl,h=>by
  unfold W at h ⊢
  exact ⟨by omega,h.2.1,uv l _ _ (by omega) h.2.2⟩
theorem uv:∀ (l:List X) (a b:Nat),b<=a->Ws l a->Ws l b
 | [],a,b,hl,h=>by unfold Ws;trivial
 | x::l,a,b,hl,h=>by
  unfold Ws at h ⊢
  exact ⟨kC x a b hl h.1,uv l a b hl h.2⟩
end
theorem Ws.snoc {x:X} {lev:Nat} (hx:W x lev):∀ {l:List X},Ws l lev->Ws (l++[x]) lev
 | [],_=>by rw [List.nil_append];unfold Ws;exact ⟨hx,by unfold Ws;trivial⟩
 | y::l,h=>by unfold Ws at h;rw [List.cons_append];unfold Ws;exact ⟨h.1,Ws.snoc hx h.2⟩
theorem pq {x:X} {r q:Int} {lev:Nat} (hq:q<=r) (h:WB (W x) (decide (dm x<r)) lev):WB (W x) (decide (dm x<q)) lev:=by
 unfold WB at h ⊢
 by_cases h1:dm x<q
 ·rw [if_pos (by simpa using h1)]
  rw [if_pos (by simp;omega)] at h
  exact h
 ·rw [if_neg (by simpa using h1)]
  by_cases h2:dm x<r
  ·rw [if_pos (by simpa using h2)] at h
   exact kC x _ _ (by omega) h.2
  ·rw [if_neg (by simpa using h2)] at h
   exact h
theorem n8 {x:X} {r:Int} {lev:Nat} (hr:r<=dm x) (h:W x lev):WB (W x) (decide (dm x<r)) lev:=by
 unfold WB
 rw [if_neg (by simp;omega)]
 exact h
theorem yh (k n:Int) (s:ByteArray):dm (.lit k n s)=7:=rfl
theorem zq (p:Nat) (s:ByteArray):dm (.col p s)=7:=rfl
theorem CT (p:Nat) (s:ByteArray) (l:List X):dm (.app p s l)=7:=rfl
theorem oA (p:Nat) (s:ByteArray) (x:X):dm (.pre p s x)=az s:=rfl
theorem kD (p:Nat) (s:ByteArray) (l r:X):dm (.inf p s l r)=bW s:=rfl
theorem rk_nn (x:X):0<=dm x:=by
 cases x with
 | lit=>rw [yh];decide
 | col=>rw [zq];decide
 | app=>rw [CT];decide
 | pre=>rw [oA];unfold az;split<;>decide
 | inf=>rw [kD];omega
theorem Aq {r:Nat} {s:ByteArray} (h:pr r s):az s=r/\(s=dz\/s=bh):=by
 rcases h with ⟨rfl,rfl⟩ | ⟨rfl,rfl⟩
 ·exact ⟨by decide +kernel,.inl rfl⟩
 ·exact ⟨by decide +kernel,.inr rfl⟩
theorem Eg {x:X} {lev:Nat} (h:WB (W x) (decide (dm x<((0:Nat):Int))) lev):W x lev:=by
 unfold WB at h
 rw [if_neg (by have:=rk_nn x;simp;omega)] at h
 exact h
def MW:Mode->Nat->Prop
 | .D _,_=>True
 | .J r l,lev=>jr r/\WB (W l) (decide (dm l<(r:Int))) lev
 | .Z _ nm,_=>NmOk nm
 | .A _ nm l,lev=>NmOk nm/\Ws l lev
def RW:Mode->Nat->X->Prop
 | .D r,lev,x=>WB (W x) (decide (dm x<(r:Int))) lev
 | .J r _,lev,x=>WB (W x) (decide (dm x<(r:Int))) lev
 | .Z _ _,lev,x=>dm x=7/\∀ l0,lev=l0+1->l0<12->W x l0
 | .A _ _ _,lev,x=>dm x=7/\∀ l0,lev=l0+1->l0<12->W x l0
theorem Eu {E:Nat} {m:Mode} {lev:Nat} {ts:List Tk} {o:PR} (h:Ps Dc.LV E m lev ts o) :
 lev<=12->(∀ t∈ts,TkOk t.kd t.tx)->MW m lev->∀ x ts',o=.ok (x,ts')->RW m lev x:=by
 induction h with
 | jend h=>intro hl hw hm x ts' e;cases e;exact hm.2
 | jok hj hp _ ih1 ih2=>
  intro hl hw hm x ts' e
  exact ih2 hl (fun t ht=>hw t (hp.suffix _ _ rfl t ht)) ⟨hj,pq (by omega) (ih1 hl hw trivial _ _ rfl)⟩ x ts' e
 | @jstep r l lev t ts x ts1 fB hs hp _ ih1 ih2=>
  intro hl hw hm x' ts' e
  have hw1:=fun t ht=>hw t (List.mem_cons_of_mem _ ht)
  refine ih2 hl (fun t ht=>hw1 t (hp.suffix _ _ rfl t ht)) ?_ x' ts' e
  have hr:dm (.inf t.pl t.tx l x)=r:=by rw [kD,hs]
  have h1:WB (W x) (decide (dm x<((r+1:Nat):Int))) lev:=ih1 hl hw1 trivial _ _ rfl
  refine ⟨hm.1,n8 (Int.le_of_eq hr.symm) ?_⟩
  have h3:r≠3:=fun h=>dy (h▸hm.1)
  have h7:r≠7:=fun h=>aP (h▸hm.1)
  have hlr:cZ t.tx=r:=by unfold cZ;rw [if_neg (by rw [hs];omega),hs]
  unfold W
  refine ⟨by rw [hs];exact h7,⟨_,hw t (List.mem_cons_self ..)⟩,by rw [hlr];exact hm.2,?_⟩
  rw [hs]
  have e1:((r:Int)+1)=((r+1:Nat):Int):=by omega
  rw [e1]
  exact h1
 | @pok r s lev t ts x ts1 hpr ht hne _ ih1=>
  intro hl hw hm x' ts' e
  cases e
  have hw1:=fun t ht=>hw t (List.mem_cons_of_mem _ ht)
  have h1:WB (W x) (decide (dm x<(r:Int))) (lev+1):=ih1 (by omega) hw1 trivial _ _ rfl
  have h2:=Aq hpr
  have hr:dm (.pre t.pl t.tx x)=r:=by rw [oA,ht];exact h2.1
  refine n8 (Int.le_of_eq hr.symm) ?_
  unfold W
  refine ⟨by omega,by rw [ht];exact h2.2,?_⟩
  rw [ht,h2.1]
  exact h1
 | pnone _ _ _ ih1=>intro hl hw hm x ts' e;exact pq (by omega) (ih1 hl hw trivial _ _ e)
 | cnone _ _ ih1=>intro hl hw hm x ts' e;cases e;exact pq (by decide) (ih1 hl hw trivial _ _ rfl)
 | @cok lev ts l t ts1 x ts2 hp hs hp2 ih1 ih2=>
  intro hl hw hm x' ts' e
  cases e
  have hw1:=fun t ht=>hw t (hp.suffix _ _ rfl t ht)
  have h1:WB (W l) (decide (dm l<((4:Nat):Int))) lev:=ih1 hl hw trivial _ _ rfl
  have h2:WB (W x) (decide (dm x<((4:Nat):Int))) lev:=ih2 hl (fun t ht=>hw1 t (List.mem_cons_of_mem _ ht)) trivial _ _ rfl
  have hr:dm (.inf t.pl t.tx l x)=((3:Nat):Int):=by rw [kD,hs]
  refine n8 (Int.le_of_eq hr.symm) ?_
  have hlr:cZ t.tx=((4:Nat):Int):=by unfold cZ;rw [if_pos (by rw [hs];rfl)];rfl
  unfold W
  refine ⟨by rw [hs];decide,⟨_,hw1 t (List.mem_cons_self ..)⟩,by rw [hlr];exact h1,?_⟩
  rw [hs]
  exact h2
 | @lit lev t ts k n s hl hk=>
  intro hlv hw hm x ts' e
  cases e
  have h1:=hw _ (List.mem_cons_self ..)
  refine n8 (by rw [yh];decide) ?_
  have e4:=hk.2.2.2
  unfold W
  rw [e4]
  exact ⟨hk,t.kd,h1,hl⟩
 | ncol h1 h2 h3 h4 h5 h6=>
  intro hl hw hm x ts' e
  cases e
  have h:=hw _ (List.mem_cons_self ..)
  rw [h3] at h
  refine n8 (by rw [zq];decide) ?_
  unfold W
  exact ⟨h,h4,h5,h2⟩
 | zend=>
  intro hl hw hm x ts' e
  cases e
  refine ⟨rfl,fun l0 e1 e2=>?_⟩
  unfold W
  exact ⟨e2,hm,by unfold Ws;trivial⟩
 | aend=>
  intro hl hw hm x ts' e
  cases e
  refine ⟨rfl,fun l0 e1 e2=>?_⟩
  subst e1
  unfold W
  exact ⟨e2,hm.1,hm.2⟩
 | @ook lev t ts x t1 ts1 _ _ hne _ _ ih1=>
  intro hl hw hm x' ts' e
  cases e
  have h1:=Eg (ih1 (by omega) (fun t ht=>hw t (List.mem_cons_of_mem _ ht)) trivial _ _ rfl)
  show WB (W x) (decide (dm x<((7:Nat):Int))) lev
  unfold WB
  split
  ·exact ⟨by omega,h1⟩
  ·exact kC x _ _ (by omega) h1
 | nargs a1 a2 a3 a4 a5 a6 hne _ ih1=>
  intro hl hw hm x ts' e
  have h:=hw _ (List.mem_cons_self ..)
  rw [a3] at h
  have h1:=ih1 (by omega) (fun t ht=>hw t (List.mem_cons_of_mem _ (List.mem_cons_of_mem _ ht))) ⟨h,a4,a5,a2⟩ _ _ e
  exact n8 (by rw [h1.1];decide) (h1.2 _ rfl (by omega))
 | zok _ hp _ ih1 ih2=>
  intro hl hw hm x ts' e
  have h1:=Eg (ih1 hl hw trivial _ _ rfl)
  have h2:=ih2 hl (fun t ht=>hw t (hp.suffix _ _ rfl t ht)) ⟨hm,by unfold Ws;exact ⟨h1,by unfold Ws;trivial⟩⟩ x ts' e
  exact h2
 | aok _ hp _ ih1 ih2=>
  intro hl hw hm x ts' e
  have hw1:=fun t ht=>hw t (List.mem_cons_of_mem _ ht)
  have h1:=Eg (ih1 hl hw1 trivial _ _ rfl)
  have h2:=ih2 hl (fun t ht=>hw1 t (hp.suffix _ _ rfl t ht)) ⟨hm.1,Ws.snoc h1 hm.2⟩ x ts' e
  exact h2
 | _=>intro hl hw hm x ts' e;cases e
theorem px_w {s:ByteArray} {x:X} (h:PX Dc.LV s (.ok x)):W x 0:=by
 cases h with
 | ok h1 h2 h3=>exact Eg (Eu h3 (by omega) (tok_tk _ _ _ _ h2) trivial _ _ rfl)
def TB (P:X->List Tk->Prop) (b:Bool) (y:X) (u:List Tk):Prop:=
 if b=true then ∃ (t1 t2:Tk) (v:List Tk),u=t1::(v++[t2])/\t1.kd=4/\t1.tx=cf/\t2.tx=dA/\P y v else P y u
mutual
def TX:X->X->List Tk->Prop
 | .lit k n t,x',ts=>∃ tk:Tk,ts=[tk]/\tk.tx=Vl.showB k n t/\cR tk/\x'=.lit k n t
 | .col _ nm,x',ts=>∃ tk:Tk,ts=[tk]/\tk.tx=nm/\tk.kd=1/\x'=.col tk.pl nm
 | .pre _ s x,x',ts=>∃ (tk:Tk) (y:X) (u:List Tk),ts=tk::u/\tk.tx=s/\TB (TX x) (decide (dm x<az s)) y u/\x'=.pre tk.pl s y
 | .inf _ s l r,x',ts=>∃ (tk:Tk) (y z:X) (u v:List Tk),ts=u++tk::v/\tk.tx=s/\TB (TX l) (decide (dm l<cZ s)) y u/\TB (TX r) (decide (dm r<(bW s:Int)+1)) z v/\x'=.inf tk.pl s y z
 | .app _ nm l,x',ts=>∃ (tk t1 t2:Tk) (ys:List X) (u:List Tk),ts=tk::t1::(u++[t2])/\tk.tx=nm/\tk.kd=1/\t1.tx=cf/\t2.tx=dA/\TXs l ys u/\x'=.app tk.pl nm ys
def TXs:List X->List X->List Tk->Prop
 | [],ys,u=>ys=[]/\u=[]
 | x::l,ys,u=>∃ (y:X) (ys':List X) (v v':List Tk),TX x y v/\TXt l ys' v'/\ys=y::ys'/\u=v++v'
def TXt:List X->List X->List Tk->Prop
 | [],ys,u=>ys=[]/\u=[]
 | x::l,ys,u=>∃ (y:X) (ys':List X) (tk:Tk) (v v':List Tk),tk.tx=iA/\TX x y v/\TXt l ys' v'/\ys=y::ys'/\u=tk::(v++v')
end
theorem tk_kd {kd kd' n:Nat} {s:ByteArray} (h:TkOk kd s) (e:bJ (s.data.toList++[])=some (kd',n)):kd=kd':=by
 have h1:=h.2 [] (by intro c hc;cases hc)
 rw [h1] at e
 cases e;rfl
theorem CA {kd:Nat} {s:ByteArray} (h:TkOk kd s) (hl:kd=2\/kd=3\/s=iJ\/s=fY):s≠dz/\s≠bh/\s≠dA:=by
 refine ⟨fun e=>?_,fun e=>?_,fun e=>?_⟩
 ·subst e
  have hk:=tk_kd (kd':=1) (n:=3) h (by decide +kernel)
  rcases hl with h1 | h1 | h1 | h1
  ·omega
  ·omega
  ·exact absurd h1 (by decide +kernel)
  ·exact absurd h1 (by decide +kernel)
 ·subst e
  have hk:=tk_kd (kd':=4) (n:=1) h (by decide +kernel)
  rcases hl with h1 | h1 | h1 | h1
  ·omega
  ·omega
  ·exact absurd h1 (by decide +kernel)
  ·exact absurd h1 (by decide +kernel)
 ·subst e
  have hk:=tk_kd (kd':=4) (n:=1) h (by decide +kernel)
  rcases hl with h1 | h1 | h1 | h1
  ·omega
  ·omega
  ·exact absurd h1 (by decide +kernel)
  ·exact absurd h1 (by decide +kernel)
theorem cQ {s:ByteArray} (h:NmOk s):s≠dz/\s≠bh/\s≠dA:=by
 obtain ⟨h1,h2,h3,h4⟩:=h
 refine ⟨fun e=>h2 (by rw [e];unfold fB;simp),fun e=>?_,fun e=>?_⟩
 ·subst e
  have hk:=tk_kd (kd':=4) (n:=1) h1 (by decide +kernel)
  omega
 ·subst e
  have hk:=tk_kd (kd':=4) (n:=1) h1 (by decide +kernel)
  omega
theorem nC (s:ByteArray) (h:bW s≠7):(jr (bW s)\/bW s=3):=by
 unfold bW at h ⊢
 unfold jr
 repeat' split
 all_goals first | omega | simp_all
def rT (x:X) (ts:List Tk):Prop:=∃ t0 u,ts=t0::u/\(2<dm x->t0.tx≠dz)/\(6<dm x->t0.tx≠bh)/\t0.tx≠dA
theorem jv:∀ (x:X) (lev:Nat) (x':X) (ts:List Tk),W x lev->TX x x' ts->rT x ts
 | .lit k n t,lev,x',ts,hw,ht=>by
  unfold W at hw
  unfold TX at ht
  obtain ⟨tk,rfl,h2,h3,rfl⟩:=ht
  obtain ⟨_,kd,h4,h5⟩:=hw
  have:=CA h4 h5
  exact ⟨tk,[],rfl,fun _=>by rw [h2];exact this.1,fun _=>by rw [h2];exact this.2.1,by rw [h2];exact this.2.2⟩
 | .col _ nm,lev,x',ts,hw,ht=>by
  unfold W at hw
  unfold TX at ht
  obtain ⟨tk,rfl,h2,h3,rfl⟩:=ht
  have:=cQ hw
  exact ⟨tk,[],rfl,fun _=>by rw [h2];exact this.1,fun _=>by rw [h2];exact this.2.1,by rw [h2];exact this.2.2⟩
 | .app _ nm l,lev,x',ts,hw,ht=>by
  unfold W at hw
  unfold TX at ht
  obtain ⟨tk,t1,t2,ys,u,rfl,h2,h3,_⟩:=ht
  have:=cQ hw.2.1
  exact ⟨tk,_,rfl,fun _=>by rw [h2];exact this.1,fun _=>by rw [h2];exact this.2.1,by rw [h2];exact this.2.2⟩
 | .pre _ s x,lev,x',ts,hw,ht=>by
  unfold W at hw
  unfold TX at ht
  obtain ⟨tk,y,u,rfl,h2,_⟩:=ht
  refine ⟨tk,u,rfl,?_⟩
  rw [oA,h2]
  rcases hw.2.1 with rfl | rfl
  ·exact ⟨fun h=>absurd h (by decide +kernel),fun h=>absurd h (by decide +kernel),by decide +kernel⟩
  ·exact ⟨fun _=>by decide +kernel,fun h=>absurd h (by decide +kernel),by decide +kernel⟩
 | .inf _ s l r,lev,x',ts,hw,ht=>by
  unfold W at hw
  unfold TX at ht
  obtain ⟨tk,y,z,u,v,rfl,h2,h3,h4,_⟩:=ht
  have h6:¬ (6:Int)<bW s:=by rcases nC s hw.1 with h | h;(unfold jr at h;omega);omega
  have hwl:=hw.2.2.1
  unfold TB at h3
  unfold WB at hwl
  split at h3
  ·obtain ⟨t1,t2,v',rfl,h5,h6',h7,_⟩:=h3
   exact ⟨t1,_,rfl,fun _=>by rw [h6'];decide +kernel,fun _=>by rw [h6'];decide +kernel,by rw [h6'];decide +kernel⟩
  ·rename_i hb
   rw [if_neg hb] at hwl
   obtain ⟨t0,u',rfl,h7,h8,h9⟩:=jv l lev y u hwl h3
   refine ⟨t0,_,rfl,fun h=>h7 ?_,fun h=>absurd h (by rw [kD];exact h6),h9⟩
   rw [kD] at h
   have hb':¬ dm l<cZ s:=by simpa using hb
   unfold cZ at hb'
   split at hb'<;>omega
def FC (E r:Nat) (rest:List Tk):Prop:=(∀ q,r<=q->q<7->bW (hd E rest).tx≠q)/\(hd E rest).tx≠cf
theorem FC.up {E r q:Nat} {rest:List Tk} (h:FC E r rest) (hq:r<=q):FC E q rest:=⟨fun p h1 h2=>h.1 p (by omega) h2,h.2⟩
structure Gd (E:Nat) (x':X) (ts:List Tk) (lev r:Nat):Prop where
 d:∀ rest,FC E r rest->Ps Dc.LV E (.D r) lev (ts++rest) (.ok (x',rest))
 c:jr r->∀ rest fB,FC E (r+1) rest->Ps Dc.LV E (.J r x') lev rest fB->Ps Dc.LV E (.D r) lev (ts++rest) fB
theorem Gd.down {E:Nat} {x':X} {ts:List Tk} {lev r:Nat} (hr:r<7) (h:Gd E x' ts lev (r+1)) (hf:∃ t0 u,ts=t0::u/\(r=2->t0.tx≠dz)/\(r=6->t0.tx≠bh)):Gd E x' ts lev r:=by
 obtain ⟨t0,u,rfl,f1,f2⟩:=hf
 refine ⟨fun rest hc=>?_,fun hj rest fB hc hJ=>.jok hj (h.d rest hc) hJ⟩
 have h1:=h.d rest (hc.up (by omega))
 by_cases hj:jr r
 ·exact .jok hj h1 (.jend (hc.1 r lR hr))
 by_cases h3:r=3
 ·subst h3
  exact .cnone h1 (hc.1 3 lR hr)
 by_cases h2:r=2
 ·subst h2
  exact .pnone (.inl ⟨rfl,rfl⟩) (f1 rfl) h1
 by_cases h6:r=6
 ·subst h6
  exact .pnone (.inr ⟨rfl,rfl⟩) (f2 rfl) h1
 ·exact absurd (by unfold jr;omega) hj
theorem Gd.to {E:Nat} {x':X} {ts:List Tk} {lev:Nat}:∀ (n r:Nat),r+n<=7->Gd E x' ts lev (r+n)->(∃ t0 u,ts=t0::u/\(2<r+n->t0.tx≠dz)/\(6<r+n->t0.tx≠bh))->Gd E x' ts lev r
 | 0,r,_,h,_=>h
 | n+1,r,hr,h,hf=>by
  obtain ⟨t0,u,e,f1,f2⟩:=hf
  have h1:Gd E x' ts lev (r+n):=Gd.down (by omega) h ⟨t0,u,e,fun h=>f1 (by omega),fun h=>f2 (by omega)⟩
  exact Gd.to n r (by omega) h1 ⟨t0,u,e,fun h=>f1 (by omega),fun h=>f2 (by omega)⟩
theorem Gd.rank {E:Nat} {x x':X} {ts:List Tk} {lev q r:Nat} (h:Gd E x' ts lev q) (hq:dm x=q) (hq7:q<=7) (hf:rT x ts) (hr:(r:Int)<=dm x):Gd E x' ts lev r:=by
 obtain ⟨t0,u,e,f1,f2,_⟩:=hf
 rw [hq] at f1 f2 hr
 have e1:r+(q-r)=q:=by omega
 refine Gd.to (q-r) r (by omega) (by rw [e1];exact h) ⟨t0,u,e,fun h=>f1 (by omega),fun h=>f2 (by omega)⟩
theorem mG {E r:Nat} {t:Tk} {rest:List Tk} (h1:bW t.tx<r\/bW t.tx=7) (h2:t.tx≠cf):FC E r (t::rest):=⟨fun q h3 h4 h5=>by have:bW t.tx=q:=h5;omega,h2⟩
theorem Aw {t:Tk} (h:t.kd=4) (ht:t.tx=cf):¬ cR t:=by
 unfold cR
 rw [ht]
 intro h1
 rcases h1 with h1 | h1 | h1 | h1
 ·omega
 ·omega
 ·exact absurd h1 (by decide +kernel)
 ·exact absurd h1 (by decide +kernel)
theorem uf {t:Tk} (h:t.kd=1) (ht:¬ fB t.tx):¬ cR t:=by
 unfold cR
 intro h1
 rcases h1 with h1 | h1 | h1 | h1
 ·omega
 ·omega
 ·exact ht (by rw [h1];unfold fB;simp)
 ·exact ht (by rw [h1];unfold fB;simp)
theorem AH {E:Nat} {x y:X} {u:List Tk} {lev r:Nat} (hr:r<=7) (hw:WB (W x) (decide (dm x<(r:Int))) lev) (ht:TB (TX x) (decide (dm x<(r:Int))) y u)
 (ih:∀ lev y u,W x lev->TX x y u->∀ q:Nat,(q:Int)<=dm x->Gd E y u lev q):Gd E y u lev r:=by
 unfold WB at hw
 unfold TB at ht
 by_cases hb:dm x<(r:Int)
 ·rw [if_pos (by simpa using hb)] at hw ht
  obtain ⟨t1,t2,v,rfl,h1,h2,h3,h4⟩:=ht
  have h5:=ih (lev+1) y v hw.2 h4 0 (rk_nn x)
  have h7:Gd E y (t1::(v++[t2])) lev 7:=⟨fun rest hc=>by
   have h6:=h5.d (t2::rest) (mG (by rw [h3];right;decide +kernel) (by rw [h3];decide +kernel))
   rw [List.cons_append,List.append_assoc]
   exact .ook (Aw h1 h2) h2 (by omega) h6 h3,fun hj=>(aP hj).elim⟩
  have e1:r+(7-r)=7:=by omega
  exact Gd.to (7-r) r (by omega) (by rw [e1];exact h7) ⟨t1,_,rfl,fun _=>by rw [h2];decide +kernel,fun _=>by rw [h2];decide +kernel⟩
 ·rw [if_neg (by simpa using hb)] at hw ht
  exact ih lev y u hw ht r (by omega)
theorem xu (s:ByteArray) (h:bW s≠7):s≠cf:=by
 intro e
 subst e
 exact h (by decide +kernel)
mutual
theorem gd_x {E:Nat}:∀ (x:X) (lev:Nat) (y:X) (u:List Tk),W x lev->TX x y u->∀ q:Nat,(q:Int)<=dm x->Gd E y u lev q
 | .lit k n t,lev,y,u,hw,ht,q,hq=>by
  have hf:=jv _ _ _ _ hw ht
  unfold W at hw
  unfold TX at ht
  obtain ⟨tk,rfl,h2,h3,rfl⟩:=ht
  have h7:Gd E (.lit k n t) [tk] lev 7:=⟨fun rest hc=>.lit h3 (by rw [h2];exact hw.1),fun hj=>(aP hj).elim⟩
  exact h7.rank (q:=7) rfl lR hf hq
 | .col p nm,lev,y,u,hw,ht,q,hq=>by
  have hf:=jv _ _ _ _ hw ht
  unfold W at hw
  unfold TX at ht
  obtain ⟨tk,rfl,rfl,h3,rfl⟩:=ht
  obtain ⟨a1,a2,a3,a4⟩:=hw
  have h7:Gd E (.col tk.pl tk.tx) [tk] lev 7:=⟨fun rest hc=>.ncol (uf h3 a2) a4 h3 a2 a3 hc.2,fun hj=>(aP hj).elim⟩
  exact h7.rank (q:=7) (x:=.col p tk.tx) rfl lR hf hq
 | .pre p s x,lev,y,u,hw,ht,q,hq=>by
  have hf:=jv _ _ _ _ hw ht
  unfold W at hw
  unfold TX at ht
  obtain ⟨tk,z,v,rfl,rfl,h3,rfl⟩:=ht
  obtain ⟨a1,a2,a3⟩:=hw
  obtain ⟨r,hr,hp,hr7⟩:∃ r:Nat,az tk.tx=r/\pr r tk.tx/\r<7:=by
   rcases a2 with e | e
   ·rw [e];exact ⟨2,by decide +kernel,.inl ⟨rfl,rfl⟩,by omega⟩
   ·rw [e];exact ⟨6,by decide +kernel,.inr ⟨rfl,rfl⟩,by omega⟩
  rw [hr] at a3 h3
  have h4:=AH (E:=E) (by omega) a3 h3 (gd_x x)
  have h5:Gd E (.pre tk.pl tk.tx z) (tk::v) lev r:=⟨fun rest hc=>.pok hp rfl (by omega) (h4.d rest hc),fun hj=>(bA hj hp).elim⟩
  exact h5.rank (x:=.pre p tk.tx x) (by rw [oA];exact hr) (by omega) hf hq
 | .inf p s l r,lev,y,u,hw,ht,q,hq=>by
  have hf:=jv _ _ _ _ hw ht
  unfold W at hw
  unfold TX at ht
  obtain ⟨tk,z,z',v,v',rfl,rfl,h3,h4,rfl⟩:=ht
  obtain ⟨a1,a2,a3,a4⟩:=hw
  have hop:=xu _ a1
  have e1:((bW tk.tx:Int)+1)=((bW tk.tx+1:Nat):Int):=by omega
  rw [e1] at a4 h4
  have hs:=nC _ a1
  have hlt:bW tk.tx<7:=by rcases hs with h | h;(unfold jr at h;omega);omega
  have g2:=AH (E:=E) (by omega) a4 h4 (gd_x r)
  have hg:Gd E (.inf tk.pl tk.tx z z') (v++tk::v') lev (bW tk.tx):=by
   rcases hs with hj | h3'
   ·have h3':bW tk.tx≠3:=fun h=>dy (h▸hj)
    have hlr:cZ tk.tx=(bW tk.tx:Int):=by unfold cZ;rw [if_neg (by omega)]
    rw [hlr] at a3 h3
    have g1:=AH (E:=E) (by omega) a3 h3 (gd_x l)
    have hc:∀ rest fB,FC E (bW tk.tx+1) rest->Ps Dc.LV E (.J (bW tk.tx) (.inf tk.pl tk.tx z z')) lev rest fB->Ps Dc.LV E (.D (bW tk.tx)) lev ((v++tk::v')++rest) fB:=by
     intro rest fB hc hJ
     rw [List.append_assoc,List.cons_append]
     exact g1.c hj (tk::(v'++rest)) fB (mG (by left;omega) hop) (.jstep rfl (g2.d rest hc) hJ)
    exact ⟨fun rest hc'=>hc rest _ (hc'.up (by omega)) (.jend (hc'.1 _ lR hlt)),fun _=>hc⟩
   ·have hlr:cZ tk.tx=((4:Nat):Int):=by unfold cZ;rw [if_pos (by omega)];rfl
    rw [hlr] at a3 h3
    have g1:=AH (E:=E) (by omega) a3 h3 (gd_x l)
    rw [h3'] at g2 ⊢
    refine ⟨fun rest hc'=>?_,fun hj=>(dy hj).elim⟩
    rw [List.append_assoc,List.cons_append]
    exact .cok (g1.d (tk::(v'++rest)) (mG (by left;omega) hop)) h3' (g2.d rest (hc'.up (by omega)))
  exact hg.rank (x:=.inf p tk.tx l r) (by rw [kD]) (by omega) hf hq
 | .app p nm l,lev,y,u,hw,ht,q,hq=>by
  have hf:=jv _ _ _ _ hw ht
  unfold W at hw
  unfold TX at ht
  obtain ⟨tk,t1,t2,ys,v,rfl,rfl,h3,h4,h5,h6,rfl⟩:=ht
  obtain ⟨b1,⟨a1,a2,a3,a4⟩,b2⟩:=hw
  have h7:Gd E (.app tk.pl tk.tx ys) (tk::t1::(v++[t2])) lev 7:=⟨fun rest hc=>by
   rw [List.cons_append,List.cons_append,List.append_assoc]
   exact .nargs (uf h3 a2) a4 h3 a2 a3 h4 (by omega) (Dl l (lev+1) ys v b2 h6 tk.pl tk.tx t2 h5 rest),fun hj=>(aP hj).elim⟩
  exact h7.rank (q:=7) (x:=.app p tk.tx l) rfl lR hf hq
theorem Dl {E:Nat}:∀ (l:List X) (lev:Nat) (ys:List X) (u:List Tk),Ws l lev->TXs l ys u->∀ (pl:Nat) (nm:ByteArray) (t2:Tk),t2.tx=dA->∀ rest,Ps Dc.LV E (.Z pl nm) lev (u++t2::rest) (.ok (.app pl nm ys,rest))
 | [],lev,ys,u,hw,ht,pl,nm,t2,h2,rest=>by
  unfold TXs at ht
  obtain ⟨rfl,rfl⟩:=ht
  exact .zend h2
 | x::l,lev,ys,u,hw,ht,pl,nm,t2,h2,rest=>by
  unfold TXs at ht
  unfold Ws at hw
  obtain ⟨y,ys',v,v',h3,h4,rfl,rfl⟩:=ht
  obtain ⟨t0,v0,e0,-,-,f3⟩:=jv _ _ _ _ hw.1 h3
  rw [List.append_assoc]
  have h5:=Bx (E:=E) l lev ys' v' hw.2 h4 pl nm [y] t2 h2 rest
  refine .zok (by rw [e0];exact f3) ((gd_x x lev y v hw.1 h3 0 (rk_nn x)).d (v'++t2::rest) ?_) h5
  cases l with
  | nil=>
   unfold TXt at h4
   obtain ⟨-,rfl⟩:=h4
   exact mG (by rw [h2];right;decide +kernel) (by rw [h2];decide +kernel)
  | cons x' l'=>
   unfold TXt at h4
   obtain ⟨_,_,tk,_,_,h6,-,-,-,rfl⟩:=h4
   exact mG (by rw [h6];right;decide +kernel) (by rw [h6];decide +kernel)
theorem Bx {E:Nat}:∀ (l:List X) (lev:Nat) (ys:List X) (u:List Tk),Ws l lev->TXt l ys u->∀ (pl:Nat) (nm:ByteArray) (acc:List X) (t2:Tk),t2.tx=dA->∀ rest,Ps Dc.LV E (.A pl nm acc) lev (u++t2::rest) (.ok (.app pl nm (acc++ys),rest))
 | [],lev,ys,u,hw,ht,pl,nm,acc,t2,h2,rest=>by
  unfold TXt at ht
  obtain ⟨rfl,rfl⟩:=ht
  rw [List.append_nil]
  exact .aend h2
 | x::l,lev,ys,u,hw,ht,pl,nm,acc,t2,h2,rest=>by
  unfold TXt at ht
  unfold Ws at hw
  obtain ⟨y,ys',tk,v,v',h6,h3,h4,rfl,rfl⟩:=ht
  have h5:=Bx (E:=E) l lev ys' v' hw.2 h4 pl nm (acc++[y]) t2 h2 rest
  rw [List.append_assoc] at h5
  rw [List.cons_append,List.append_assoc]
  refine .aok h6 ((gd_x x lev y v hw.1 h3 0 (rk_nn x)).d (v'++t2::rest) ?_) h5
  cases l with
  | nil=>
   unfold TXt at h4
   obtain ⟨-,rfl⟩:=h4
   exact mG (by rw [h2];right;decide +kernel) (by rw [h2];decide +kernel)
  | cons x' l'=>
   unfold TXt at h4
   obtain ⟨_,_,tk,_,_,h6,-,-,-,rfl⟩:=h4
   exact mG (by rw [h6];right;decide +kernel) (by rw [h6];decide +kernel)
end
end Bp
end Go.Proofs.YtiiliobffnhpmaaGreatDoor
