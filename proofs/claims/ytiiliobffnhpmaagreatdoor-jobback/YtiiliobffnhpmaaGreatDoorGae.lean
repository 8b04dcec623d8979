import Derived.Test.YtiiliobffnhpmaaGreatDoorGaa
import Derived.Test.YtiiliobffnhpmaaGreatDoorProg
import Derived.WalkSmall
import Derived.Laws.Cover1
import Derived.Handy
import Derived.Deep.DrawnRows
import Derived.Deep.RegionWith
import Derived.BigQuiet
import Derived.Deep.OwnRows
import Derived.Lib.Bytealg
set_option linter.all false
set_option maxRecDepth 100000
set_option maxHeartbeats 4000000
namespace Go.Proofs.YtiiliobffnhpmaaGreatDoor
open Go.RowKit
structure Tk where
 pl:Nat
 kd:Nat
 tx:ByteArray
inductive X where
 | lit (k n:Int) (t:ByteArray)
 | col (pl:Nat) (name:ByteArray)
 | pre (pl:Nat) (sign:ByteArray) (x:X)
 | inf (pl:Nat) (sign:ByteArray) (l r:X)
 | app (pl:Nat) (name:ByteArray) (l:List X)
structure jK where
 pl:Nat
 why:Nat
abbrev PR:=Except jK (X × List Tk)
def vy:ByteArray:=⟨#[111,114]⟩
def kr:ByteArray:=⟨#[97,110,100]⟩
def dz:ByteArray:=⟨#[110,111,116]⟩
def iJ:ByteArray:=⟨#[116,114,117,101]⟩
def fY:ByteArray:=⟨#[102,97,108,115,101]⟩
def bAs:ByteArray:=⟨#[97,115]⟩
def zg:ByteArray:=⟨#[61]⟩
def xj:ByteArray:=⟨#[60,62]⟩
def za:ByteArray:=⟨#[60]⟩
def yw:ByteArray:=⟨#[60,61]⟩
def yx:ByteArray:=⟨#[62]⟩
def yF:ByteArray:=⟨#[62,61]⟩
def mf:ByteArray:=⟨#[43,43]⟩
def jq:ByteArray:=⟨#[43]⟩
def bh:ByteArray:=⟨#[45]⟩
def nh:ByteArray:=⟨#[42]⟩
def nv:ByteArray:=⟨#[47]⟩
def pw:ByteArray:=⟨#[37]⟩
def cf:ByteArray:=⟨#[40]⟩
def dA:ByteArray:=⟨#[41]⟩
def iA:ByteArray:=⟨#[44]⟩
def bW (t:ByteArray):Nat:=
 if t=vy then 0 else if t=kr then 1
 else if t=zg\/t=xj\/t=za\/t=yw\/t=yx\/t=yF then 3
 else if t=jq\/t=bh\/t=mf then 4
 else if t=nh\/t=nv\/t=pw then 5 else 7
def fB (t:ByteArray):Prop:=t=kr\/t=vy\/t=dz\/t=iJ\/t=fY\/t=bAs
instance (t:ByteArray):Decidable (fB t):=by unfold fB;infer_instance
def cR (t:Tk):Prop:=t.kd=2\/t.kd=3\/t.tx=iJ\/t.tx=fY
instance (t:Tk):Decidable (cR t):=by unfold cR;infer_instance
def hd (E:Nat):List Tk->Tk
 | []=>⟨E,0,⟨#[]⟩⟩
 | t::_=>t
inductive Mode where
 | D (r:Nat)
 | J (r:Nat) (l:X)
 | Z (pl:Nat) (name:ByteArray)
 | A (pl:Nat) (name:ByteArray) (l:List X)
def jr (r:Nat):Prop:=r=0\/r=1\/r=4\/r=5
def pr (r:Nat) (s:ByteArray):Prop:=(r=2/\s=dz)\/(r=6/\s=bh)
inductive Ps (L:ByteArray->Int->Int->ByteArray->Prop) (E:Nat):Mode->Nat->List Tk->PR->Prop
 | jbad {r lev ts f}:jr r->Ps L E (.D (r+1)) lev ts (.error f)->Ps L E (.D r) lev ts (.error f)
 | jok {r lev ts l ts1 fB}:jr r->Ps L E (.D (r+1)) lev ts (.ok (l,ts1))->Ps L E (.J r l) lev ts1 fB->Ps L E (.D r) lev ts fB
 | jend {r l lev ts}:bW (hd E ts).tx≠r->Ps L E (.J r l) lev ts (.ok (l,ts))
 | jsbad {r l lev t ts f}:bW t.tx=r->Ps L E (.D (r+1)) lev ts (.error f)->Ps L E (.J r l) lev (t::ts) (.error f)
 | jstep {r l lev t ts x ts1 fB}:bW t.tx=r->Ps L E (.D (r+1)) lev ts (.ok (x,ts1))->Ps L E (.J r (.inf t.pl t.tx l x)) lev ts1 fB->Ps L E (.J r l) lev (t::ts) fB
 | pdeep {r s t ts}:pr r s->t.tx=s->Ps L E (.D r) 12 (t::ts) (.error ⟨t.pl,4⟩)
 | pbad {r s lev t ts f}:pr r s->t.tx=s->lev≠12->Ps L E (.D r) (lev+1) ts (.error f)->Ps L E (.D r) lev (t::ts) (.error f)
 | pok {r s lev t ts x ts1}:pr r s->t.tx=s->lev≠12->Ps L E (.D r) (lev+1) ts (.ok (x,ts1))->Ps L E (.D r) lev (t::ts) (.ok (.pre t.pl t.tx x,ts1))
 | pnone {r s lev ts fB}:pr r s->(hd E ts).tx≠s->Ps L E (.D (r+1)) lev ts fB->Ps L E (.D r) lev ts fB
 | cbad {lev ts f}:Ps L E (.D 4) lev ts (.error f)->Ps L E (.D 3) lev ts (.error f)
 | cnone {lev ts l ts1}:Ps L E (.D 4) lev ts (.ok (l,ts1))->bW (hd E ts1).tx≠3->Ps L E (.D 3) lev ts (.ok (l,ts1))
 | csbad {lev ts l t ts1 f}:Ps L E (.D 4) lev ts (.ok (l,t::ts1))->bW t.tx=3->Ps L E (.D 4) lev ts1 (.error f)->Ps L E (.D 3) lev ts (.error f)
 | cok {lev ts l t ts1 x ts2}:Ps L E (.D 4) lev ts (.ok (l,t::ts1))->bW t.tx=3->Ps L E (.D 4) lev ts1 (.ok (x,ts2))->Ps L E (.D 3) lev ts (.ok (.inf t.pl t.tx l x,ts2))
 | lit {lev t ts k n s}:cR t->L t.tx k n s->Ps L E (.D 7) lev (t::ts) (.ok (.lit k n s,ts))
 | lbad {lev t ts}:cR t->(∀ k n s,¬ L t.tx k n s)->Ps L E (.D 7) lev (t::ts) (.error ⟨t.pl,1⟩)
 | odeep {t ts}:¬ cR t->t.tx=cf->Ps L E (.D 7) 12 (t::ts) (.error ⟨t.pl,4⟩)
 | obad {lev t ts f}:¬ cR t->t.tx=cf->lev≠12->Ps L E (.D 0) (lev+1) ts (.error f)->Ps L E (.D 7) lev (t::ts) (.error f)
 | oopen {lev t ts x ts1}:¬ cR t->t.tx=cf->lev≠12->Ps L E (.D 0) (lev+1) ts (.ok (x,ts1))->(hd E ts1).tx≠dA->Ps L E (.D 7) lev (t::ts) (.error ⟨(hd E ts1).pl,1⟩)
 | ook {lev t ts x t1 ts1}:¬ cR t->t.tx=cf->lev≠12->Ps L E (.D 0) (lev+1) ts (.ok (x,t1::ts1))->t1.tx=dA->Ps L E (.D 7) lev (t::ts) (.ok (x,ts1))
 | nlong {lev t ts}:¬ cR t->t.tx≠cf->t.kd=1->¬ fB t.tx->12<t.tx.size->Ps L E (.D 7) lev (t::ts) (.error ⟨t.pl,4⟩)
 | ncol {lev t ts}:¬ cR t->t.tx≠cf->t.kd=1->¬ fB t.tx->t.tx.size<=12->(hd E ts).tx≠cf->Ps L E (.D 7) lev (t::ts) (.ok (.col t.pl t.tx,ts))
 | ndeep {t t1 ts}:¬ cR t->t.tx≠cf->t.kd=1->¬ fB t.tx->t.tx.size<=12->t1.tx=cf->Ps L E (.D 7) 12 (t::t1::ts) (.error ⟨t1.pl,4⟩)
 | nargs {lev t t1 ts res'}:¬ cR t->t.tx≠cf->t.kd=1->¬ fB t.tx->t.tx.size<=12->t1.tx=cf->lev≠12->Ps L E (.Z t.pl t.tx) (lev+1) ts res'->Ps L E (.D 7) lev (t::t1::ts) res'
 | none {lev ts}:¬ cR (hd E ts)->(hd E ts).tx≠cf->¬ ((hd E ts).kd=1/\¬ fB (hd E ts).tx)->Ps L E (.D 7) lev ts (.error ⟨(hd E ts).pl,1⟩)
 | zend {pl nm lev t ts}:t.tx=dA->Ps L E (.Z pl nm) lev (t::ts) (.ok (.app pl nm [],ts))
 | zbad {pl nm lev ts f}:(hd E ts).tx≠dA->Ps L E (.D 0) lev ts (.error f)->Ps L E (.Z pl nm) lev ts (.error f)
 | zok {pl nm lev ts x ts1 fB}:(hd E ts).tx≠dA->Ps L E (.D 0) lev ts (.ok (x,ts1))->Ps L E (.A pl nm [x]) lev ts1 fB->Ps L E (.Z pl nm) lev ts fB
 | abad {pl nm l lev t ts f}:t.tx=iA->Ps L E (.D 0) lev ts (.error f)->Ps L E (.A pl nm l) lev (t::ts) (.error f)
 | aok {pl nm l lev t ts x ts1 fB}:t.tx=iA->Ps L E (.D 0) lev ts (.ok (x,ts1))->Ps L E (.A pl nm (l++[x])) lev ts1 fB->Ps L E (.A pl nm l) lev (t::ts) fB
 | aend {pl nm l lev t ts}:t.tx=dA->Ps L E (.A pl nm l) lev (t::ts) (.ok (.app pl nm l,ts))
 | anone {pl nm l lev ts}:(hd E ts).tx≠iA->(hd E ts).tx≠dA->Ps L E (.A pl nm l) lev ts (.error ⟨(hd E ts).pl,1⟩)
theorem kz {r:Nat} {s s':ByteArray} (h:pr r s) (h':pr r s'):s=s':=by
 rcases h with ⟨rfl,rfl⟩ | ⟨rfl,rfl⟩<;>rcases h' with ⟨h,rfl⟩ | ⟨h,rfl⟩<;>first | rfl | cases h
theorem bA {r:Nat} {s:ByteArray} (h:jr r) (h':pr r s):False:=by
 rcases h with rfl | rfl | rfl | rfl<;>rcases h' with ⟨h,_⟩ | ⟨h,_⟩<;>cases h
theorem dy (h:jr 3):False:=by rcases h with h | h | h | h<;>cases h
theorem aP (h:jr 7):False:=by rcases h with h | h | h | h<;>cases h
theorem bT {s:ByteArray} (h:pr 3 s):False:=by rcases h with ⟨h,_⟩ | ⟨h,_⟩<;>cases h
theorem ay {s:ByteArray} (h:pr 7 s):False:=by rcases h with ⟨h,_⟩ | ⟨h,_⟩<;>cases h
theorem Ps.shorter {L:ByteArray->Int->Int->ByteArray->Prop} {E:Nat} {m:Mode} {lev:Nat} {ts:List Tk} {o:PR} (h:Ps L E m lev ts o) :
 ∀ x ts',o=.ok (x,ts')->ts'.length<=ts.length/\((∀ r l,m≠.J r l)->ts'.length<ts.length):=by
 induction h with
 | jend h=>intro x ts' e;cases e;exact ⟨lR,fun h=>absurd rfl (h _ _)⟩
 | jok _ _ _ ih1 ih2=>
  intro x ts' e
  have h1:=(ih1 _ _ rfl).2 (by intros;simp)
  have h2:=(ih2 _ _ e).1
  exact ⟨by omega,fun _=>by omega⟩
 | jstep _ _ _ ih1 ih2=>
  intro x ts' e
  have h1:=(ih1 _ _ rfl).1
  have h2:=(ih2 _ _ e).1
  simp only [List.length_cons]
  exact ⟨by omega,fun _=>by omega⟩
 | pok _ _ _ _ ih1=>
  intro x ts' e
  cases e
  have h1:=(ih1 _ _ rfl).1
  simp only [List.length_cons]
  exact ⟨by omega,fun _=>by omega⟩
 | pnone _ _ _ ih1=>
  intro x ts' e
  have h1:=(ih1 _ _ e).2 (by intros;simp)
  exact ⟨by omega,fun _=>by omega⟩
 | cnone _ _ ih1=>
  intro x ts' e
  cases e
  have h1:=(ih1 _ _ rfl).2 (by intros;simp)
  exact ⟨by omega,fun _=>by omega⟩
 | cok _ _ _ ih1 ih2=>
  intro x ts' e
  cases e
  have h1:=(ih1 _ _ rfl).1
  have h2:=(ih2 _ _ rfl).1
  simp only [List.length_cons] at h1
  exact ⟨by omega,fun _=>by omega⟩
 | lit=>intro x ts' e;cases e;simp only [List.length_cons];exact ⟨by omega,fun _=>by omega⟩
 | ncol=>intro x ts' e;cases e;simp only [List.length_cons];exact ⟨by omega,fun _=>by omega⟩
 | zend=>intro x ts' e;cases e;simp only [List.length_cons];exact ⟨by omega,fun _=>by omega⟩
 | aend=>intro x ts' e;cases e;simp only [List.length_cons];exact ⟨by omega,fun _=>by omega⟩
 | ook _ _ _ _ _ ih1=>
  intro x ts' e
  cases e
  have h1:=(ih1 _ _ rfl).1
  simp only [List.length_cons] at h1 ⊢
  exact ⟨by omega,fun _=>by omega⟩
 | nargs _ _ _ _ _ _ _ _ ih1=>
  intro x ts' e
  have h1:=(ih1 _ _ e).1
  simp only [List.length_cons]
  exact ⟨by omega,fun _=>by omega⟩
 | zok _ _ _ ih1 ih2=>
  intro x ts' e
  have h1:=(ih1 _ _ rfl).2 (by intros;simp)
  have h2:=(ih2 _ _ e).1
  exact ⟨by omega,fun _=>by omega⟩
 | aok _ _ _ ih1 ih2=>
  intro x ts' e
  have h1:=(ih1 _ _ rfl).1
  have h2:=(ih2 _ _ e).1
  simp only [List.length_cons]
  exact ⟨by omega,fun _=>by omega⟩
 | _=>intro x ts' e;cases e
theorem Ps.less {L:ByteArray->Int->Int->ByteArray->Prop} {E:Nat} {r lev:Nat} {ts ts':List Tk} {x:X} (h:Ps L E (.D r) lev ts (.ok (x,ts'))):ts'.length<ts.length:=(h.shorter x ts' rfl).2 (by intros;simp)
theorem Ps.one {L:ByteArray->Int->Int->ByteArray->Prop} {E:Nat} (hL:∀ s k n t k' n' t',L s k n t->L s k' n' t'->k=k'/\n=n'/\t=t') {m:Mode} {lev:Nat} {ts:List Tk} {o:PR} (h:Ps L E m lev ts o) :
 ∀ o',Ps L E m lev ts o'->o=o':=by
 have q0:cf≠dA:=by decide
 have q1:iA≠dA:=by decide
 induction h with
 | jbad hj h1 ih1=>
  intro o' h'
  cases h' with
  | jbad _ h2=>exact ih1 _ h2
  | jok _ h2 _=>cases ih1 _ h2
  | pdeep hp _=>exact absurd hp (fun h=>bA hj h)
  | pbad hp _ _ _=>exact absurd hp (fun h=>bA hj h)
  | pok hp _ _ _=>exact absurd hp (fun h=>bA hj h)
  | pnone hp _ _=>exact absurd hp (fun h=>bA hj h)
  | _=>exact absurd hj (by unfold jr;omega)
 | jok hj h1 h3 ih1 ih3=>
  intro o' h'
  cases h' with
  | jbad _ h2=>cases ih1 _ h2
  | jok _ h2 h4=>cases ih1 _ h2;exact ih3 _ h4
  | pdeep hp _=>exact absurd hp (fun h=>bA hj h)
  | pbad hp _ _ _=>exact absurd hp (fun h=>bA hj h)
  | pok hp _ _ _=>exact absurd hp (fun h=>bA hj h)
  | pnone hp _ _=>exact absurd hp (fun h=>bA hj h)
  | _=>exact absurd hj (by unfold jr;omega)
 | jend hn=>
  intro o' h'
  cases h' with
  | jend _=>rfl
  | jsbad h _=>exact absurd h hn
  | jstep h _ _=>exact absurd h hn
 | jsbad hs h1 ih1=>
  intro o' h'
  cases h' with
  | jend h=>exact absurd hs h
  | jsbad _ h2=>exact ih1 _ h2
  | jstep _ h2 _=>cases ih1 _ h2
 | jstep hs h1 h3 ih1 ih3=>
  intro o' h'
  cases h' with
  | jend h=>exact absurd hs h
  | jsbad _ h2=>cases ih1 _ h2
  | jstep _ h2 h4=>cases ih1 _ h2;exact ih3 _ h4
 | pdeep hp hs=>
  intro o' h'
  cases h' with
  | pdeep _ _=>rfl
  | pbad _ _ hl _=>exact absurd rfl hl
  | pok _ _ hl _=>exact absurd rfl hl
  | pnone hp2 hn _=>exact absurd (hs.trans (kz hp hp2)) hn
  | jbad hj _=>exact absurd hp (fun h=>bA hj h)
  | jok hj _ _=>exact absurd hp (fun h=>bA hj h)
  | _=>exact absurd hp (by unfold pr;omega)
 | pbad hp hs hl h1 ih1=>
  intro o' h'
  cases h' with
  | pdeep _ _=>exact absurd rfl hl
  | pbad _ _ _ h2=>exact ih1 _ h2
  | pok _ _ _ h2=>cases ih1 _ h2
  | pnone hp2 hn _=>exact absurd (hs.trans (kz hp hp2)) hn
  | jbad hj _=>exact absurd hp (fun h=>bA hj h)
  | jok hj _ _=>exact absurd hp (fun h=>bA hj h)
  | _=>exact absurd hp (by unfold pr;omega)
 | pok hp hs hl h1 ih1=>
  intro o' h'
  cases h' with
  | pdeep _ _=>exact absurd rfl hl
  | pbad _ _ _ h2=>cases ih1 _ h2
  | pok _ _ _ h2=>cases ih1 _ h2;rfl
  | pnone hp2 hn _=>exact absurd (hs.trans (kz hp hp2)) hn
  | jbad hj _=>exact absurd hp (fun h=>bA hj h)
  | jok hj _ _=>exact absurd hp (fun h=>bA hj h)
  | _=>exact absurd hp (by unfold pr;omega)
 | pnone hp hn h1 ih1=>
  intro o' h'
  cases h' with
  | pdeep hp2 hs=>exact absurd (hs.trans (kz hp2 hp)) hn
  | pbad hp2 hs _ _=>exact absurd (hs.trans (kz hp2 hp)) hn
  | pok hp2 hs _ _=>exact absurd (hs.trans (kz hp2 hp)) hn
  | pnone _ _ h2=>exact ih1 _ h2
  | jbad hj _=>exact absurd hp (fun h=>bA hj h)
  | jok hj _ _=>exact absurd hp (fun h=>bA hj h)
  | _=>exact absurd hp (by unfold pr;omega)
 | cbad h1 ih1=>
  intro o' h'
  cases h' with
  | cbad h2=>exact ih1 _ h2
  | cnone h2 _=>cases ih1 _ h2
  | csbad h2 _ _=>cases ih1 _ h2
  | cok h2 _ _=>cases ih1 _ h2
  | jbad hj _=>exact (dy hj).elim
  | jok hj _ _=>exact (dy hj).elim
  | pdeep hp _=>exact (bT hp).elim
  | pbad hp _ _ _=>exact (bT hp).elim
  | pok hp _ _ _=>exact (bT hp).elim
  | pnone hp _ _=>exact (bT hp).elim
 | cnone h1 hn ih1=>
  intro o' h'
  cases h' with
  | cbad h2=>cases ih1 _ h2
  | cnone h2 _=>cases ih1 _ h2;rfl
  | csbad h2 hs _=>cases ih1 _ h2;exact absurd hs hn
  | cok h2 hs _=>cases ih1 _ h2;exact absurd hs hn
  | jbad hj _=>exact (dy hj).elim
  | jok hj _ _=>exact (dy hj).elim
  | pdeep hp _=>exact (bT hp).elim
  | pbad hp _ _ _=>exact (bT hp).elim
  | pok hp _ _ _=>exact (bT hp).elim
  | pnone hp _ _=>exact (bT hp).elim
 | csbad h1 hs h3 ih1 ih3=>
  intro o' h'
  cases h' with
  | cbad h2=>cases ih1 _ h2
  | cnone h2 hn=>cases ih1 _ h2;exact absurd hs hn
  | csbad h2 _ h4=>cases ih1 _ h2;exact ih3 _ h4
  | cok h2 _ h4=>cases ih1 _ h2;cases ih3 _ h4
  | jbad hj _=>exact (dy hj).elim
  | jok hj _ _=>exact (dy hj).elim
  | pdeep hp _=>exact (bT hp).elim
  | pbad hp _ _ _=>exact (bT hp).elim
  | pok hp _ _ _=>exact (bT hp).elim
  | pnone hp _ _=>exact (bT hp).elim
 | cok h1 hs h3 ih1 ih3=>
  intro o' h'
  cases h' with
  | cbad h2=>cases ih1 _ h2
  | cnone h2 hn=>cases ih1 _ h2;exact absurd hs hn
  | csbad h2 _ h4=>cases ih1 _ h2;cases ih3 _ h4
  | cok h2 _ h4=>cases ih1 _ h2;cases ih3 _ h4;rfl
  | jbad hj _=>exact (dy hj).elim
  | jok hj _ _=>exact (dy hj).elim
  | pdeep hp _=>exact (bT hp).elim
  | pbad hp _ _ _=>exact (bT hp).elim
  | pok hp _ _ _=>exact (bT hp).elim
  | pnone hp _ _=>exact (bT hp).elim
 | lit hi hl=>
  intro o' h'
  cases h' with
  | lit _ h2=>obtain ⟨rfl,rfl,rfl⟩:=hL _ _ _ _ _ _ _ hl h2;rfl
  | lbad _ h2=>exact absurd hl (h2 _ _ _)
  | jbad hj _=>exact (aP hj).elim
  | jok hj _ _=>exact (aP hj).elim
  | pdeep hp _=>exact (ay hp).elim
  | pbad hp _ _ _=>exact (ay hp).elim
  | pok hp _ _ _=>exact (ay hp).elim
  | pnone hp _ _=>exact (ay hp).elim
  | _=>first | contradiction | (rename_i h _ _;exact absurd hi h) | (rename_i h _;exact absurd hi h)
 | lbad hi hl=>
  intro o' h'
  cases h' with
  | lit _ h2=>exact absurd h2 (hl _ _ _)
  | lbad _ h2=>rfl
  | jbad hj _=>exact (aP hj).elim
  | jok hj _ _=>exact (aP hj).elim
  | pdeep hp _=>exact (ay hp).elim
  | pbad hp _ _ _=>exact (ay hp).elim
  | pok hp _ _ _=>exact (ay hp).elim
  | pnone hp _ _=>exact (ay hp).elim
  | _=>contradiction
 | odeep hi ho=>
  intro o' h'
  cases h' with
  | odeep=>rfl
  | obad _ _ h=>exact absurd rfl h
  | oopen _ _ h=>exact absurd rfl h
  | ook _ _ h=>exact absurd rfl h
  | jbad hj _=>exact (aP hj).elim
  | jok hj _ _=>exact (aP hj).elim
  | pdeep hp _=>exact (ay hp).elim
  | pbad hp _ _ _=>exact (ay hp).elim
  | pok hp _ _ _=>exact (ay hp).elim
  | pnone hp _ _=>exact (ay hp).elim
  | _=>contradiction
 | obad hi ho hl h1 ih1=>
  intro o' h'
  cases h' with
  | odeep=>exact absurd rfl hl
  | obad _ _ _ h2=>exact ih1 _ h2
  | oopen _ _ _ h2 _=>cases ih1 _ h2
  | ook _ _ _ h2 _=>cases ih1 _ h2
  | jbad hj _=>exact (aP hj).elim
  | jok hj _ _=>exact (aP hj).elim
  | pdeep hp _=>exact (ay hp).elim
  | pbad hp _ _ _=>exact (ay hp).elim
  | pok hp _ _ _=>exact (ay hp).elim
  | pnone hp _ _=>exact (ay hp).elim
  | _=>contradiction
 | oopen hi ho hl h1 hn ih1=>
  intro o' h'
  cases h' with
  | odeep=>exact absurd rfl hl
  | obad _ _ _ h2=>cases ih1 _ h2
  | oopen _ _ _ h2 _=>cases ih1 _ h2;rfl
  | ook _ _ _ h2 hs=>cases ih1 _ h2;exact absurd hs hn
  | jbad hj _=>exact (aP hj).elim
  | jok hj _ _=>exact (aP hj).elim
  | pdeep hp _=>exact (ay hp).elim
  | pbad hp _ _ _=>exact (ay hp).elim
  | pok hp _ _ _=>exact (ay hp).elim
  | pnone hp _ _=>exact (ay hp).elim
  | _=>contradiction
 | ook hi ho hl h1 hs ih1=>
  intro o' h'
  cases h' with
  | odeep=>exact absurd rfl hl
  | obad _ _ _ h2=>cases ih1 _ h2
  | oopen _ _ _ h2 hn=>cases ih1 _ h2;exact absurd hs hn
  | ook _ _ _ h2 _=>cases ih1 _ h2;rfl
  | jbad hj _=>exact (aP hj).elim
  | jok hj _ _=>exact (aP hj).elim
  | pdeep hp _=>exact (ay hp).elim
  | pbad hp _ _ _=>exact (ay hp).elim
  | pok hp _ _ _=>exact (ay hp).elim
  | pnone hp _ _=>exact (ay hp).elim
  | _=>contradiction
 | nlong hi ho hk hr hz=>
  intro o' h'
  cases h' with
  | nlong=>rfl
  | ncol _ _ _ _ h _=>omega
  | ndeep _ _ _ _ h _=>omega
  | nargs _ _ _ _ h _ _ _=>omega
  | none _ _ h=>exact absurd ⟨hk,hr⟩ h
  | jbad hj _=>exact (aP hj).elim
  | jok hj _ _=>exact (aP hj).elim
  | pdeep hp _=>exact (ay hp).elim
  | pbad hp _ _ _=>exact (ay hp).elim
  | pok hp _ _ _=>exact (ay hp).elim
  | pnone hp _ _=>exact (ay hp).elim
  | _=>contradiction
 | ncol hi ho hk hr hz hn=>
  intro o' h'
  cases h' with
  | nlong _ _ _ _ h=>omega
  | ncol=>rfl
  | ndeep _ _ _ _ _ h=>exact absurd h hn
  | nargs _ _ _ _ _ h _ _=>exact absurd h hn
  | none _ _ h=>exact absurd ⟨hk,hr⟩ h
  | jbad hj _=>exact (aP hj).elim
  | jok hj _ _=>exact (aP hj).elim
  | pdeep hp _=>exact (ay hp).elim
  | pbad hp _ _ _=>exact (ay hp).elim
  | pok hp _ _ _=>exact (ay hp).elim
  | pnone hp _ _=>exact (ay hp).elim
  | _=>contradiction
 | ndeep hi ho hk hr hz hn=>
  intro o' h'
  cases h' with
  | nlong _ _ _ _ h=>omega
  | ncol _ _ _ _ _ h=>exact absurd hn h
  | ndeep _ _ _ _ _ h=>rfl
  | nargs _ _ _ _ _ _ h _=>exact absurd rfl h
  | none _ _ h=>exact absurd ⟨hk,hr⟩ h
  | jbad hj _=>exact (aP hj).elim
  | jok hj _ _=>exact (aP hj).elim
  | pdeep hp _=>exact (ay hp).elim
  | pbad hp _ _ _=>exact (ay hp).elim
  | pok hp _ _ _=>exact (ay hp).elim
  | pnone hp _ _=>exact (ay hp).elim
  | _=>contradiction
 | nargs hi ho hk hr hz hn hl h1 ih1=>
  intro o' h'
  cases h' with
  | nlong _ _ _ _ h=>omega
  | ncol _ _ _ _ _ h=>exact absurd hn h
  | ndeep _ _ _ _ _ h=>exact absurd rfl hl
  | nargs _ _ _ _ _ _ h h2=>exact ih1 _ h2
  | none _ _ h=>exact absurd ⟨hk,hr⟩ h
  | jbad hj _=>exact (aP hj).elim
  | jok hj _ _=>exact (aP hj).elim
  | pdeep hp _=>exact (ay hp).elim
  | pbad hp _ _ _=>exact (ay hp).elim
  | pok hp _ _ _=>exact (ay hp).elim
  | pnone hp _ _=>exact (ay hp).elim
  | _=>contradiction
 | none hi ho hk=>
  intro o' h'
  cases h' with
  | nlong _ _ h1 h2 h=>exact absurd ⟨h1,h2⟩ hk
  | ncol _ _ h1 h2 _ h=>exact absurd ⟨h1,h2⟩ hk
  | ndeep _ _ h1 h2 _ h=>exact absurd ⟨h1,h2⟩ hk
  | nargs _ _ h1 h2 _ _ h _=>exact absurd ⟨h1,h2⟩ hk
  | none _ _ h=>rfl
  | jbad hj _=>exact (aP hj).elim
  | jok hj _ _=>exact (aP hj).elim
  | pdeep hp _=>exact (ay hp).elim
  | pbad hp _ _ _=>exact (ay hp).elim
  | pok hp _ _ _=>exact (ay hp).elim
  | pnone hp _ _=>exact (ay hp).elim
  | _=>contradiction
 | zend hs=>
  intro o' h'
  cases h' with
  | zend=>rfl
  | zbad h _=>exact absurd hs h
  | zok h _ _=>exact absurd hs h
 | zbad hn h1 ih1=>
  intro o' h'
  cases h' with
  | zend h=>exact absurd h hn
  | zbad _ h2=>exact ih1 _ h2
  | zok _ h2 _=>cases ih1 _ h2
 | zok hn h1 h3 ih1 ih3=>
  intro o' h'
  cases h' with
  | zend h=>exact absurd h hn
  | zbad _ h2=>cases ih1 _ h2
  | zok _ h2 h4=>cases ih1 _ h2;exact ih3 _ h4
 | abad hs h1 ih1=>
  intro o' h'
  cases h' with
  | abad _ h2=>exact ih1 _ h2
  | aok _ h2 _=>cases ih1 _ h2
  | aend h=>exact absurd (hs.symm.trans h) q1
  | anone h _=>exact absurd hs h
 | aok hs h1 h3 ih1 ih3=>
  intro o' h'
  cases h' with
  | abad _ h2=>cases ih1 _ h2
  | aok _ h2 h4=>cases ih1 _ h2;exact ih3 _ h4
  | aend h=>exact absurd (hs.symm.trans h) q1
  | anone h _=>exact absurd hs h
 | aend hs=>
  intro o' h'
  cases h' with
  | abad h _=>exact absurd (h.symm.trans hs) q1
  | aok h _ _=>exact absurd (h.symm.trans hs) q1
  | aend h=>rfl
  | anone _ h=>exact absurd hs h
 | anone h1 h2=>
  intro o' h'
  cases h' with
  | abad h _=>exact absurd h h1
  | aok h _ _=>exact absurd h h1
  | aend h=>exact absurd h h2
  | anone _ _=>rfl
def rq:ByteArray:=⟨#[108,101,110]⟩
def rV:ByteArray:=⟨#[97,98,115]⟩
def qo:ByteArray:=⟨#[99,117,116]⟩
def fV:ByteArray:=⟨#[105,115,110,117,108,108]⟩
def dY:ByteArray:=⟨#[99,111,97,108,101,115,99,101]⟩
def Cg:ByteArray:=⟨#[105,102]⟩
structure Co where
 nm:ByteArray
 k:Int
def ch (c:List Co) (nm:ByteArray):Option Nat:=c.findIdx? (fun x=>x.nm=nm)
def eY (a k met:Int):Option Int:=
 if k=(if a=0 then (if met=0 then k else met) else a) then some (if a=0/\met=0 then k else met) else none
def eX:List Int->List Int->Int->Option Int
 | a::bs,k::ks,met=>(eY a k met).bind (eX bs ks)
 | _,_,met=>some met
def lE (o:List Int × Int) (kinds:List Int):Option Int:=
 if kinds.length=o.1.length then (eX o.1 kinds 0).map (fun m=>if o.2=0 then m else o.2) else none
def bj (s:ByteArray):List Int × Int:=if s=dz then ([2],2) else ([1],1)
def aQ (s:ByteArray):List Int × Int:=
 if s=vy\/s=kr then ([2,2],2)
 else if s=zg\/s=xj\/s=za\/s=yw\/s=yx\/s=yF then ([0,0],2)
 else if s=mf then ([3,3],3) else ([1,1],1)
def eQ (s:ByteArray):Option (List Int × Int):=
 if s=rq then some ([3],1) else if s=rV then some ([1],1) else if s=qo then some ([3,1],3)
 else if s=fV then some ([0],2) else if s=dY then some ([0,0],0) else if s=Cg then some ([2,0,0],0) else none
def iR (pl:Nat):Option Int->Except jK Int
 | some k=>.ok k
 | none=>.error ⟨pl,3⟩
mutual
def bY (c:List Co):X->Except jK Int
 | .lit k _ _=>.ok k
 | .col pl nm=>match c[(ch c nm).getD c.length]? with
  | some x=>.ok x.k
  | none=>.error ⟨pl,2⟩
 | .pre pl s x=>(bY c x).bind fun k=>iR pl (lE (bj s) [k])
 | .inf pl s l r=>(bY c l).bind fun k=>(bY c r).bind fun k'=>iR pl (lE (aQ s) [k,k'])
 | .app pl nm l=>match eQ nm with
  | none=>.error ⟨pl,2⟩
  | some o=>(mT c l).bind fun ks=>iR pl (lE o ks)
def mT (c:List Co):List X->Except jK (List Int)
 | []=>.ok []
 | x::l=>(bY c x).bind fun k=>(mT c l).bind fun ks=>.ok (k::ks)
end
def eO (c:UInt8):Bool:=c==32||c==9||c==10
def eS (c:UInt8):Bool:=decide (48<=c.toNat)&&decide (c.toNat<=57)
def dZ (c:UInt8):Bool:=(decide (97<=c.toNat)&&decide (c.toNat<=122))||(decide (65<=c.toNat)&&decide (c.toNat<=90))||eS c||c==95
def bp:List UInt8->Nat
 | c::r=>if dZ c then bp r+1 else 0
 | []=>0
def cL (l:List UInt8):Nat:=
 if l.take 2∈[[60,62],[60,61],[62,61],[43,43]] then 2
 else if l.head?∈[some 61,some 60,some 62,some 43,some 45,some 42,some 47,some 37,some 40,some 41,some 44] then 1 else 0
def bJ:List UInt8->Option (Nat × Nat)
 | []=>none
 | c::r=>if eS c then some (2,bp (c::r)) else if dZ c then some (1,bp (c::r))
  else if c=39 then (r.findIdx? (·==39)).map (fun i=>(3,i+2))
  else if 0<cL (c::r) then some (4,cL (c::r)) else none
def tok:Nat->Nat->List UInt8->Except Nat (List Tk)
 | _,_,[]=>.ok []
 | 0,pl,_=>.error pl
 | n+1,pl,c::r=>if eO c then tok n (pl+1) r else
  match bJ (c::r) with
  | none=>.error pl
  | some (kd,len)=>(tok n (pl+len) ((c::r).drop len)).map fun l=>⟨pl,kd,⟨((c::r).take len).toArray⟩⟩::l
theorem jY:∀ l,bp l<=l.length
 | []=>lR
 | c::r=>by unfold bp;have:=jY r;split<;>simp only [List.length_cons]<;>omega
theorem ur (l:List UInt8):cL l<=l.length:=by
 unfold cL
 split
 ·rename_i h
  have:(l.take 2).length=2:=by
   simp only [List.mem_cons,List.not_mem_nil,or_false] at h
   rcases h with h | h | h | h<;>rw [h]<;>rfl
  rw [List.length_take] at this
  omega
 ·split
  ·rename_i h
   cases l with
   | nil=>simp at h
   | cons=>simp
  ·omega
theorem fh {l:List UInt8} {kd n:Nat} (h:bJ l=some (kd,n)):0<n/\n<=l.length:=by
 cases l with
 | nil=>cases h
 | cons c r=>
  unfold bJ at h
  dsimp only at h
  split at h
  ·rename_i hd
   cases h
   refine ⟨?_,jY _⟩
   unfold bp
   rw [if_pos (by unfold dZ;rw [hd];simp)]
   omega
  ·split at h
   ·rename_i hd
    cases h
    refine ⟨?_,jY _⟩
    unfold bp
    rw [if_pos hd]
    omega
   ·split at h
    ·rw [Option.map_eq_some_iff] at h
     obtain ⟨i,h1,h2⟩:=h
     cases h2
     have:=(List.findIdx?_eq_some_iff_findIdx_eq.1 h1).1
     simp only [List.length_cons]
     exact ⟨by omega,by omega⟩
    ·split at h
     ·cases h;exact ⟨‹_›,ur _⟩
     ·cases h
theorem af {w wx:World} {a:Addr} {v:Value} (hb:Below w.heap.size w wx) (h:w.cell? a=some v):wx.cell? a=some v:=(hb.cell (bL h)).trans h
theorem ae (w:World) (o1:Obj):Below w.heap.size w (w.alloc o1):=bR.alloc lR _
theorem tT {s t:ByteArray} (h:s.toList=t.toList):s=t:=by
 have:=congrArg List.toByteArray h
 apply ByteArray.ext
 apply Array.toList_inj.1
 simpa [ByteArray.toList_eq] using h
theorem BO {s t:ByteArray} (h:s=t):(s.toList==t.toList)=true:=by rw [h];exact beq_self_eq_true _
theorem Cs {s t:ByteArray} (h:¬ s=t):(s.toList==t.toList)=false:=by
 rw [beq_eq_false_iff_ne];exact fun e=>h (tT e)
theorem xl (t:ByteArray) (l:List UInt8):(t.toList==l)=decide (t=⟨l.toArray⟩):=by
 have e:(⟨l.toArray⟩:ByteArray).toList=l:=by simp [ByteArray.toList_eq]
 by_cases h:t=⟨l.toArray⟩
 ·rw [decide_eq_true h,h,e];exact beq_self_eq_true _
 ·rw [decide_eq_false h,beq_eq_false_iff_ne]
  exact fun h'=>h (tT (h'.trans e.symm))
theorem ni {t:ByteArray} {l:List UInt8} (h:¬ t=⟨l.toArray⟩):(t.toList==l)=false:=by rw [xl];exact decide_eq_false h
theorem zZ {P:UInt8->Prop} (h:∀ i:Fin 256,P (UInt8.ofFin i)) (c:UInt8):P c:=h c.toFin
theorem qz {a b:Bool} (h:a=b):Ending.returned (.bool a)=.returned (.bool b):=by rw [h]
theorem Bo {a b:Int} (h:a=b):Ending.returned (.int .i64 a)=.returned (.int .i64 b):=by rw [h]
theorem qq (c:UInt8) (w:World):Calls Tryz.prog 74 #[.int .u8 c.toNat] w fun e w'=>e=.returned (.bool (eO c))/\w'=w:=by
  have hc:eO c=(((c.toNat:Int)==32)||((c.toNat:Int)==9)||((c.toNat:Int)==10)):=by
    exact zZ (P:=fun c=>eO c=(((c.toNat:Int)==32)||((c.toNat:Int)==9)||((c.toNat:Int)==10))) (by decide +kernel) c
  rw [hc]
  generalize (c.toNat:Int)=n
  cases h1:(n==32)<;>cases h2:(n==9)<;>cases h3:(n==10) <;>
  · go_in
    go_wp2
    go_ret
    first | exact ⟨rfl,rfl⟩ | simp_all
theorem iI (c:UInt8) (w:World):Calls Tryz.prog 126 #[.int .u8 c.toNat] w fun e w'=>e=.returned (.bool (eS c))/\w'=w:=by
  have hc:eS c=(decide ((48:Int)<=c.toNat)&&decide ((c.toNat:Int)<=57)):=by
    exact zZ (P:=fun c=>eS c=(decide ((48:Int)<=c.toNat)&&decide ((c.toNat:Int)<=57))) (by decide +kernel) c
  rw [hc]
  generalize (c.toNat:Int)=n
  by_cases h1:48<=n<;>by_cases h2:n<=57 <;>
  · go_in
    go_wp2
    go_ret
    simp [h1,h2]
theorem iD (c:UInt8) (w:World):Calls Tryz.prog 128 #[.int .u8 c.toNat] w fun e w'=>e=.returned (.bool (dZ c))/\w'=w:=by
  have hd:=fun W=>iI c W
  have hc:dZ c=((decide ((97:Int)<=c.toNat)&&decide ((c.toNat:Int)<=122))||(decide ((65:Int)<=c.toNat)&&decide ((c.toNat:Int)<=90))||eS c||((c.toNat:Int)==95)):=by
    exact zZ (P:=fun c=>dZ c=((decide ((97:Int)<=c.toNat)&&decide ((c.toNat:Int)<=122))||(decide ((65:Int)<=c.toNat)&&decide ((c.toNat:Int)<=90))||eS c||((c.toNat:Int)==95))) (by decide +kernel) c
  rw [hc]
  generalize eS c=D at *
  generalize (c.toNat:Int)=n at *
  by_cases h1:97<=n<;>by_cases h2:n<=122<;>by_cases h3:65<=n<;>by_cases h4:n<=90<;>first | (exfalso;omega) | skip
  all_goals
    go_in
    go_wp2_with fail
    first
    | (go_ret;simp [h1,h2,h3,h4];done)
    | (refine (hd _).mono ?_
       rintro e w1 ⟨rfl,h⟩
       have:=h.symm;subst this
       cases D<;>cases h5:(n==95)<;>(go_wp2_with fail)<;>go_ret<;>simp [h1,h2,h3,h4,h5])
theorem Ae {l:List UInt8} {k:Nat} (hk:k<l.length) (h:dZ l[k]=true) (hs:bp l=k+bp (l.drop k)):bp l=(k+1)+bp (l.drop (k+1)):=by
 rw [hs,List.drop_eq_getElem_cons hk]
 conv=>lhs;rw [bp,if_pos h]
 omega
theorem zn {l:List UInt8} {k:Nat} (hk:k<l.length) (h:dZ l[k]=false) (hs:bp l=k+bp (l.drop k)):bp l=k:=by
 rw [hs,List.drop_eq_getElem_cons hk]
 rw [bp,if_neg (by rw [h];decide)]
 omega
theorem kU (s:ByteArray) (w:World) (hs:s.size<=140737488355328) :
 Calls Tryz.prog 127 #[.string s] w fun e w'=>e=.returned (.int .i64 (bp s.data.toList))/\w'=w:=by
 have hlen:s.data.toList.length=s.size:=by simp
 have HI:=jg iD
 go_in
 go_wp2
 go_loopw [3] (fun i w'=>∃ k:Nat,k<=s.size/\i=.int .i64 k/\bp s.data.toList=k+bp (s.data.toList.drop k)/\w'=w) (fun i _=>s.size-(intOf i).toNat)
 case atStart=>exact ⟨0,Nat.zero_le _,rfl,by simp,rfl⟩
 case round=>
  obtain ⟨k,hk,rfl,hsum,rfl⟩:=hrel
  have HS:=jg hsum
  by_cases hlt:k<s.size
  ·have hki:(k:Int)<(s.size:Int):=by omega
   have hk2:k<s.data.toList.length:=by omega
   have he:s.data.toList[k]=s[k]:=by simp [ByteArray.getElem_eq_getElem_data]
   cases hb:dZ s[k]
   ·have HO:=jg (zn hk2 (by rw [he];exact hb) HS.out)
    go_wp2_with fail
    refine (HI.out _ _).mono ?_
    rintro e w1 ⟨rfl,h⟩
    have:=h.symm;subst this
    rw [hb]
    go_wp2
    go_ret
    exact ⟨Bo (by rw [HO.out]),rfl⟩
   ·have HO:=jg (Ae hk2 (by rw [he];exact hb) HS.out)
    go_wp2_with fail
    refine (HI.out _ _).mono ?_
    rintro e w1 ⟨rfl,h⟩
    have:=h.symm;subst this
    rw [hb]
    go_wp2
    exact ⟨⟨k+1,by omega,by go_num,HO.out,trivial⟩,by simp [intOf];omega⟩
  ·obtain rfl:k=s.size:=by omega
   have HO:Hid (bp s.data.toList=s.size):=by
    have:=HS.out
    rw [List.drop_eq_nil_of_le (by omega)] at this
    unfold Hid;simpa [bp] using this
   go_wp2
   go_ret
   exact ⟨Bo (by rw [HO.out]),rfl⟩
theorem nk (s:ByteArray) (c:UInt8) (w:World) :
 Calls Tryz.prog 122 #[.string s,.int .u8 c.toNat] w fun e w'=>e=.returned (.int .i64 (Lib.indexByte s.data.toList c))/\w'=w:=by
 go_in
 go_wp2
 rw [run_callFunc_extern Tryz.func170 (by kernel_rfl) (by kernel_rfl) (by kernel_rfl) (e:=Extern.BytealgIndexByte.indexByte) (by kernel_rfl),Lib.run_indexByteString]
 simp only [Result.andThen]
 rw [Oper.upon_value]
 have e:(c.toNat:Int).toNat.toUInt8=c:=by simp
 rw [e]
 go_wp2
 go_ret
 exact ⟨rfl,rfl⟩
theorem jp (s:ByteArray) (c:UInt8) (w:World) :
 Calls Tryz.prog 129 #[.string s,.int .u8 c.toNat] w fun e w'=>e=.returned (.int .i64 (Lib.indexByte s.data.toList c))/\w'=w:=by
 have HI:=nk s c
 go_in
 go_wp2_with fail
 refine (HI _).mono ?_
 rintro e w1 ⟨rfl,h⟩
 have:=h.symm;subst this
 go_wp2
 go_ret
 exact ⟨rfl,rfl⟩
theorem wW (s:ByteArray) (n:Nat) (h:n<=s.size) (w:World) :
 (Instr.slice 9 (.string s) none (some (.int .i64 n)) none).run Tryz.prog w=.ok (.string ⟨(s.data.toList.take n).toArray⟩) w:=by
 have e:(Instr.slice 9 (.string s) none (some (.int .i64 n)) none).run Tryz.prog w=(Instr.slice 9 (.string s) (some (.int .i64 0)) (some (.int .i64 n)) none).run Tryz.prog w:=rfl
 rw [e,run_slice_string w 9 s .i64 .i64 0 n Tryz.underlying9 (by omega) (by omega) (by omega)]
 rw [Int.toNat_natCast,show (0:Int).toNat=0 by rfl]
 congr 2
 apply ByteArray.ext
 apply Array.toList_inj.1
 rw [ByteArray.data_extract,Array.toList_extract]
 simp [List.extract]
theorem qg (s:ByteArray) (n:Nat) (h:n<=s.size) (w:World) :
 (Instr.slice 9 (.string s) (some (.int .i64 n)) none none).run Tryz.prog w=.ok (.string ⟨(s.data.toList.drop n).toArray⟩) w:=by
 rw [run_slice_string_l (P:=Tryz.prog) w 9 s Tryz.underlying9 .i64 n (by omega) (by omega)]
 rw [Int.toNat_natCast]
 congr 2
 apply ByteArray.ext
 apply Array.toList_inj.1
 rw [ByteArray.data_extract,Array.toList_extract]
 simp [List.extract]
 rw [List.take_of_length_le]
 simp
theorem DX (c:UInt8):decide (0<=Lib.indexByte [61,60,62,43,45,42,47,37,40,41,44] c)=decide (some c∈[some (61:UInt8),some 60,some 62,some 43,some 45,some 42,some 47,some 37,some 40,some 41,some 44]):=
 zZ (P:=fun c=>decide (0<=Lib.indexByte [61,60,62,43,45,42,47,37,40,41,44] c)=decide (some c∈[some (61:UInt8),some 60,some 62,some 43,some 45,some 42,some 47,some 37,some 40,some 41,some 44])) (by decide +kernel) c
theorem AV {l:List UInt8} {c:UInt8} {r:List UInt8} (hl:l=c::r) (h2:¬ l.take 2∈[[60,62],[60,61],[62,61],[43,43]]) :
 cL l=if decide (0<=Lib.indexByte [61,60,62,43,45,42,47,37,40,41,44] c)=true then 1 else 0:=by
 unfold cL
 rw [if_neg h2,DX,hl]
 simp only [List.head?_cons,decide_eq_true_eq]
 congr
theorem rA (s:ByteArray) (w:World) (h0:0<s.size) (hs:s.size<=140737488355328) :
 Calls Tryz.prog 130 #[.string s] w fun e w'=>e=.returned (.int .i64 (cL s.data.toList))/\w'=w:=by
 have hlen:s.data.toList.length=s.size:=by simp
 have h0i:(0:Int)<(s.size:Int):=by omega
 have HI:=jg jp
 have HL:Hid (s.data.toList=s[0]::s.data.toList.drop 1):=by
  unfold Hid
  have e0:s.data.toList[0]'(by omega)=s[0]:=by simp [ByteArray.getElem_eq_getElem_data]
  rw [<-e0]
  have:=List.drop_eq_getElem_cons (l:=s.data.toList) (i:=0) (by omega)
  simpa using this
 have END:Hid (¬ s.data.toList.take 2∈[[60,62],[60,61],[62,61],[43,43]]->∀ (N:Int),N=Lib.indexByte [61,60,62,43,45,42,47,37,40,41,44] s[0]->(0<=N->Ending.returned (Value.int .i64 1)=.returned (.int .i64 (cL s.data.toList)))/\(¬ 0<=N->Ending.returned (Value.int .i64 0)=.returned (.int .i64 (cL s.data.toList)))):=by
  intro h2 N hN
  rw [AV HL.out h2,<-hN]
  exact ⟨fun h=>by rw [if_pos (decide_eq_true h)];rfl,fun h=>by rw [if_neg (by rw [decide_eq_true_eq];exact h)];rfl⟩
 by_cases h1:1<s.size
 ·have h1i:(1:Int)<(s.size:Int):=by omega
  have hsl:∀ w:World,(Instr.slice 9 (.string s) none (some (.int .i64 2)) none).run Tryz.prog w=.ok (.string ⟨(s.data.toList.take 2).toArray⟩) w:=fun w=>wW s 2 (by omega) w
  obtain ⟨T,hT⟩:∃ T:ByteArray,T=⟨(s.data.toList.take 2).toArray⟩:=⟨_,rfl⟩
  rw [<-hT] at hsl
  have HT:Hid (T.data.toList=s.data.toList.take 2):=by rw [hT];rfl
  have hT2:∀ a b:UInt8,T=⟨#[a,b]⟩->s.data.toList.take 2=[a,b]:=fun a b h=>by rw [<-HT.out,h]
  have hTn:∀ a b:UInt8,¬ T=⟨#[a,b]⟩->s.data.toList.take 2≠[a,b]:=fun a b h h'=>h (ByteArray.ext (Array.toList_inj.1 (by rw [HT.out,h'])))
  clear hT
  have two:s.data.toList.take 2∈[[60,62],[60,61],[62,61],[43,43]]->Ending.returned (Value.int .i64 2)=.returned (.int .i64 (cL s.data.toList)):=fun h=>by unfold cL;rw [if_pos h];rfl
  have HTWO:=jg two
  clear two hlen
  by_cases q1:T=⟨#[60,62]⟩
  ·have:=hT2 _ _ q1
   subst q1
   go_in
   go_wp2
   go_ret
   exact ⟨HTWO.out (by rw [this];simp),rfl⟩
  by_cases q2:T=⟨#[60,61]⟩
  ·have:=hT2 _ _ q2
   subst q2
   go_in
   go_wp2
   go_ret
   exact ⟨HTWO.out (by rw [this];simp),rfl⟩
  by_cases q3:T=⟨#[62,61]⟩
  ·have:=hT2 _ _ q3
   subst q3
   go_in
   go_wp2
   go_ret
   exact ⟨HTWO.out (by rw [this];simp),rfl⟩
  by_cases q4:T=⟨#[43,43]⟩
  ·have:=hT2 _ _ q4
   subst q4
   go_in
   go_wp2
   go_ret
   exact ⟨HTWO.out (by rw [this];simp),rfl⟩
  have n1:=ni q1
  have n2:=ni q2
  have n3:=ni q3
  have n4:=ni q4
  have E:=END.out (by simp only [List.mem_cons,List.not_mem_nil,or_false];exact fun h=>h.elim (hTn _ _ q1) (fun h=>h.elim (hTn _ _ q2) (fun h=>h.elim (hTn _ _ q3) (hTn _ _ q4))))
  have HE:=jg E
  clear E hT2 hTn q1 q2 q3 q4
  go_in
  go_wp2_with fail
  refine (HI.out _ _ _).mono ?_
  rintro e w1 ⟨rfl,h⟩
  have:=h.symm;subst this
  obtain ⟨N,hN⟩:∃ N:Int,N=Lib.indexByte [61,60,62,43,45,42,47,37,40,41,44] s[0]:=⟨_,rfl⟩
  have:=HE.out N hN
  rw [show (ByteArray.mk #[61,60,62,43,45,42,47,37,40,41,44]).data.toList=[61,60,62,43,45,42,47,37,40,41,44] from rfl,<-hN]
  clear HE hN
  by_cases hp:0<=N
  ·go_wp2
   go_ret
   exact ⟨this.1 hp,rfl⟩
  ·go_wp2
   go_ret
   exact ⟨this.2 (by omega),rfl⟩
 ·have h1i:¬ (1:Int)<(s.size:Int):=by omega
  have E:=END.out (fun h=>by
   have:(s.data.toList.take 2).length=2:=by
    simp only [List.mem_cons,List.not_mem_nil,or_false] at h
    rcases h with h | h | h | h<;>rw [h]<;>rfl
   rw [List.length_take] at this
   omega)
  have HE:=jg E
  clear E hlen
  go_in
  go_wp2_with fail
  refine (HI.out _ _ _).mono ?_
  rintro e w1 ⟨rfl,h⟩
  have:=h.symm;subst this
  obtain ⟨N,hN⟩:∃ N:Int,N=Lib.indexByte [61,60,62,43,45,42,47,37,40,41,44] s[0]:=⟨_,rfl⟩
  have:=HE.out N hN
  rw [show (ByteArray.mk #[61,60,62,43,45,42,47,37,40,41,44]).data.toList=[61,60,62,43,45,42,47,37,40,41,44] from rfl,<-hN]
  clear HE hN
  by_cases hp:0<=N
  ·go_wp2
   go_ret
   exact ⟨this.1 hp,rfl⟩
  ·go_wp2
   go_ret
   exact ⟨this.2 (by omega),rfl⟩
theorem fe (t:ByteArray) (w:World):Calls Tryz.prog 174 #[.string t] w fun e w'=>e=.returned (.bool (decide (fB t)))/\w'=w:=by
 go_in
 go_wp2
 all_goals go_ret
 all_goals simp_all [xl,fB,kr,vy,dz,iJ,fY,bAs]
end Go.Proofs.YtiiliobffnhpmaaGreatDoor
