import Derived.Test.YtiiliobffnhpmaaGreatDoorGaf
import Derived.Laws.EntriesVeiled
import Derived.Deep.RegionHeld3
set_option linter.all false
set_option maxRecDepth 100000
set_option maxHeartbeats 4000000
namespace Go.Proofs.YtiiliobffnhpmaaGreatDoor
open Go.RowKit
theorem ff:∀ (fn:Fn) (first cap:Array Value) (w:World),(Instr.makeFunc fn first cap).run Tryz.prog w=.ok (.func fn first cap) w:=fun _ _ _ _=>rfl
inductive pQ where
 | raw (n:Nat)
 | bool (n:Nat) (b:Bool)
 | one (n:Nat) (c:pQ)
def aF (w:World) (g:Nat):pQ->Value->Prop
 | .raw n,v=>v=.func (.func n) #[] #[]
 | .bool n b,v=>∃ a,v=.func (.func n) #[] #[.pointer (some ⟨a,0,none⟩)]/\g<a/\w.cell? ⟨a,0,none⟩=some (.bool b)
 | .one n c,v=>∃ a u,v=.func (.func n) #[] #[.pointer (some ⟨a,0,none⟩)]/\g<a/\w.cell? ⟨a,0,none⟩=some u/\aF w g c u
theorem aF.grown {w w':World} {g:Nat} (hg:w.grownBy w' (some g)):∀ {c:pQ} {v:Value},aF w g c v->aF w' g c v
 | .raw n,v,h=>h
 | .bool n b,v,⟨a,h1,h2,h3⟩=>⟨a,h1,h2,hg.cell h3 (fun e=>by have h:=sI e;simp only at h;omega)⟩
 | .one n c,v,⟨a,u,h1,h2,h3,h4⟩=>⟨a,u,h1,h2,hg.cell h3 (fun e=>by have h:=sI e;simp only at h;omega),aF.grown hg h4⟩
def iz (c:pQ):pQ:=.one 321 c
def dD (n:Nat):pQ:=iz (.one 319 (.raw n))
def eo (c:pQ):pQ:=iz (.one 322 c)
def lu (n:Nat):pQ:=eo (.one 323 (.raw n))
def bN (s:ByteArray):pQ:=
 if s=vy then .bool 316 true else if s=kr then .bool 316 false
 else if s=zg then dD 296 else if s=xj then dD 297 else if s=za then dD 298
 else if s=yw then dD 299 else if s=yx then dD 300 else if s=yF then dD 301
 else if s=mf then iz (.raw 303) else if s=jq then eo (.raw 306)
 else if s=bh then eo (.raw 307) else if s=nh then eo (.raw 308)
 else if s=nv then lu 310 else lu 311
def jo (s:ByteArray):pQ:=if s=dz then iz (.raw 334) else iz (.raw 335)
def kV (s:ByteArray):pQ:=
 if s=rq then iz (.raw 345) else if s=rV then iz (.raw 346) else if s=qo then iz (.raw 347)
 else if s=fV then .raw 348 else if s=dY then .raw 349 else .raw 350
def cK (w:World) (g:Nat) (x:Value) (vs:List Value):Prop:=(x=.slice none 0 0/\vs=[])\/
 ∃ b c,x=.slice (some ⟨b,0,none⟩) vs.length c/\g<b/\vs.length<=c/\c<=maxLen/\∀ i (h:i<vs.length),w.cell? ⟨b,i,none⟩=some vs[i]
theorem cK.grown {w w':World} {g:Nat} {x:Value} {vs:List Value} (h:cK w g x vs) (hg:w.grownBy w' (some g)):cK w' g x vs:=by
 rcases h with h | ⟨b,c,h1,h2,h3,h4,h5⟩
 ·exact .inl h
 ·exact .inr ⟨b,c,h1,h2,h3,h4,fun i hi=>hg.cell (h5 i hi) (fun e=>by have h:=sI e;simp only at h;omega)⟩
theorem cK.later {w w':World} {g:Nat} {x:Value} {vs:List Value} (h:cK w g x vs) (hb:Below w.heap.size w w'):cK w' g x vs:=h.grown (aj hb)
theorem cK.up {w:World} {g g':Nat} {x:Value} {vs:List Value} (h:cK w g x vs) (hg:g'<=g):cK w g' x vs:=by
 rcases h with h | ⟨b,c,h1,h2,h3,h4,h5⟩
 ·exact .inl h
 ·exact .inr ⟨b,c,h1,by omega,h3,h4,h5⟩
def cM (w:World) (g:Nat) (o:List Int × Int) (to:pQ) (e:Ending) (w':World):Prop:=
 Below w.heap.size w w'/\∃ tk f,e=.returned (.agg #[tk,.int .i64 o.2,f])/\cK w' g tk (o.1.map (Value.int .i64 ·))/\aF w' g to f
theorem tj (g:Nat) (w:World) (hg:g<w.heap.size) :
 Calls Tryz.prog 290 #[.string vy] w (cM w g (aQ vy) (bN vy)):=by
 have hmf:=ff
 rw [show aQ vy=([2,2],2) from by decide +kernel,show bN vy=.bool 316 true from rfl]
 unfold vy
 go_in
 go_wp2
 refine bodyPost_ret (by simp [results,Tryz.results290,go_sem];exact ⟨rfl,rfl⟩) rfl ⟨?_,_,_,rfl,?_,?_⟩
 ·repeat (first | exact ae _ _ | refine Below.alloc ?_ (by simp;omega) _ | refine Below.alloc ?_ (by simp) _)
 ·refine .inr ⟨_,_,rfl,by omega,by decide,by decide,fun i hi=>?_⟩
  match i,hi with
  | 0,_=>go_simp
  | 1,h=>first | (exfalso;revert h;decide) | go_simp
  | i+2,h=>exact absurd h (by simp)
 ·simp [aF,lu,eo,iz,dD,go_sem]
  try omega
theorem qQ (g:Nat) (w:World) (hg:g<w.heap.size) :
 Calls Tryz.prog 290 #[.string kr] w (cM w g (aQ kr) (bN kr)):=by
 have hmf:=ff
 rw [show aQ kr=([2,2],2) from by decide +kernel,show bN kr=.bool 316 false from rfl]
 unfold kr
 go_in
 go_wp2
 refine bodyPost_ret (by simp [results,Tryz.results290,go_sem];exact ⟨rfl,rfl⟩) rfl ⟨?_,_,_,rfl,?_,?_⟩
 ·repeat (first | exact ae _ _ | refine Below.alloc ?_ (by simp;omega) _ | refine Below.alloc ?_ (by simp) _)
 ·refine .inr ⟨_,_,rfl,by omega,by decide,by decide,fun i hi=>?_⟩
  match i,hi with
  | 0,_=>go_simp
  | 1,h=>first | (exfalso;revert h;decide) | go_simp
  | i+2,h=>exact absurd h (by simp)
 ·simp [aF,lu,eo,iz,dD,go_sem]
  try omega
theorem tq (g:Nat) (w:World) (hg:g<w.heap.size) :
 Calls Tryz.prog 290 #[.string zg] w (cM w g (aQ zg) (bN zg)):=by
 have hmf:=ff
 rw [show aQ zg=([0,0],2) from by decide +kernel,show bN zg=dD 296 from rfl]
 unfold zg
 go_in
 go_wp2
 refine bodyPost_ret (by simp [results,Tryz.results290,go_sem];exact ⟨rfl,rfl⟩) rfl ⟨?_,_,_,rfl,?_,?_⟩
 ·repeat (first | exact ae _ _ | refine Below.alloc ?_ (by simp;omega) _ | refine Below.alloc ?_ (by simp) _)
 ·refine .inr ⟨_,_,rfl,by omega,by decide,by decide,fun i hi=>?_⟩
  match i,hi with
  | 0,_=>go_simp
  | 1,h=>first | (exfalso;revert h;decide) | go_simp
  | i+2,h=>exact absurd h (by simp)
 ·simp [aF,lu,eo,iz,dD,go_sem]
  try omega
theorem tb (g:Nat) (w:World) (hg:g<w.heap.size) :
 Calls Tryz.prog 290 #[.string xj] w (cM w g (aQ xj) (bN xj)):=by
 have hmf:=ff
 rw [show aQ xj=([0,0],2) from by decide +kernel,show bN xj=dD 297 from rfl]
 unfold xj
 go_in
 go_wp2
 refine bodyPost_ret (by simp [results,Tryz.results290,go_sem];exact ⟨rfl,rfl⟩) rfl ⟨?_,_,_,rfl,?_,?_⟩
 ·repeat (first | exact ae _ _ | refine Below.alloc ?_ (by simp;omega) _ | refine Below.alloc ?_ (by simp) _)
 ·refine .inr ⟨_,_,rfl,by omega,by decide,by decide,fun i hi=>?_⟩
  match i,hi with
  | 0,_=>go_simp
  | 1,h=>first | (exfalso;revert h;decide) | go_simp
  | i+2,h=>exact absurd h (by simp)
 ·simp [aF,lu,eo,iz,dD,go_sem]
  try omega
theorem sg (g:Nat) (w:World) (hg:g<w.heap.size) :
 Calls Tryz.prog 290 #[.string za] w (cM w g (aQ za) (bN za)):=by
 have hmf:=ff
 rw [show aQ za=([0,0],2) from by decide +kernel,show bN za=dD 298 from rfl]
 unfold za
 go_in
 go_wp2
 refine bodyPost_ret (by simp [results,Tryz.results290,go_sem];exact ⟨rfl,rfl⟩) rfl ⟨?_,_,_,rfl,?_,?_⟩
 ·repeat (first | exact ae _ _ | refine Below.alloc ?_ (by simp;omega) _ | refine Below.alloc ?_ (by simp) _)
 ·refine .inr ⟨_,_,rfl,by omega,by decide,by decide,fun i hi=>?_⟩
  match i,hi with
  | 0,_=>go_simp
  | 1,h=>first | (exfalso;revert h;decide) | go_simp
  | i+2,h=>exact absurd h (by simp)
 ·simp [aF,lu,eo,iz,dD,go_sem]
  try omega
theorem s8 (g:Nat) (w:World) (hg:g<w.heap.size) :
 Calls Tryz.prog 290 #[.string yw] w (cM w g (aQ yw) (bN yw)):=by
 have hmf:=ff
 rw [show aQ yw=([0,0],2) from by decide +kernel,show bN yw=dD 299 from rfl]
 unfold yw
 go_in
 go_wp2
 refine bodyPost_ret (by simp [results,Tryz.results290,go_sem];exact ⟨rfl,rfl⟩) rfl ⟨?_,_,_,rfl,?_,?_⟩
 ·repeat (first | exact ae _ _ | refine Below.alloc ?_ (by simp;omega) _ | refine Below.alloc ?_ (by simp) _)
 ·refine .inr ⟨_,_,rfl,by omega,by decide,by decide,fun i hi=>?_⟩
  match i,hi with
  | 0,_=>go_simp
  | 1,h=>first | (exfalso;revert h;decide) | go_simp
  | i+2,h=>exact absurd h (by simp)
 ·simp [aF,lu,eo,iz,dD,go_sem]
  try omega
theorem tK (g:Nat) (w:World) (hg:g<w.heap.size) :
 Calls Tryz.prog 290 #[.string yx] w (cM w g (aQ yx) (bN yx)):=by
 have hmf:=ff
 rw [show aQ yx=([0,0],2) from by decide +kernel,show bN yx=dD 300 from rfl]
 unfold yx
 go_in
 go_wp2
 refine bodyPost_ret (by simp [results,Tryz.results290,go_sem];exact ⟨rfl,rfl⟩) rfl ⟨?_,_,_,rfl,?_,?_⟩
 ·repeat (first | exact ae _ _ | refine Below.alloc ?_ (by simp;omega) _ | refine Below.alloc ?_ (by simp) _)
 ·refine .inr ⟨_,_,rfl,by omega,by decide,by decide,fun i hi=>?_⟩
  match i,hi with
  | 0,_=>go_simp
  | 1,h=>first | (exfalso;revert h;decide) | go_simp
  | i+2,h=>exact absurd h (by simp)
 ·simp [aF,lu,eo,iz,dD,go_sem]
  try omega
theorem tf (g:Nat) (w:World) (hg:g<w.heap.size) :
 Calls Tryz.prog 290 #[.string yF] w (cM w g (aQ yF) (bN yF)):=by
 have hmf:=ff
 rw [show aQ yF=([0,0],2) from by decide +kernel,show bN yF=dD 301 from rfl]
 unfold yF
 go_in
 go_wp2
 refine bodyPost_ret (by simp [results,Tryz.results290,go_sem];exact ⟨rfl,rfl⟩) rfl ⟨?_,_,_,rfl,?_,?_⟩
 ·repeat (first | exact ae _ _ | refine Below.alloc ?_ (by simp;omega) _ | refine Below.alloc ?_ (by simp) _)
 ·refine .inr ⟨_,_,rfl,by omega,by decide,by decide,fun i hi=>?_⟩
  match i,hi with
  | 0,_=>go_simp
  | 1,h=>first | (exfalso;revert h;decide) | go_simp
  | i+2,h=>exact absurd h (by simp)
 ·simp [aF,lu,eo,iz,dD,go_sem]
  try omega
theorem qp (g:Nat) (w:World) (hg:g<w.heap.size) :
 Calls Tryz.prog 290 #[.string mf] w (cM w g (aQ mf) (bN mf)):=by
 have hmf:=ff
 rw [show aQ mf=([3,3],3) from by decide +kernel,show bN mf=iz (.raw 303) from rfl]
 unfold mf
 go_in
 go_wp2
 refine bodyPost_ret (by simp [results,Tryz.results290,go_sem];exact ⟨rfl,rfl⟩) rfl ⟨?_,_,_,rfl,?_,?_⟩
 ·repeat (first | exact ae _ _ | refine Below.alloc ?_ (by simp;omega) _ | refine Below.alloc ?_ (by simp) _)
 ·refine .inr ⟨_,_,rfl,by omega,by decide,by decide,fun i hi=>?_⟩
  match i,hi with
  | 0,_=>go_simp
  | 1,h=>first | (exfalso;revert h;decide) | go_simp
  | i+2,h=>exact absurd h (by simp)
 ·simp [aF,lu,eo,iz,dD,go_sem]
  try omega
theorem oL (g:Nat) (w:World) (hg:g<w.heap.size) :
 Calls Tryz.prog 290 #[.string jq] w (cM w g (aQ jq) (bN jq)):=by
 have hmf:=ff
 rw [show aQ jq=([1,1],1) from by decide +kernel,show bN jq=eo (.raw 306) from rfl]
 unfold jq
 go_in
 go_wp2
 refine bodyPost_ret (by simp [results,Tryz.results290,go_sem];exact ⟨rfl,rfl⟩) rfl ⟨?_,_,_,rfl,?_,?_⟩
 ·repeat (first | exact ae _ _ | refine Below.alloc ?_ (by simp;omega) _ | refine Below.alloc ?_ (by simp) _)
 ·refine .inr ⟨_,_,rfl,by omega,by decide,by decide,fun i hi=>?_⟩
  match i,hi with
  | 0,_=>go_simp
  | 1,h=>first | (exfalso;revert h;decide) | go_simp
  | i+2,h=>exact absurd h (by simp)
 ·simp [aF,lu,eo,iz,dD,go_sem]
  try omega
theorem nz (g:Nat) (w:World) (hg:g<w.heap.size) :
 Calls Tryz.prog 290 #[.string bh] w (cM w g (aQ bh) (bN bh)):=by
 have hmf:=ff
 rw [show aQ bh=([1,1],1) from by decide +kernel,show bN bh=eo (.raw 307) from rfl]
 unfold bh
 go_in
 go_wp2
 refine bodyPost_ret (by simp [results,Tryz.results290,go_sem];exact ⟨rfl,rfl⟩) rfl ⟨?_,_,_,rfl,?_,?_⟩
 ·repeat (first | exact ae _ _ | refine Below.alloc ?_ (by simp;omega) _ | refine Below.alloc ?_ (by simp) _)
 ·refine .inr ⟨_,_,rfl,by omega,by decide,by decide,fun i hi=>?_⟩
  match i,hi with
  | 0,_=>go_simp
  | 1,h=>first | (exfalso;revert h;decide) | go_simp
  | i+2,h=>exact absurd h (by simp)
 ·simp [aF,lu,eo,iz,dD,go_sem]
  try omega
theorem qN (g:Nat) (w:World) (hg:g<w.heap.size) :
 Calls Tryz.prog 290 #[.string nh] w (cM w g (aQ nh) (bN nh)):=by
 have hmf:=ff
 rw [show aQ nh=([1,1],1) from by decide +kernel,show bN nh=eo (.raw 308) from rfl]
 unfold nh
 go_in
 go_wp2
 refine bodyPost_ret (by simp [results,Tryz.results290,go_sem];exact ⟨rfl,rfl⟩) rfl ⟨?_,_,_,rfl,?_,?_⟩
 ·repeat (first | exact ae _ _ | refine Below.alloc ?_ (by simp;omega) _ | refine Below.alloc ?_ (by simp) _)
 ·refine .inr ⟨_,_,rfl,by omega,by decide,by decide,fun i hi=>?_⟩
  match i,hi with
  | 0,_=>go_simp
  | 1,h=>first | (exfalso;revert h;decide) | go_simp
  | i+2,h=>exact absurd h (by simp)
 ·simp [aF,lu,eo,iz,dD,go_sem]
  try omega
theorem p9 (g:Nat) (w:World) (hg:g<w.heap.size) :
 Calls Tryz.prog 290 #[.string nv] w (cM w g (aQ nv) (bN nv)):=by
 have hmf:=ff
 rw [show aQ nv=([1,1],1) from by decide +kernel,show bN nv=lu 310 from rfl]
 unfold nv
 go_in
 go_wp2
 refine bodyPost_ret (by simp [results,Tryz.results290,go_sem];exact ⟨rfl,rfl⟩) rfl ⟨?_,_,_,rfl,?_,?_⟩
 ·repeat (first | exact ae _ _ | refine Below.alloc ?_ (by simp;omega) _ | refine Below.alloc ?_ (by simp) _)
 ·refine .inr ⟨_,_,rfl,by omega,by decide,by decide,fun i hi=>?_⟩
  match i,hi with
  | 0,_=>go_simp
  | 1,h=>first | (exfalso;revert h;decide) | go_simp
  | i+2,h=>exact absurd h (by simp)
 ·simp [aF,lu,eo,iz,dD,go_sem]
  try omega
theorem rb (g:Nat) (w:World) (hg:g<w.heap.size) :
 Calls Tryz.prog 290 #[.string pw] w (cM w g (aQ pw) (bN pw)):=by
 have hmf:=ff
 rw [show aQ pw=([1,1],1) from by decide +kernel,show bN pw=lu 311 from rfl]
 unfold pw
 go_in
 go_wp2
 refine bodyPost_ret (by simp [results,Tryz.results290,go_sem];exact ⟨rfl,rfl⟩) rfl ⟨?_,_,_,rfl,?_,?_⟩
 ·repeat (first | exact ae _ _ | refine Below.alloc ?_ (by simp;omega) _ | refine Below.alloc ?_ (by simp) _)
 ·refine .inr ⟨_,_,rfl,by omega,by decide,by decide,fun i hi=>?_⟩
  match i,hi with
  | 0,_=>go_simp
  | 1,h=>first | (exfalso;revert h;decide) | go_simp
  | i+2,h=>exact absurd h (by simp)
 ·simp [aF,lu,eo,iz,dD,go_sem]
  try omega
theorem rE (t:ByteArray) (g:Nat) (w:World) (hg:g<w.heap.size) (hs:bW t≠7) :
 Calls Tryz.prog 290 #[.string t] w (cM w g (aQ t) (bN t)):=by
 by_cases hOr:t=vy
 ·subst hOr;exact tj g w hg
 by_cases hAnd:t=kr
 ·subst hAnd;exact qQ g w hg
 by_cases hEq:t=zg
 ·subst hEq;exact tq g w hg
 by_cases hNe:t=xj
 ·subst hNe;exact tb g w hg
 by_cases hLt:t=za
 ·subst hLt;exact sg g w hg
 by_cases hLe:t=yw
 ·subst hLe;exact s8 g w hg
 by_cases hGt:t=yx
 ·subst hGt;exact tK g w hg
 by_cases hGe:t=yF
 ·subst hGe;exact tf g w hg
 by_cases hCat:t=mf
 ·subst hCat;exact qp g w hg
 by_cases hPlus:t=jq
 ·subst hPlus;exact oL g w hg
 by_cases hMinus:t=bh
 ·subst hMinus;exact nz g w hg
 by_cases hMul:t=nh
 ·subst hMul;exact qN g w hg
 by_cases hDiv:t=nv
 ·subst hDiv;exact p9 g w hg
 by_cases hMod:t=pw
 ·subst hMod;exact rb g w hg
 refine absurd ?_ hs
 unfold bW
 simp [hOr,hAnd,hEq,hNe,hLt,hLe,hGt,hGe,hPlus,hMinus,hCat,hMul,hDiv,hMod]
theorem oT (g:Nat) (w:World) (hg:g<w.heap.size) :
 Calls Tryz.prog 324 #[.string dz] w (cM w g (bj dz) (jo dz)):=by
 have hmf:=ff
 rw [show bj dz=([2],2) from by decide +kernel,show jo dz=iz (.raw 334) from rfl]
 unfold dz
 go_in
 go_wp2
 refine bodyPost_ret (by simp [results,Tryz.results324,go_sem];exact ⟨rfl,rfl⟩) rfl ⟨?_,_,_,rfl,?_,?_⟩
 ·repeat (first | exact ae _ _ | refine Below.alloc ?_ (by simp;omega) _ | refine Below.alloc ?_ (by simp) _)
 ·refine .inr ⟨_,_,rfl,by omega,by decide,by decide,fun i hi=>?_⟩
  match i,hi with
  | 0,_=>go_simp
  | 1,h=>first | (exfalso;revert h;decide) | go_simp
  | i+2,h=>exact absurd h (by simp)
 ·simp [aF,lu,eo,iz,dD,go_sem]
  try omega
theorem mj (g:Nat) (w:World) (hg:g<w.heap.size) :
 Calls Tryz.prog 324 #[.string bh] w (cM w g (bj bh) (jo bh)):=by
 have hmf:=ff
 rw [show bj bh=([1],1) from by decide +kernel,show jo bh=iz (.raw 335) from rfl]
 unfold bh
 go_in
 go_wp2
 refine bodyPost_ret (by simp [results,Tryz.results324,go_sem];exact ⟨rfl,rfl⟩) rfl ⟨?_,_,_,rfl,?_,?_⟩
 ·repeat (first | exact ae _ _ | refine Below.alloc ?_ (by simp;omega) _ | refine Below.alloc ?_ (by simp) _)
 ·refine .inr ⟨_,_,rfl,by omega,by decide,by decide,fun i hi=>?_⟩
  match i,hi with
  | 0,_=>go_simp
  | 1,h=>first | (exfalso;revert h;decide) | go_simp
  | i+2,h=>exact absurd h (by simp)
 ·simp [aF,lu,eo,iz,dD,go_sem]
  try omega
def dW (w:World) (g:Nat) (nm:ByteArray) (e:Ending) (w':World):Prop:=Below w.heap.size w w'/\
 ∃ tk gv f,e=.returned (.tuple #[.agg #[tk,.int .i64 gv,f],.bool (eQ nm).isSome])/\(∃ a n c,tk=.slice a n c)/\(f=.nilFunc\/∃ n k,f=.func (.func n) #[] k)/\∀ o,eQ nm=some o->gv=o.2/\cK w' g tk (o.1.map (Value.int .i64 ·))/\aF w' g (kV nm) f
def az (s:ByteArray):Int:=if s=dz then 2 else 6
def EX (tk f:Value):Prop:=(∃ a n c,tk=.slice a n c)/\(f=.nilFunc\/∃ n k,f=.func (.func n) #[] k)
mutual
def Nd (w:World) (g:Nat):X->Value->Prop
 | .lit k n t,v=>v=.iface 286 (.agg #[.int .i64 k,.int .i64 n,.string t])
 | .col pl nm,v=>v=.iface 288 (.agg #[.int .i64 pl,.string nm])
 | .pre pl s x,v=>∃ tk f ps u,v=.iface 297 (.agg #[.int .i64 pl,tk,.int .i64 (bj s).2,f,ps,.string s,.int .i64 (az s)])/\cK w g tk ((bj s).1.map (Value.int .i64 ·))/\aF w g (jo s) f/\cK w g ps [u]/\Nd w g x u
 | .inf pl s l r,v=>∃ tk f ps u u',v=.iface 299 (.agg #[.int .i64 pl,tk,.int .i64 (aQ s).2,f,ps,.string s,.int .i64 (bW s)])/\bW s≠7/\cK w g tk ((aQ s).1.map (Value.int .i64 ·))/\aF w g (bN s) f/\cK w g ps [u,u']/\Nd w g l u/\Nd w g r u'
 | .app pl nm l,v=>∃ tk gv f ps us,v=.iface 302 (.agg #[.int .i64 pl,tk,.int .i64 gv,f,ps,.string nm,.bool (eQ nm).isSome])/\(∀ o,eQ nm=some o->gv=o.2/\cK w g tk (o.1.map (Value.int .i64 ·))/\aF w g (kV nm) f)/\cK w g ps us/\ez w g l us/\EX tk f
def ez (w:World) (g:Nat):List X->List Value->Prop
 | [],us=>us=[]
 | x::l,us=>∃ u us',us=u::us'/\Nd w g x u/\ez w g l us'
end
mutual
theorem Nd.grown {w w':World} {g:Nat} (hg:w.grownBy w' (some g)):∀ (x:X) (v:Value),Nd w g x v->Nd w' g x v
 | .lit k n t,v,h=>h
 | .col pl nm,v,h=>h
 | .pre pl s x,v,h=>by
  rw [Nd] at h ⊢
  obtain ⟨tk,f,ps,u,h1,h2,h3,h4,h5⟩:=h
  exact ⟨tk,f,ps,u,h1,h2.grown hg,h3.grown hg,h4.grown hg,Nd.grown hg x u h5⟩
 | .inf pl s l r,v,h=>by
  rw [Nd] at h ⊢
  obtain ⟨tk,f,ps,u,u',h1,h0,h2,h3,h4,h5,h6⟩:=h
  exact ⟨tk,f,ps,u,u',h1,h0,h2.grown hg,h3.grown hg,h4.grown hg,Nd.grown hg l u h5,Nd.grown hg r u' h6⟩
 | .app pl nm l,v,h=>by
  rw [Nd] at h ⊢
  obtain ⟨tk,gv,f,ps,us,h1,h2,h3,h4,h9⟩:=h
  exact ⟨tk,gv,f,ps,us,h1,fun o ho=>⟨(h2 o ho).1,(h2 o ho).2.1.grown hg,(h2 o ho).2.2.grown hg⟩,h3.grown hg,ez.grown hg l us h4,h9⟩
theorem ez.grown {w w':World} {g:Nat} (hg:w.grownBy w' (some g)):∀ (l:List X) (us:List Value),ez w g l us->ez w' g l us
 | [],us,h=>h
 | x::l,us,h=>by
  rw [ez] at h ⊢
  obtain ⟨u,us',h1,h2,h3⟩:=h
  exact ⟨u,us',h1,Nd.grown hg x u h2,ez.grown hg l us' h3⟩
end
theorem Nd.later {w w':World} {g:Nat} {x:X} {v:Value} (h:Nd w g x v) (hb:Below w.heap.size w w'):Nd w' g x v:=Nd.grown (aj hb) x v h
theorem ez.later {w w':World} {g:Nat} {x:List X} {v:List Value} (h:ez w g x v) (hb:Below w.heap.size w w'):ez w' g x v:=ez.grown (aj hb) x v h
theorem ez.length {w:World} {g:Nat}:∀ {l:List X} {us:List Value},ez w g l us->us.length=l.length
 | [],us,h=>by rw [ez] at h;rw [h];rfl
 | x::l,us,h=>by
  rw [ez] at h
  obtain ⟨u,us',rfl,h2,h3⟩:=h
  rw [List.length_cons,List.length_cons,ez.length h3]
theorem ez.snoc {w:World} {g:Nat}:∀ {l:List X} {us:List Value} {x:X} {u:Value},ez w g l us->Nd w g x u->ez w g (l++[x]) (us++[u])
 | [],us,x,u,h,hx=>by rw [ez] at h;rw [h];simp only [List.nil_append];rw [ez];exact ⟨u,[],rfl,hx,rfl⟩
 | y::l,us,x,u,h,hx=>by
  rw [ez] at h
  obtain ⟨v,us',rfl,h2,h3⟩:=h
  rw [List.cons_append,ez]
  exact ⟨v,us'++[u],rfl,h2,ez.snoc h3 hx⟩
theorem Nd.iface {w:World} {g:Nat} {x:X} {v:Value} (h:Nd w g x v):∃ t p,v=.iface t p:=by
 cases x with
 | lit k n t=>exact ⟨_,_,h⟩
 | col pl nm=>exact ⟨_,_,h⟩
 | pre pl s x=>rw [Nd] at h;obtain ⟨tk,f,ps,u,h1,_⟩:=h;exact ⟨_,_,h1⟩
 | inf pl s l r=>rw [Nd] at h;obtain ⟨tk,f,ps,u,u',h1,_⟩:=h;exact ⟨_,_,h1⟩
 | app pl nm l=>rw [Nd] at h;obtain ⟨tk,gv,f,ps,us,h1,_⟩:=h;exact ⟨_,_,h1⟩
theorem pN (g:Nat) (w:World) (hg:g<w.heap.size) :
 Calls Tryz.prog 344 #[.string rq] w (dW w g rq):=by
 have hmf:=ff
 unfold dW
 rw [show eQ rq=some ([3],1) from by decide +kernel,show kV rq=iz (.raw 345) from rfl]
 unfold rq
 go_in
 go_wp2
 refine bodyPost_ret (v:=.tuple #[.agg #[_,_,_],.bool true]) (by simp [results,Tryz.results344,go_sem];exact ⟨rfl,rfl,rfl⟩) rfl ⟨?_,_,_,_,rfl,?_,?_,fun o ho=>?_⟩
 ·repeat (first | exact ae _ _ | refine Below.alloc ?_ (by simp;omega) _ | refine Below.alloc ?_ (by simp) _)
 ·exact ⟨_,_,_,rfl⟩
 ·exact .inr ⟨_,_,rfl⟩
 ·obtain rfl:=sI ho
  refine ⟨rfl,.inr ⟨_,_,rfl,by omega,by decide,by decide,fun i hi=>?_⟩,?_⟩
  ·match i,hi with
   | 0,_=>go_simp
   | 1,h=>first | (exfalso;revert h;decide) | go_simp
   | 2,h=>first | (exfalso;revert h;decide) | go_simp
   | i+3,h=>exact absurd h (by simp)
  ·simp [aF,lu,eo,iz,dD,go_sem]
   try omega
theorem oI (g:Nat) (w:World) (hg:g<w.heap.size) :
 Calls Tryz.prog 344 #[.string rV] w (dW w g rV):=by
 have hmf:=ff
 unfold dW
 rw [show eQ rV=some ([1],1) from by decide +kernel,show kV rV=iz (.raw 346) from rfl]
 unfold rV
 go_in
 go_wp2
 refine bodyPost_ret (v:=.tuple #[.agg #[_,_,_],.bool true]) (by simp [results,Tryz.results344,go_sem];exact ⟨rfl,rfl,rfl⟩) rfl ⟨?_,_,_,_,rfl,?_,?_,fun o ho=>?_⟩
 ·repeat (first | exact ae _ _ | refine Below.alloc ?_ (by simp;omega) _ | refine Below.alloc ?_ (by simp) _)
 ·exact ⟨_,_,_,rfl⟩
 ·exact .inr ⟨_,_,rfl⟩
 ·obtain rfl:=sI ho
  refine ⟨rfl,.inr ⟨_,_,rfl,by omega,by decide,by decide,fun i hi=>?_⟩,?_⟩
  ·match i,hi with
   | 0,_=>go_simp
   | 1,h=>first | (exfalso;revert h;decide) | go_simp
   | 2,h=>first | (exfalso;revert h;decide) | go_simp
   | i+3,h=>exact absurd h (by simp)
  ·simp [aF,lu,eo,iz,dD,go_sem]
   try omega
theorem pO (g:Nat) (w:World) (hg:g<w.heap.size) :
 Calls Tryz.prog 344 #[.string qo] w (dW w g qo):=by
 have hmf:=ff
 unfold dW
 rw [show eQ qo=some ([3,1],3) from by decide +kernel,show kV qo=iz (.raw 347) from rfl]
 unfold qo
 go_in
 go_wp2
 refine bodyPost_ret (v:=.tuple #[.agg #[_,_,_],.bool true]) (by simp [results,Tryz.results344,go_sem];exact ⟨rfl,rfl,rfl⟩) rfl ⟨?_,_,_,_,rfl,?_,?_,fun o ho=>?_⟩
 ·repeat (first | exact ae _ _ | refine Below.alloc ?_ (by simp;omega) _ | refine Below.alloc ?_ (by simp) _)
 ·exact ⟨_,_,_,rfl⟩
 ·exact .inr ⟨_,_,rfl⟩
 ·obtain rfl:=sI ho
  refine ⟨rfl,.inr ⟨_,_,rfl,by omega,by decide,by decide,fun i hi=>?_⟩,?_⟩
  ·match i,hi with
   | 0,_=>go_simp
   | 1,h=>first | (exfalso;revert h;decide) | go_simp
   | 2,h=>first | (exfalso;revert h;decide) | go_simp
   | i+3,h=>exact absurd h (by simp)
  ·simp [aF,lu,eo,iz,dD,go_sem]
   try omega
theorem lw (g:Nat) (w:World) (hg:g<w.heap.size) :
 Calls Tryz.prog 344 #[.string fV] w (dW w g fV):=by
 have hmf:=ff
 unfold dW
 rw [show eQ fV=some ([0],2) from by decide +kernel,show kV fV=.raw 348 from rfl]
 unfold fV
 go_in
 go_wp2
 refine bodyPost_ret (v:=.tuple #[.agg #[_,_,_],.bool true]) (by simp [results,Tryz.results344,go_sem];exact ⟨rfl,rfl,rfl⟩) rfl ⟨?_,_,_,_,rfl,?_,?_,fun o ho=>?_⟩
 ·repeat (first | exact ae _ _ | refine Below.alloc ?_ (by simp;omega) _ | refine Below.alloc ?_ (by simp) _)
 ·exact ⟨_,_,_,rfl⟩
 ·exact .inr ⟨_,_,rfl⟩
 ·obtain rfl:=sI ho
  refine ⟨rfl,.inr ⟨_,_,rfl,by omega,by decide,by decide,fun i hi=>?_⟩,?_⟩
  ·match i,hi with
   | 0,_=>go_simp
   | 1,h=>first | (exfalso;revert h;decide) | go_simp
   | 2,h=>first | (exfalso;revert h;decide) | go_simp
   | i+3,h=>exact absurd h (by simp)
  ·simp [aF,lu,eo,iz,dD,go_sem]
   try omega
theorem j6 (g:Nat) (w:World) (hg:g<w.heap.size) :
 Calls Tryz.prog 344 #[.string dY] w (dW w g dY):=by
 have hmf:=ff
 unfold dW
 rw [show eQ dY=some ([0,0],0) from by decide +kernel,show kV dY=.raw 349 from rfl]
 unfold dY
 go_in
 go_wp2
 refine bodyPost_ret (v:=.tuple #[.agg #[_,_,_],.bool true]) (by simp [results,Tryz.results344,go_sem];exact ⟨rfl,rfl,rfl⟩) rfl ⟨?_,_,_,_,rfl,?_,?_,fun o ho=>?_⟩
 ·repeat (first | exact ae _ _ | refine Below.alloc ?_ (by simp;omega) _ | refine Below.alloc ?_ (by simp) _)
 ·exact ⟨_,_,_,rfl⟩
 ·exact .inr ⟨_,_,rfl⟩
 ·obtain rfl:=sI ho
  refine ⟨rfl,.inr ⟨_,_,rfl,by omega,by decide,by decide,fun i hi=>?_⟩,?_⟩
  ·match i,hi with
   | 0,_=>go_simp
   | 1,h=>first | (exfalso;revert h;decide) | go_simp
   | 2,h=>first | (exfalso;revert h;decide) | go_simp
   | i+3,h=>exact absurd h (by simp)
  ·simp [aF,lu,eo,iz,dD,go_sem]
   try omega
theorem qF (g:Nat) (w:World) (hg:g<w.heap.size) :
 Calls Tryz.prog 344 #[.string Cg] w (dW w g Cg):=by
 have hmf:=ff
 unfold dW
 rw [show eQ Cg=some ([2,0,0],0) from by decide +kernel,show kV Cg=.raw 350 from rfl]
 unfold Cg
 go_in
 go_wp2
 refine bodyPost_ret (v:=.tuple #[.agg #[_,_,_],.bool true]) (by simp [results,Tryz.results344,go_sem];exact ⟨rfl,rfl,rfl⟩) rfl ⟨?_,_,_,_,rfl,?_,?_,fun o ho=>?_⟩
 ·repeat (first | exact ae _ _ | refine Below.alloc ?_ (by simp;omega) _ | refine Below.alloc ?_ (by simp) _)
 ·exact ⟨_,_,_,rfl⟩
 ·exact .inr ⟨_,_,rfl⟩
 ·obtain rfl:=sI ho
  refine ⟨rfl,.inr ⟨_,_,rfl,by omega,by decide,by decide,fun i hi=>?_⟩,?_⟩
  ·match i,hi with
   | 0,_=>go_simp
   | 1,h=>first | (exfalso;revert h;decide) | go_simp
   | 2,h=>first | (exfalso;revert h;decide) | go_simp
   | i+3,h=>exact absurd h (by simp)
  ·simp [aF,lu,eo,iz,dD,go_sem]
   try omega
theorem cK.form {w:World} {g:Nat} {x:Value} {vs:List Value} (h:cK w g x vs):∃ a n c,x=.slice a n c:=by
 rcases h with ⟨h,_⟩ | ⟨b,c,h,_⟩
 ·exact ⟨_,_,_,h⟩
 ·exact ⟨_,_,_,h⟩
theorem aF.form {w:World} {g:Nat} {c:pQ} {v:Value} (h:aF w g c v):∃ n k,v=.func (.func n) #[] k:=by
 cases c with
 | raw n=>exact ⟨_,_,h⟩
 | bool n b=>obtain ⟨a,h,_⟩:=h;exact ⟨_,_,h⟩
 | one n c=>obtain ⟨a,u,h,_⟩:=h;exact ⟨_,_,h⟩
theorem aF.up {w:World} {g g':Nat} (hg:g'<=g):∀ {c:pQ} {v:Value},aF w g c v->aF w g' c v
 | .raw n,v,h=>h
 | .bool n b,v,⟨a,h1,h2,h3⟩=>⟨a,h1,by omega,h3⟩
 | .one n c,v,⟨a,u,h1,h2,h3,h4⟩=>⟨a,u,h1,by omega,h3,aF.up hg h4⟩
theorem aF.later {w w':World} {g:Nat} {c:pQ} {v:Value} (h:aF w g c v) (hb:Below w.heap.size w w'):aF w' g c v:=h.grown (aj hb)
theorem cK.one {w:World} {g b c:Nat} {u:Value} (hg:g<b) (hc:1<=c) (hm:c<=maxLen) (h0:w.cell? ⟨b,0,none⟩=some u):cK w g (.slice (some ⟨b,0,none⟩) 1 c) [u]:=
 .inr ⟨b,c,rfl,hg,hc,hm,fun i hi=>by match i,hi with | 0,_=>exact h0⟩
theorem cK.two {w:World} {g b c:Nat} {u u':Value} (hg:g<b) (hc:2<=c) (hm:c<=maxLen) (h0:w.cell? ⟨b,0,none⟩=some u) (h1:w.cell? ⟨b,1,none⟩=some u'):cK w g (.slice (some ⟨b,0,none⟩) 2 c) [u,u']:=
 .inr ⟨b,c,rfl,hg,hc,hm,fun i hi=>by match i,hi with | 0,_=>exact h0 | 1,_=>exact h1⟩
theorem s7 (w:World) (b:Nat) (v0 v1 v2 v3 v4 v5 v6:Value):w.grownBy (((((((w.setCell ⟨b,0,none⟩ v0).setCell ⟨b,1,none⟩ v1).setCell ⟨b,2,none⟩ v2).setCell ⟨b,3,none⟩ v3).setCell ⟨b,4,none⟩ v4).setCell ⟨b,5,none⟩ v5).setCell ⟨b,6,none⟩ v6) (some b)/\
 (((((((w.setCell ⟨b,0,none⟩ v0).setCell ⟨b,1,none⟩ v1).setCell ⟨b,2,none⟩ v2).setCell ⟨b,3,none⟩ v3).setCell ⟨b,4,none⟩ v4).setCell ⟨b,5,none⟩ v5).setCell ⟨b,6,none⟩ v6).heap.size=w.heap.size:=
 ⟨ai (ai (ai (ai (ai (ai (aK _ _ _) (aK _ _ _)) (aK _ _ _)) (aK _ _ _)) (aK _ _ _)) (aK _ _ _)) (aK _ _ _),by simp⟩
theorem cF {w wx:World} {a:Addr} (hb:Below w.heap.size w wx) (ha:a.block<w.heap.size) (h:w.frozen? a=false):wx.frozen? a=false:=(hb.frozen ha).trans h
theorem pM (t:ByteArray) (g:Nat) (w:World) (hg:g<w.heap.size) :
 Calls Tryz.prog 344 #[.string t] w (dW w g t):=by
 by_cases h1:t=rq
 ·subst h1;exact pN g w hg
 by_cases h2:t=rV
 ·subst h2;exact oI g w hg
 by_cases h3:t=qo
 ·subst h3;exact pO g w hg
 by_cases h4:t=fV
 ·subst h4;exact lw g w hg
 by_cases h5:t=dY
 ·subst h5;exact j6 g w hg
 by_cases h6:t=Cg
 ·subst h6;exact qF g w hg
 have hn:eQ t=none:=by unfold eQ;simp [h1,h2,h3,h4,h5,h6]
 have q1:=ni h1
 have q2:=ni h2
 have q3:=ni h3
 have q4:=ni h4
 have q5:=ni h5
 have q6:=ni h6
 unfold dW
 rw [hn]
 go_in
 go_wp2
 refine bodyPost_ret (v:=.tuple #[.agg #[.slice none 0 0,.int .i64 0,.nilFunc],.bool false]) (by simp [results,Tryz.results344,go_sem]) rfl ⟨ae _ _,_,_,_,rfl,⟨_,_,_,rfl⟩,.inl rfl,fun o ho=>by cases ho⟩
theorem ko (t:Tk) (l r:X) (u u':Value) (g:Nat) (w:World) (hg:g<w.heap.size) (hs:bW t.tx≠7) (hl:Nd w g l u) (hr:Nd w g r u') :
 Calls Tryz.prog 283 #[eA t,u,u'] w fun e w'=>Below w.heap.size w w'/\∃ p,e=.returned p/\Nd w' g (.inf t.pl t.tx l r) (.iface 299 p):=by
 have HL:=jg hl
 have HR:=jg hr
 obtain ⟨ut,up,hu⟩:=hl.iface
 obtain ⟨vt,vp,hu'⟩:=hr.iface
 subst hu;subst hu'
 have HO:Hid (∀ W,w.heap.size+1<W.heap.size->Calls Tryz.prog 290 #[.string t.tx] W (cM W (w.heap.size+1) (aQ t.tx) (bN t.tx))):=fun W h=>rE t.tx _ W h hs
 have HS:=jg hs
 unfold eA
 go_in
 go_wp2_with fail
 go_region_held3 (fun w'=>w'.cell? ⟨w.heap.size,0,none⟩=some (.int .i64 t.pl)/\w'.cell? ⟨w.heap.size,1,none⟩=some (.int .i64 t.kd)/\w'.cell? ⟨w.heap.size,2,none⟩=some (.string t.tx))
  (first | go_keep)
  (first | (go_at_call 290;refine (HO.out _ ?_).mono ?_;(simp);rintro e w1 ⟨hb1,tk,f,rfl,hL1,hC1⟩;have s0:w1.cell? ⟨w.heap.size,0,none⟩=some (.int .i64 t.pl):=af hb1 (by go_keep);have s1:w1.cell? ⟨w.heap.size,1,none⟩=some (.int .i64 t.kd):=af hb1 (by go_keep);have s2:w1.cell? ⟨w.heap.size,2,none⟩=some (.string t.tx):=af hb1 (by go_keep);obtain ⟨ta,tn,tc,rfl⟩:=hL1.form;obtain ⟨fn,fc,rfl⟩:=hC1.form;have hlt:=bL (af (a:=⟨w.heap.size+1,0,none⟩) (v:=.int .i64 0) hb1 (by go_simp));skip) | (go_at_call 281;refine (gF _ _).mono ?_;rintro e w2 ⟨rfl,h2⟩;have h3:=h2.symm;subst h3;have q0:=af (a:=⟨w.heap.size+1,0,none⟩) (v:=.int .i64 0) hb1 (by go_simp);have qf0:=cF (a:=⟨w.heap.size+1,0,none⟩) hb1 (by simp) (by go_simp);have q1:=af (a:=⟨w.heap.size+1,1,none⟩) (v:=.slice none 0 0) hb1 (by go_simp);have qf1:=cF (a:=⟨w.heap.size+1,1,none⟩) hb1 (by simp) (by go_simp);have q2:=af (a:=⟨w.heap.size+1,2,none⟩) (v:=.int .i64 0) hb1 (by go_simp);have qf2:=cF (a:=⟨w.heap.size+1,2,none⟩) hb1 (by simp) (by go_simp);have q3:=af (a:=⟨w.heap.size+1,3,none⟩) (v:=.nilFunc) hb1 (by go_simp);have qf3:=cF (a:=⟨w.heap.size+1,3,none⟩) hb1 (by simp) (by go_simp);have q4:=af (a:=⟨w.heap.size+1,4,none⟩) (v:=.slice none 0 0) hb1 (by go_simp);have qf4:=cF (a:=⟨w.heap.size+1,4,none⟩) hb1 (by simp) (by go_simp);have q5:=af (a:=⟨w.heap.size+1,5,none⟩) (v:=.string ⟨#[]⟩) hb1 (by go_simp);have qf5:=cF (a:=⟨w.heap.size+1,5,none⟩) hb1 (by simp) (by go_simp);have q6:=af (a:=⟨w.heap.size+1,6,none⟩) (v:=.int .i64 0) hb1 (by go_simp);have qf6:=cF (a:=⟨w.heap.size+1,6,none⟩) hb1 (by simp) (by go_simp);skip))
 all_goals
  have hbb:Below ((w.alloc (.cells #[.int .i64 t.pl,.int .i64 t.kd,.string t.tx] 136)).alloc (.cells #[.int .i64 0,.slice none 0 0,.int .i64 0,.nilFunc,.slice none 0 0,.string ⟨#[]⟩,.int .i64 0] 299)).heap.size ((w.alloc (.cells #[.int .i64 t.pl,.int .i64 t.kd,.string t.tx] 136)).alloc (.cells #[.int .i64 0,.slice none 0 0,.int .i64 0,.nilFunc,.slice none 0 0,.string ⟨#[]⟩,.int .i64 0] 299)) w1:=by
   refine Below.trans ?_ (hb1.mono (by simp))
   first | exact bR.drew | exact bR.drew.alloc (by simp) _
  have hO0:aD w1 (w.heap.size+1) 299 7 [.int .i64 0,.slice none 0 0,.int .i64 0,.nilFunc,.slice none 0 0,.string ⟨#[]⟩,.int .i64 0]:=by
   have:=(aD.new (w.alloc (.cells #[.int .i64 t.pl,.int .i64 t.kd,.string t.tx] 136)) 299 7 #[.int .i64 0,.slice none 0 0,.int .i64 0,.nilFunc,.slice none 0 0,.string ⟨#[]⟩,.int .i64 0] rfl).later hbb
   simpa using this
  have hB1:=((ae w _).alloc (by simp) _).trans (hbb.mono (by simp;omega))
 ·obtain ⟨hG,hZ⟩:=s7 w1 (w.heap.size+1) (.int .i64 t.pl) (.slice ta tn tc) (.int .i64 (aQ t.tx).2) (.func (.func fn) #[] fc) (.slice (some ⟨w1.heap.size,0,none⟩) 2 2) (.string t.tx) (.int .i64 (bW t.tx))
  have hO7:=((((((((hO0.put 0 (.int .i64 t.pl)).1.put 1 (.slice ta tn tc)).1.put 2 (.int .i64 (aQ t.tx).2)).1.put 3 (.func (.func fn) #[] fc)).1.put 4 (.slice (some ⟨w1.heap.size,0,none⟩) 2 2)).1.put 5 (.string t.tx)).1.put 6 (.int .i64 (bW t.tx))).1)
  have hPW:Hid (w1=w1):=rfl
  generalize World.setCell _ ⟨w.heap.size+1,6,none⟩ _=W7 at hG hZ hO7 ⊢
  have c0:=hO7.c 0 rfl
  have c1:=hO7.c 1 rfl
  have c2:=hO7.c 2 rfl
  have c3:=hO7.c 3 rfl
  have c4:=hO7.c 4 rfl
  have c5:=hO7.c 5 rfl
  have c6:=hO7.c 6 rfl
  have hL7:cK W7 g (.slice ta tn tc) ((aQ t.tx).1.map (Value.int .i64 ·)):=(hL1.grown hG).up (by omega)
  have hC7:aF W7 g (bN t.tx) (.func (.func fn) #[] fc):=aF.up (by omega) (hC1.grown hG)
  have hB7:=eE hB1 hG (fun k hk=>by cases hk;omega)
  have hl7:=hO7.lt
  have hPP:cK (W7.alloc (.cells #[.iface ut up,.iface vt vp] 256)) g (.slice (some ⟨w1.heap.size,0,none⟩) 2 2) [.iface ut up,.iface vt vp]:=by
   rw [<-hZ]
   exact cK.two (by omega) (by decide) (by decide) (by go_simp) (by go_simp)
  have FIN:Hid (Below w.heap.size w (W7.alloc (.cells #[.iface ut up,.iface vt vp] 256))/\Nd (W7.alloc (.cells #[.iface ut up,.iface vt vp] 256)) g (.inf t.pl t.tx l r) (.iface 299 (.agg #[.int .i64 t.pl,.slice ta tn tc,.int .i64 (aQ t.tx).2,.func (.func fn) #[] fc,.slice (some ⟨w1.heap.size,0,none⟩) 2 2,.string t.tx,.int .i64 (bW t.tx)]))):=by
   have hbF:Below W7.heap.size W7 (W7.alloc (.cells #[.iface ut up,.iface vt vp] 256)):=by first | exact bR | exact ae _ _
   have hBF:=hB7.trans (hbF.mono hB7.size)
   refine ⟨hBF,?_⟩
   rw [Nd]
   exact ⟨_,_,_,_,_,rfl,HS.out,hL7.later hbF,hC7.later hbF,hPP,HL.out.later hBF,HR.out.later hBF⟩
  go_wp2_with fail
  exact bodyPost_ret (v:=.agg #[.int .i64 t.pl,.slice ta tn tc,.int .i64 (aQ t.tx).2,.func (.func fn) #[] fc,.slice (some ⟨w1.heap.size,0,none⟩) 2 2,.string t.tx,.int .i64 (bW t.tx)]) (by simp [results,Tryz.results283,go_sem,c0,c1,c2,c3,c4,c5,c6,hl7]) rfl ⟨FIN.out.1,_,rfl,FIN.out.2⟩
 ·obtain ⟨hG,hZ⟩:=s7 w1 (w.heap.size+1) (.int .i64 t.pl) (.slice ta tn tc) (.int .i64 (aQ t.tx).2) (.func (.func fn) #[] fc) (.slice (some ⟨w1.heap.size,0,none⟩) 2 2) (.string t.tx) (.int .i64 (bW t.tx))
  have hO7:=((((((((hO0.put 0 (.int .i64 t.pl)).1.put 1 (.slice ta tn tc)).1.put 2 (.int .i64 (aQ t.tx).2)).1.put 3 (.func (.func fn) #[] fc)).1.put 4 (.slice (some ⟨w1.heap.size,0,none⟩) 2 2)).1.put 5 (.string t.tx)).1.put 6 (.int .i64 (bW t.tx))).1)
  have hPW:Hid (w1=w1):=rfl
  generalize World.setCell _ ⟨w.heap.size+1,6,none⟩ _=W7 at hG hZ hO7 ⊢
  have c0:=hO7.c 0 rfl
  have c1:=hO7.c 1 rfl
  have c2:=hO7.c 2 rfl
  have c3:=hO7.c 3 rfl
  have c4:=hO7.c 4 rfl
  have c5:=hO7.c 5 rfl
  have c6:=hO7.c 6 rfl
  have hL7:cK W7 g (.slice ta tn tc) ((aQ t.tx).1.map (Value.int .i64 ·)):=(hL1.grown hG).up (by omega)
  have hC7:aF W7 g (bN t.tx) (.func (.func fn) #[] fc):=aF.up (by omega) (hC1.grown hG)
  have hB7:=eE hB1 hG (fun k hk=>by cases hk;omega)
  have hl7:=hO7.lt
  have hPP:cK (W7.alloc (.cells #[.iface ut up,.iface vt vp] 256)) g (.slice (some ⟨w1.heap.size,0,none⟩) 2 2) [.iface ut up,.iface vt vp]:=by
   rw [<-hZ]
   exact cK.two (by omega) (by decide) (by decide) (by go_simp) (by go_simp)
  have FIN:Hid (Below w.heap.size w (W7.alloc (.cells #[.iface ut up,.iface vt vp] 256))/\Nd (W7.alloc (.cells #[.iface ut up,.iface vt vp] 256)) g (.inf t.pl t.tx l r) (.iface 299 (.agg #[.int .i64 t.pl,.slice ta tn tc,.int .i64 (aQ t.tx).2,.func (.func fn) #[] fc,.slice (some ⟨w1.heap.size,0,none⟩) 2 2,.string t.tx,.int .i64 (bW t.tx)]))):=by
   have hbF:Below W7.heap.size W7 (W7.alloc (.cells #[.iface ut up,.iface vt vp] 256)):=by first | exact bR | exact ae _ _
   have hBF:=hB7.trans (hbF.mono hB7.size)
   refine ⟨hBF,?_⟩
   rw [Nd]
   exact ⟨_,_,_,_,_,rfl,HS.out,hL7.later hbF,hC7.later hbF,hPP,HL.out.later hBF,HR.out.later hBF⟩
  go_wp2_with fail
  exact bodyPost_ret (v:=.agg #[.int .i64 t.pl,.slice ta tn tc,.int .i64 (aQ t.tx).2,.func (.func fn) #[] fc,.slice (some ⟨w1.heap.size,0,none⟩) 2 2,.string t.tx,.int .i64 (bW t.tx)]) (by simp [results,Tryz.results283,go_sem,c0,c1,c2,c3,c4,c5,c6,hl7]) rfl ⟨FIN.out.1,_,rfl,FIN.out.2⟩
 ·obtain ⟨hG,hZ⟩:=s7 w1 (w.heap.size+1) (.int .i64 t.pl) (.slice ta tn tc) (.int .i64 (aQ t.tx).2) (.func (.func fn) #[] fc) (.slice (some ⟨w.heap.size+1+1,0,none⟩) 2 2) (.string t.tx) (.int .i64 (bW t.tx))
  have hO7:=((((((((hO0.put 0 (.int .i64 t.pl)).1.put 1 (.slice ta tn tc)).1.put 2 (.int .i64 (aQ t.tx).2)).1.put 3 (.func (.func fn) #[] fc)).1.put 4 (.slice (some ⟨w.heap.size+1+1,0,none⟩) 2 2)).1.put 5 (.string t.tx)).1.put 6 (.int .i64 (bW t.tx))).1)
  have hPW:Hid (w1=w1):=rfl
  generalize World.setCell _ ⟨w.heap.size+1,6,none⟩ _=W7 at hG hZ hO7 ⊢
  have c0:=hO7.c 0 rfl
  have c1:=hO7.c 1 rfl
  have c2:=hO7.c 2 rfl
  have c3:=hO7.c 3 rfl
  have c4:=hO7.c 4 rfl
  have c5:=hO7.c 5 rfl
  have c6:=hO7.c 6 rfl
  have hL7:cK W7 g (.slice ta tn tc) ((aQ t.tx).1.map (Value.int .i64 ·)):=(hL1.grown hG).up (by omega)
  have hC7:aF W7 g (bN t.tx) (.func (.func fn) #[] fc):=aF.up (by omega) (hC1.grown hG)
  have hB7:=eE hB1 hG (fun k hk=>by cases hk;omega)
  have hl7:=hO7.lt
  have hPP:cK W7 g (.slice (some ⟨w.heap.size+1+1,0,none⟩) 2 2) [.iface ut up,.iface vt vp]:=by
   have h0:w1.cell? ⟨w.heap.size+1+1,0,none⟩=some (.iface ut up):=af hb1 (by go_simp)
   have h1:w1.cell? ⟨w.heap.size+1+1,1,none⟩=some (.iface vt vp):=af hb1 (by go_simp)
   exact cK.two (by omega) (by decide) (by decide) (hG.cell h0 (by simp)) (hG.cell h1 (by simp))
  have FIN:Hid (Below w.heap.size w (W7)/\Nd (W7) g (.inf t.pl t.tx l r) (.iface 299 (.agg #[.int .i64 t.pl,.slice ta tn tc,.int .i64 (aQ t.tx).2,.func (.func fn) #[] fc,.slice (some ⟨w.heap.size+1+1,0,none⟩) 2 2,.string t.tx,.int .i64 (bW t.tx)]))):=by
   have hbF:Below W7.heap.size W7 (W7):=by first | exact bR | exact ae _ _
   have hBF:=hB7.trans (hbF.mono hB7.size)
   refine ⟨hBF,?_⟩
   rw [Nd]
   exact ⟨_,_,_,_,_,rfl,HS.out,hL7.later hbF,hC7.later hbF,hPP,HL.out.later hBF,HR.out.later hBF⟩
  go_wp2_with fail
  exact bodyPost_ret (v:=.agg #[.int .i64 t.pl,.slice ta tn tc,.int .i64 (aQ t.tx).2,.func (.func fn) #[] fc,.slice (some ⟨w.heap.size+1+1,0,none⟩) 2 2,.string t.tx,.int .i64 (bW t.tx)]) (by simp [results,Tryz.results283,go_sem,c0,c1,c2,c3,c4,c5,c6,hl7]) rfl ⟨FIN.out.1,_,rfl,FIN.out.2⟩
end Go.Proofs.YtiiliobffnhpmaaGreatDoor
