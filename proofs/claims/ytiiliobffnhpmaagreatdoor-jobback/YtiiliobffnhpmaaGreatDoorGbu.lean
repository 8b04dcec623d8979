import Derived.Test.YtiiliobffnhpmaaGreatDoorGbt
set_option linter.all false
set_option maxRecDepth 100000
set_option maxHeartbeats 4000000
namespace Go.Proofs.YtiiliobffnhpmaaGreatDoor
section
open Go.RowKit
theorem PX.lx {s:ByteArray} {x:X} (h:PX Dc.LV s (.ok x)):LX x:=by
 cases h with
 | ok h1 h2 h3=>
  have h4:=(fS _ _ _ _ h2).2
  have h5:s.data.toList.length=s.size:=Array.length_toList
  exact h3.lx (fun t ht=>by have:=(h4 t ht).2.2;omega) trivial _ _ rfl
theorem vT (s S:ByteArray) (b b2:Nat) (W:World) (h0:W.cell? ⟨b,0,none⟩=some (.string s)) (h2:aD W b2 9 1 [.string ⟨#[]⟩])
 (hc:Calls Tryz.prog 211 #[.string s] W fun e w'=>Below W.heap.size W w'/\∃ t p,e=.returned (.iface t p)/\WR w' (.iface t p) S) :
 Calls Tryz.prog 209 #[.pointer (some ⟨b,0,none⟩),.pointer (some ⟨b2,0,none⟩)] W fun e w'=>e=.returned (.tuple #[])/\W.grownBy w' (some b2)/\w'.cell? ⟨b2,0,none⟩=some (.string S):=by
 have HC:=bz hc
 have HO:=bz h2
 go_in
 go_wp2_with fail
 refine HC.out.mono ?_
 rintro e w1 ⟨hb1,t,p,rfl,hw⟩
 have HW:=bz hw
 have HO1:=bz (HO.out.later hb1)
 have HB1:=bz hb1
 go_wp2_with fail
 refine (HW.out w1 bR).mono ?_
 rintro e w2 ⟨rfl,hb2⟩
 have HO2:=jg (HO1.out.later hb2)
 have HB2:=jg (HB1.out.trans (hb2.mono HB1.out.size))
 have q0:=HO2.out.c 0 rfl
 have q1:=HO2.out.soft 0
 go_wp2_with fail
 obtain ⟨hp1,hp2⟩:=HO2.out.put 0 (.string S)
 have F1:=ai (aj HB2.out) hp2
 have F2:=hp1.c 0 rfl
 simp [bodyPost,results,Tryz.results209,go_sem]
 exact ⟨F1,F2⟩
theorem sY (s:ByteArray) (b b2:Nat) (f:jK) (W:World) (h0:W.cell? ⟨b,0,none⟩=some (.string s))
 (hc:Calls Tryz.prog 211 #[.string s] W fun e w'=>Below W.heap.size W w'/\e=.panicked [{ v:=df f.pl f.why,recovered:=false }]) :
 Calls Tryz.prog 209 #[.pointer (some ⟨b,0,none⟩),.pointer (some ⟨b2,0,none⟩)] W fun e w'=>e=.panicked [{ v:=df f.pl f.why,recovered:=false }]/\Below W.heap.size W w':=by
 have HC:=bz hc
 go_in
 go_wp2_with fail
 refine HC.out.mono ?_
 rintro e w2 ⟨hb2,rfl⟩
 first | exact ⟨rfl,hb2⟩ | exact ⟨rfl,rfl,hb2⟩
theorem lY (a:Array Value) (W:World):(callFunc 209 a).run Tryz.prog W=.ok (.enter 209 a) W:=eP Tryz.func209 (by kernel_rfl) (by rfl) a W
noncomputable def Ej (o:Except jK X):Value:=match o with
 | .ok x=>.tuple #[.string (cu x),.int .i64 0,.nilIface]
 | .error f=>.tuple #[.string ⟨#[]⟩,.int .i64 f.pl,.iface 37 (.int .i64 f.why)]
theorem vw (s:ByteArray) (w:World) (o:Except jK X) (ht:Vl.Tab w)
 (hp:∀ W,Below w.heap.size w W->Calls Tryz.prog 211 #[.string s] W fun e w'=>Below W.heap.size W w'/\
  match o with
  | .ok x=>∃ t p,e=.returned (.iface t p)/\Nd w' (W.heap.size-1) x (.iface t p)
  | .error f=>e=.panicked [{ v:=df f.pl f.why,recovered:=false }]) (ho:PX Dc.LV s o) :
 Calls Tryz.prog 176 #[.string s] w fun e w'=>e=.returned (Ej o)/\Below w.heap.size w w':=by
 have hmf:=ff
 have hW0:Below w.heap.size w ((w.alloc (.cells #[.string s] 9)).alloc (.cells #[.string ⟨#[]⟩] 9)):=(ae w _).alloc (by simp) _
 have p0:((w.alloc (.cells #[.string s] 9)).alloc (.cells #[.string ⟨#[]⟩] 9)).cell? ⟨w.heap.size,0,none⟩=some (.string s):=by go_simp
 have hsz:((w.alloc (.cells #[.string s] 9)).alloc (.cells #[.string ⟨#[]⟩] 9)).heap.size=w.heap.size+1+1:=by simp
 have p2:aD ((w.alloc (.cells #[.string s] 9)).alloc (.cells #[.string ⟨#[]⟩] 9)) (w.heap.size+1) 9 1 [.string ⟨#[]⟩]:=by
  have:=aD.new (w.alloc (.cells #[.string s] 9)) 9 1 #[.string ⟨#[]⟩] rfl
  simpa using this
 cases o with
 | error f=>
  have HC2:=jg hp
  have FIN:Hid (∀ w',Below w.heap.size w w'->(Ending.returned (.tuple #[.string ⟨#[]⟩,.int .i64 f.pl,.iface 37 (.int .i64 f.why)])=.returned (Ej (.error f))/\Below w.heap.size w w')):=fun w' h=>⟨rfl,h⟩
  have HB0:=bz hW0
  have P2:=bz p2
  go_in
  go_wp2_with fail
  generalize ((w.alloc (.cells #[.string s] 9)).alloc (.cells #[.string ⟨#[]⟩] 9))=W0 at *
  have hb2:Below W0.heap.size W0 ((W0.alloc (.cells #[.int .i64 0] 3)).alloc (.cells #[.nilIface] 26)):=(ae W0 _).alloc (by simp) _
  have HD:=sY s w.heap.size (w.heap.size+1) f _ (af hb2 p0) (HC2.out _ (HB0.out.trans (hb2.mono HB0.out.size)))
  have HE:=mn 209 _ W0 (fun w'=>Below W0.heap.size W0 w') f.pl f.why lY (HD.mono (fun e w' ⟨h1,h2⟩=>⟨h1,pX h2,hb2.trans (h2.mono hb2.size)⟩))
  refine HE.mono ?_
  rintro e w2 ⟨rfl,w1,hb1,hex⟩
  have q2:=hex.cell (af hb1 (by rw [P2.out.cell 0 (by decide)];rfl)) (by simp;omega) (by simp;omega)
  have F3:=bz (FIN.out w2 (hex.below (HB0.out.trans (hb1.mono HB0.out.size)) (by omega) (by omega)))
  go_wp2_with fail
  refine bodyPost_ret (v:=.tuple #[.string ⟨#[]⟩,.int .i64 f.pl,.iface 37 (.int .i64 f.why)]) (by simp [results,Tryz.results176,go_sem]) rfl ?_
  exact F3.out
 | ok x=>
  have hlx:=ho.lx
  have hsx:=ho.size
  obtain ⟨S,HS⟩:∃ S,Hid (cu x=S):=⟨_,rfl⟩
  have HC2:Hid (∀ W,Below w.heap.size w W->Calls Tryz.prog 211 #[.string s] W fun e w'=>Below W.heap.size W w'/\∃ t p,e=.returned (.iface t p)/\WR w' (.iface t p) S):=fun W hW=>by
   refine (hp W hW).mono ?_
   rintro e w' ⟨h1,t,p,h3,h4⟩
   refine ⟨h1,t,p,h3,?_⟩
   rw [<-HS.out]
   exact fm w' _ (Vl.Tab.later ht (hW.trans (h1.mono hW.size))) x _ h4 hlx hsx
  have FIN:Hid (∀ w',Below w.heap.size w w'->(Ending.returned (.tuple #[.string S,.int .i64 0,.nilIface])=.returned (Ej (.ok x))/\Below w.heap.size w w')):=fun w' h=>⟨by rw [<-HS.out];rfl,h⟩
  have HB0:=bz hW0
  have P2:=bz p2
  go_in
  go_wp2_with fail
  generalize ((w.alloc (.cells #[.string s] 9)).alloc (.cells #[.string ⟨#[]⟩] 9))=W0 at *
  have hb2:Below W0.heap.size W0 ((W0.alloc (.cells #[.int .i64 0] 3)).alloc (.cells #[.nilIface] 26)):=(ae W0 _).alloc (by simp) _
  have HD:=vT s S w.heap.size (w.heap.size+1) _ (af hb2 p0) (P2.out.later hb2) (HC2.out _ (HB0.out.trans (hb2.mono HB0.out.size)))
  have HE:=nV 209 _ W0 (fun w'=>W0.grownBy w' (some (w.heap.size+1))/\w'.cell? ⟨w.heap.size+1,0,none⟩=some (.string S)) lY (HD.mono (fun e w' ⟨h1,h2,h3⟩=>⟨h1,pW h2 (fun n hn=>by cases hn;omega),ai (aj hb2) h2,h3⟩))
  refine HE.mono ?_
  rintro e w2 ⟨rfl,w1,⟨hb1,hc1⟩,hex⟩
  have q2:=hex.cell hc1 (by simp;omega) (by simp;omega)
  have F3:=bz (FIN.out w2 (hex.below (eE HB0.out hb1 (fun n hn=>by cases hn;omega)) (by omega) (by omega)))
  go_wp2_with fail
  refine bodyPost_ret (v:=.tuple #[.string S,.int .i64 0,.nilIface]) (by simp [results,Tryz.results176,go_sem]) rfl ?_
  exact F3.out
end
namespace Bp
open Go.RowKit
theorem l_app (a b:ByteArray):(a++b).data.toList=a.data.toList++b.data.toList:=by simp
theorem s9 (l:List UInt8):Bdy (32::l):=by intro c h;cases h;exact .inl rfl
theorem Da (l:List UInt8):Bdy (40::l):=by intro c h;cases h;exact .inr (.inl rfl)
theorem xt (l:List UInt8):Bdy (41::l):=by intro c h;cases h;exact .inr (.inr (.inl rfl))
theorem yJ (l:List UInt8):Bdy (44::l):=by intro c h;cases h;exact .inr (.inr (.inr rfl))
theorem Db:TkOk 1 dz:=by
 have h:=tokAt_ok (c:=110) (r:=[111,116]) (kd:=1) (len:=3) (by decide) (by decide)
 exact h
theorem xg {x:X} {b:Bool} {lev n pl:Nat} {rest:List UInt8} (hw:WB (W x) b lev) (hb:Bdy rest) (hn:((jI b (cu x)).data.toList++rest).length<=n)
 (ih:∀ lev n pl rest,W x lev->Bdy rest->((cu x).data.toList++rest).length<=n->rp n pl ((cu x).data.toList++rest) rest (fun ts=>∃ x',TX x x' ts)) :
 rp n pl ((jI b (cu x)).data.toList++rest) rest (fun ts=>∃ x',TB (TX x) b x' ts):=by
 unfold jI at hn ⊢
 unfold WB at hw
 unfold TB
 cases b with
 | false=>
  simp only [Bool.false_eq_true,if_false] at hn hw ⊢
  exact ih lev n pl rest hw hb hn
 | true=>
  simp only [if_true] at hn hw ⊢
  have e:(oG++cu x++oR).data.toList++rest=40::((cu x).data.toList++41::rest):=by
   rw [l_app,l_app]
   show ([40]++(cu x).data.toList++[41])++rest=_
   simp
  rw [e] at hn ⊢
  refine (gj (.inl rfl) hn).seq (fun n' pl' h'=>(ih (lev+1) n' pl' (41::rest) hw.2 (xt _) h').seq (fun n2 pl2 h2=>gj (.inr (.inl rfl)) h2) (R:=fun ts=>∃ x' v t2,ts=v++[t2]/\t2.tx=dA/\TX x x' v) ?_) ?_
  ·rintro u v ⟨x',hx⟩ ⟨p,rfl⟩
   exact ⟨x',u,_,rfl,rfl,hx⟩
  ·rintro u v ⟨p,rfl⟩ ⟨x',v',t2,rfl,h2,h3⟩
   exact ⟨x',_,t2,v',rfl,rfl,rfl,h2,h3⟩
theorem sl:(dG []).data.toList=[]:=rfl
theorem pZ (s:ByteArray) (l:List ByteArray):(dG (s::l)).data.toList=s.data.toList++(l.map (fun q=>44::32::q.data.toList)).flatten:=by
 unfold dG
 simp only [List.map_cons]
 rw [Lib.join_cons]
 unfold Lib.joinTail
 simp only [List.map_map]
 congr 2
mutual
theorem tks_x:∀ (x:X) (lev n pl:Nat) (rest:List UInt8),W x lev->Bdy rest->((cu x).data.toList++rest).length<=n->rp n pl ((cu x).data.toList++rest) rest (fun ts=>∃ x',TX x x' ts)
 | .lit k m t,lev,n,pl,rest,hw,hb,hn=>by
  unfold cu at hn ⊢
  unfold W at hw
  obtain ⟨h1,kd,h2,h3⟩:=hw
  refine (jO h2 hn hb).mono ?_
  rintro u ⟨p,rfl⟩
  exact ⟨_,by unfold TX;exact ⟨_,rfl,rfl,h3,rfl⟩⟩
 | .col p nm,lev,n,pl,rest,hw,hb,hn=>by
  unfold cu at hn ⊢
  unfold W at hw
  refine (jO hw.1 hn hb).mono ?_
  rintro u ⟨p,rfl⟩
  exact ⟨_,by unfold TX;exact ⟨_,rfl,rfl,rfl,rfl⟩⟩
 | .pre p s x,lev,n,pl,rest,hw,hb,hn=>by
  unfold cu at hn ⊢
  unfold W at hw
  obtain ⟨h1,h2,h3⟩:=hw
  have key:∀ n' pl',((jI (decide (dm x<az s)) (cu x)).data.toList++rest).length<=n'->rp n' pl' ((jI (decide (dm x<az s)) (cu x)).data.toList++rest) rest (fun ts=>∃ x',TB (TX x) (decide (dm x<az s)) x' ts):=
   fun n' pl' h'=>xg h3 hb h' (tks_x x)
  rw [l_app,List.append_assoc] at hn ⊢
  generalize (jI (decide (dm x<az s)) (cu x)).data.toList=B at hn key ⊢
  rcases h2 with rfl | rfl
  ·have e:(fQ dz).data.toList++(B++rest)=dz.data.toList++(32::(B++rest)):=by
    have:fQ dz=dz++wH:=by unfold fQ;rw [if_pos rfl]
    rw [this,l_app,List.append_assoc];rfl
   rw [e] at hn ⊢
   refine (jO Db hn (s9 _)).seq (fun n' pl' h'=>(pm h').seq key (R:=fun ts=>∃ x',TB (TX x) (decide (dm x<az dz)) x' ts) ?_) ?_
   ·rintro u v rfl h;exact h
   ·rintro u v ⟨p,rfl⟩ ⟨x',h⟩
    exact ⟨_,by unfold TX;exact ⟨_,x',v,rfl,rfl,h,rfl⟩⟩
  ·have e:(fQ bh).data.toList++(B++rest)=45::(B++rest):=by
    have:fQ bh=bh:=by unfold fQ;rw [if_neg (by decide)]
    rw [this];rfl
   rw [e] at hn ⊢
   refine (gj (.inr (.inr (.inr rfl))) hn).seq key ?_
   rintro u v ⟨p,rfl⟩ ⟨x',h⟩
   exact ⟨_,by unfold TX;exact ⟨_,x',v,rfl,rfl,h,rfl⟩⟩
 | .inf p s l r,lev,n,pl,rest,hw,hb,hn=>by
  unfold cu at hn ⊢
  unfold W at hw
  obtain ⟨h1,⟨kd,h2⟩,h3,h4⟩:=hw
  have e:(jI (decide (dm l<cZ s)) (cu l)++wH++s++wH++jI (decide (dm r<(bW s:Int)+1)) (cu r)).data.toList++rest=(jI (decide (dm l<cZ s)) (cu l)).data.toList++(32::(s.data.toList++(32::((jI (decide (dm r<(bW s:Int)+1)) (cu r)).data.toList++rest)))):=by
   rw [l_app,l_app,l_app,l_app]
   have:wH.data.toList=[32]:=rfl
   rw [this]
   simp
  rw [e] at hn ⊢
  refine (xg h3 (s9 _) hn (tks_x l)).seq (fun n1 p1 hn1=>(pm hn1).seq (fun n2 p2 hn2=>(jO h2 hn2 (s9 _)).seq (fun n3 p3 hn3=>(pm hn3).seq (fun n4 p4 hn4=>xg h4 hb hn4 (tks_x r)) (R:=fun ts=>∃ x',TB (TX r) (decide (dm r<(bW s:Int)+1)) x' ts) ?_) (R:=fun ts=>∃ tk v x',ts=tk::v/\tk.tx=s/\TB (TX r) (decide (dm r<(bW s:Int)+1)) x' v) ?_) (R:=fun ts=>∃ tk v x',ts=tk::v/\tk.tx=s/\TB (TX r) (decide (dm r<(bW s:Int)+1)) x' v) ?_) ?_
  ·rintro u v rfl h;exact h
  ·rintro u v ⟨p,rfl⟩ ⟨x',h⟩;exact ⟨_,v,x',rfl,rfl,h⟩
  ·rintro u v rfl h;exact h
  ·rintro u v ⟨y,hy⟩ ⟨tk,v',z,rfl,h5,h6⟩
   exact ⟨_,by unfold TX;exact ⟨tk,y,z,u,v',rfl,h5,hy,h6,rfl⟩⟩
 | .app p nm l,lev,n,pl,rest,hw,hb,hn=>by
  unfold cu at hn ⊢
  unfold W at hw
  obtain ⟨h1,h2,h3⟩:=hw
  have e:(nm++oG++dG (dg l)++oR).data.toList++rest=nm.data.toList++(40::((dG (dg l)).data.toList++41::rest)):=by
   rw [l_app,l_app,l_app]
   show (nm.data.toList++[40]++(dG (dg l)).data.toList++[41])++rest=_
   simp
  rw [e] at hn ⊢
  refine (jO h2.1 hn (Da _)).seq (fun n1 p1 hn1=>(gj (.inl rfl) hn1).seq (fun n2 p2 hn2=>(BS l (lev+1) n2 p2 (41::rest) h3 (xt _) hn2).seq (fun n3 p3 hn3=>gj (.inr (.inl rfl)) hn3) (R:=fun ts=>∃ ys v t2,ts=v++[t2]/\t2.tx=dA/\TXs l ys v) ?_) (R:=fun ts=>∃ t1 ys v t2,ts=t1::(v++[t2])/\t1.tx=cf/\t2.tx=dA/\TXs l ys v) ?_) ?_
  ·rintro u v ⟨ys,h⟩ ⟨p,rfl⟩;exact ⟨ys,u,_,rfl,rfl,h⟩
  ·rintro u v ⟨p,rfl⟩ ⟨ys,v',t2,rfl,h4,h5⟩;exact ⟨_,ys,v',t2,rfl,rfl,h4,h5⟩
  ·rintro u v ⟨p,rfl⟩ ⟨t1,ys,v',t2,rfl,h4,h5,h6⟩
   exact ⟨_,by unfold TX;exact ⟨_,t1,t2,ys,v',rfl,rfl,rfl,h4,h5,h6,rfl⟩⟩
theorem BS:∀ (l:List X) (lev n pl:Nat) (rest:List UInt8),Ws l lev->Bdy rest->((dG (dg l)).data.toList++rest).length<=n->rp n pl ((dG (dg l)).data.toList++rest) rest (fun ts=>∃ ys,TXs l ys ts)
 | [],lev,n,pl,rest,hw,hb,hn=>by
  unfold dg at hn ⊢
  rw [sl,List.nil_append] at hn ⊢
  refine ⟨n,pl,[],hn,⟨[],by unfold TXs;exact ⟨rfl,rfl⟩⟩,?_⟩
  cases tok n pl rest<;>simp [Except.map]
 | x::l,lev,n,pl,rest,hw,hb,hn=>by
  unfold dg at hn ⊢
  unfold Ws at hw
  rw [pZ,List.append_assoc] at hn ⊢
  refine (tks_x x lev n pl _ hw.1 ?_ hn).seq (fun n1 p1 hn1=>yk l lev n1 p1 rest hw.2 hb hn1) ?_
  ·cases l with
   | nil=>unfold dg;simpa using hb
   | cons y l=>unfold dg;exact yJ _
  ·rintro u v ⟨y,h⟩ ⟨ys,h'⟩
   exact ⟨_,by unfold TXs;exact ⟨y,ys,u,v,h,h',rfl,rfl⟩⟩
theorem yk:∀ (l:List X) (lev n pl:Nat) (rest:List UInt8),Ws l lev->Bdy rest->(((dg l).map (fun q=>44::32::q.data.toList)).flatten++rest).length<=n->rp n pl (((dg l).map (fun q=>44::32::q.data.toList)).flatten++rest) rest (fun ts=>∃ ys,TXt l ys ts)
 | [],lev,n,pl,rest,hw,hb,hn=>by
  unfold dg at hn ⊢
  simp only [List.map_nil,List.flatten_nil,List.nil_append] at hn ⊢
  refine ⟨n,pl,[],hn,⟨[],by unfold TXt;exact ⟨rfl,rfl⟩⟩,?_⟩
  cases tok n pl rest<;>simp [Except.map]
 | x::l,lev,n,pl,rest,hw,hb,hn=>by
  unfold dg at hn ⊢
  unfold Ws at hw
  simp only [List.map_cons,List.flatten_cons,List.cons_append,List.append_assoc] at hn ⊢
  refine (gj (.inr (.inr (.inl rfl))) hn).seq (fun n0 p0 hn0=>(pm hn0).seq (fun n1 p1 hn1=>(tks_x x lev n1 p1 _ hw.1 ?_ hn1).seq (fun n2 p2 hn2=>yk l lev n2 p2 rest hw.2 hb hn2) (R:=fun ts=>∃ y ys u v,TX x y u/\TXt l ys v/\ts=u++v) ?_) (R:=fun ts=>∃ y ys u v,TX x y u/\TXt l ys v/\ts=u++v) ?_) ?_
  ·cases l with
   | nil=>unfold dg;simpa using hb
   | cons y l=>unfold dg;exact yJ _
  ·rintro u v ⟨y,h⟩ ⟨ys,h'⟩
   exact ⟨y,ys,u,v,h,h',rfl⟩
  ·rintro u v rfl h;exact h
  ·rintro u v ⟨p,rfl⟩ ⟨y,ys,v1,v2,h,h',rfl⟩
   exact ⟨_,by unfold TXt;exact ⟨y,ys,_,v1,v2,rfl,h,h',rfl,rfl⟩⟩
end
theorem CI {x y:X} {b:Bool} {u:List Tk} (h:TB (TX x) b y u):∃ v,TX x y v:=by
 unfold TB at h
 split at h
 ·obtain ⟨t1,t2,v,-,-,-,-,h⟩:=h;exact ⟨v,h⟩
 ·exact ⟨u,h⟩
theorem oz (x x':X) (ts:List Tk) (h:TX x x' ts):dm x'=dm x:=by
 cases x with
 | lit k n t=>unfold TX at h;obtain ⟨tk,-,-,-,rfl⟩:=h;rfl
 | col p nm=>unfold TX at h;obtain ⟨tk,-,-,-,rfl⟩:=h;rfl
 | pre p s x=>unfold TX at h;obtain ⟨tk,y,u,-,-,-,rfl⟩:=h;rfl
 | inf p s l r=>unfold TX at h;obtain ⟨tk,y,z,u,v,-,-,-,-,rfl⟩:=h;rfl
 | app p nm l=>unfold TX at h;obtain ⟨tk,t1,t2,ys,u,-,-,-,-,-,-,rfl⟩:=h;rfl
mutual
theorem pr_same:∀ (x x':X) (ts:List Tk),TX x x' ts->cu x'=cu x
 | .lit k n t,x',ts,h=>by unfold TX at h;obtain ⟨tk,-,-,-,rfl⟩:=h;rfl
 | .col p nm,x',ts,h=>by unfold TX at h;obtain ⟨tk,-,-,-,rfl⟩:=h;unfold cu;rfl
 | .pre p s x,x',ts,h=>by
  unfold TX at h
  obtain ⟨tk,y,u,-,-,h1,rfl⟩:=h
  obtain ⟨v,h2⟩:=CI h1
  unfold cu
  rw [pr_same x y v h2,oz x y v h2]
 | .inf p s l r,x',ts,h=>by
  unfold TX at h
  obtain ⟨tk,y,z,u,v,-,-,h1,h2,rfl⟩:=h
  obtain ⟨v1,h3⟩:=CI h1
  obtain ⟨v2,h4⟩:=CI h2
  unfold cu
  rw [pr_same l y v1 h3,oz l y v1 h3,pr_same r z v2 h4,oz r z v2 h4]
 | .app p nm l,x',ts,h=>by
  unfold TX at h
  obtain ⟨tk,t1,t2,ys,u,-,-,-,-,-,h1,rfl⟩:=h
  unfold cu
  rw [zv l ys u h1]
theorem zv:∀ (l ys:List X) (u:List Tk),TXs l ys u->dg ys=dg l
 | [],ys,u,h=>by unfold TXs at h;rw [h.1]
 | x::l,ys,u,h=>by
  unfold TXs at h
  obtain ⟨y,ys',v,v',h1,h2,rfl,-⟩:=h
  unfold dg
  rw [pr_same x y v h1,qS l ys' v' h2]
theorem qS:∀ (l ys:List X) (u:List Tk),TXt l ys u->dg ys=dg l
 | [],ys,u,h=>by unfold TXt at h;rw [h.1]
 | x::l,ys,u,h=>by
  unfold TXt at h
  obtain ⟨y,ys',tk,v,v',-,h1,h2,rfl,-⟩:=h
  unfold dg
  rw [pr_same x y v h1,qS l ys' v' h2]
end
end Bp
end Go.Proofs.YtiiliobffnhpmaaGreatDoor
