import Derived.Test.YtiiliobffnhpmaaGreatDoorGah
set_option linter.all false
set_option maxRecDepth 100000
set_option maxHeartbeats 4000000
namespace Go.Proofs.YtiiliobffnhpmaaGreatDoor
section
open Go.RowKit
attribute [local go_sem] an
theorem eP {f : FuncId} {fn : Func} {c : Code} (hf : Tryz.prog.funcs[f]? = some fn) (hname : (fn.name == "runtime.NumGoroutine") = false) (hb : fn.body = some c) (args : Array Value) (w : World) :
 (callFunc f args).run Tryz.prog w=.ok (.enter f args) w:=by
 have h1 : fn.name ≠ "runtime.NumGoroutine" := by simpa using hname
 simp [callFunc,hf,h1,hb]
theorem zV (a:Array Value) (W:World):(callFunc 270 a).run Tryz.prog W=.ok (.enter 270 a) W:=eP Tryz.func270 (by kernel_rfl) (by rfl) a W
theorem Cv {L:ByteArray->Int->Int->ByteArray->Prop} {G:World->Prop} {g E n:Nat} (hL:fl L) (hG:∀ W W',G W->W.grownBy W' (some g)->G W') (hP:gu L G g E 270 1 n):gu L G g E 247 0 n:=by
 intro ts lev w hn hf h hw
 have HJ:Hid (Calls Tryz.prog 269 #[.pointer (some ⟨g,0,none⟩),.int .i64 0,.func (.func 270) #[.pointer (some ⟨g,0,none⟩)] #[]] w (bI L w g E (.D 0) lev ts)):=
  gR hL hG E _ 0 (by unfold jr;omega) ts lev w zV (fun ts' lev' W h1=>hP ts' lev' W (by omega)) hf h hw
 have hmf:=ff
 clear hL hG hP hf h hw
 go_in
 go_wp2_with fail
 refine HJ.out.mono ?_
 intro e w1 hpp
 have HPP:=jg hpp
 rcases hpp.iface with ⟨_,x,ts1,t,p,_,rfl,_,_⟩ | ⟨_,f,_,rfl⟩
 ·clear hpp
  go_wp2_with fail
  go_ret
  exact HPP.out
 ·exact ⟨rfl,HPP.out⟩
theorem uB (a:Array Value) (W:World):(callFunc 284 a).run Tryz.prog W=.ok (.enter 284 a) W:=eP Tryz.func284 (by kernel_rfl) (by rfl) a W
theorem Ab {L:ByteArray->Int->Int->ByteArray->Prop} {G:World->Prop} {g E n:Nat} (hL:fl L) (hG:∀ W W',G W->W.grownBy W' (some g)->G W') (hP:gu L G g E 284 2 n):gu L G g E 270 1 n:=by
 intro ts lev w hn hf h hw
 have HJ:Hid (Calls Tryz.prog 269 #[.pointer (some ⟨g,0,none⟩),.int .i64 1,.func (.func 284) #[.pointer (some ⟨g,0,none⟩)] #[]] w (bI L w g E (.D 1) lev ts)):=
  gR hL hG E _ 1 (by unfold jr;omega) ts lev w uB (fun ts' lev' W h1=>hP ts' lev' W (by omega)) hf h hw
 have hmf:=ff
 clear hL hG hP hf h hw
 go_in
 go_wp2_with fail
 refine HJ.out.mono ?_
 intro e w1 hpp
 have HPP:=jg hpp
 rcases hpp.iface with ⟨_,x,ts1,t,p,_,rfl,_,_⟩ | ⟨_,f,_,rfl⟩
 ·clear hpp
  go_wp2_with fail
  go_ret
  exact HPP.out
 ·exact ⟨rfl,HPP.out⟩
theorem rF (a:Array Value) (W:World):(callFunc 325 a).run Tryz.prog W=.ok (.enter 325 a) W:=eP Tryz.func325 (by kernel_rfl) (by rfl) a W
theorem Aj {L:ByteArray->Int->Int->ByteArray->Prop} {G:World->Prop} {g E n:Nat} (hL:fl L) (hG:∀ W W',G W->W.grownBy W' (some g)->G W') (hP:gu L G g E 325 5 n):gu L G g E 315 4 n:=by
 intro ts lev w hn hf h hw
 have HJ:Hid (Calls Tryz.prog 269 #[.pointer (some ⟨g,0,none⟩),.int .i64 4,.func (.func 325) #[.pointer (some ⟨g,0,none⟩)] #[]] w (bI L w g E (.D 4) lev ts)):=
  gR hL hG E _ 4 (by unfold jr;omega) ts lev w rF (fun ts' lev' W h1=>hP ts' lev' W (by omega)) hf h hw
 have hmf:=ff
 clear hL hG hP hf h hw
 go_in
 go_wp2_with fail
 refine HJ.out.mono ?_
 intro e w1 hpp
 have HPP:=jg hpp
 rcases hpp.iface with ⟨_,x,ts1,t,p,_,rfl,_,_⟩ | ⟨_,f,_,rfl⟩
 ·clear hpp
  go_wp2_with fail
  go_ret
  exact HPP.out
 ·exact ⟨rfl,HPP.out⟩
theorem nO (a:Array Value) (W:World):(callFunc 336 a).run Tryz.prog W=.ok (.enter 336 a) W:=eP Tryz.func336 (by kernel_rfl) (by rfl) a W
theorem qx {L:ByteArray->Int->Int->ByteArray->Prop} {G:World->Prop} {g E n:Nat} (hL:fl L) (hG:∀ W W',G W->W.grownBy W' (some g)->G W') (hP:gu L G g E 336 6 n):gu L G g E 325 5 n:=by
 intro ts lev w hn hf h hw
 have HJ:Hid (Calls Tryz.prog 269 #[.pointer (some ⟨g,0,none⟩),.int .i64 5,.func (.func 336) #[.pointer (some ⟨g,0,none⟩)] #[]] w (bI L w g E (.D 5) lev ts)):=
  gR hL hG E _ 5 (by unfold jr;omega) ts lev w nO (fun ts' lev' W h1=>hP ts' lev' W (by omega)) hf h hw
 have hmf:=ff
 clear hL hG hP hf h hw
 go_in
 go_wp2_with fail
 refine HJ.out.mono ?_
 intro e w1 hpp
 have HPP:=jg hpp
 rcases hpp.iface with ⟨_,x,ts1,t,p,_,rfl,_,_⟩ | ⟨_,f,_,rfl⟩
 ·clear hpp
  go_wp2_with fail
  go_ret
  exact HPP.out
 ·exact ⟨rfl,HPP.out⟩
theorem jC {w w':World} {a:Addr} {r:Option Nat} (hg:w.grownBy w' r) (ha:a.block<w.heap.size) (h:w.frozen? a=false) (hne:some a.block≠r):w'.frozen? a=false:=by
 have:=hg.block a.block ha hne
 unfold World.frozen? at h ⊢
 rw [this]
 exact h
theorem mW {L:ByteArray->Int->Int->ByteArray->Prop} {G:World->Prop} {g:Nat} (hL:fl L) (hG:∀ W W',G W->W.grownBy W' (some g)->G W') (E fn r:Nat) (s:ByteArray) (hr:pr r s) (t:Tk) (ts:List Tk) (lev:Nat) (w:World) (hts:t.tx=s) (hent:∀ (a:Array Value) (W:World),(callFunc fn a).run Tryz.prog W=.ok (.enter fn a) W) (hP:gu L G g E fn r ts.length) (hf:kp (t::ts)) (h:PS w g E (t::ts) lev) (hw:G w) :
 Calls Tryz.prog 291 #[.pointer (some ⟨g,0,none⟩),.int .i64 r,.func (.func fn) #[.pointer (some ⟨g,0,none⟩)] #[]] w (bI L w g E (.D r) lev (t::ts)):=by
 have HP:=jg hP
 have HG:=jg hG
 have HF:Hid (kp ts):=fun x hx=>hf x (by simp [hx])
 have HJ:=jg hr
 have HLL:=jg hL
 have HTS:=jg hts
 have H:=jg h
 have HW:=jg hw
 have HR:Hid ((t.tx=dz/\(r:Int)=2)\/(t.tx=bh/\(r:Int)=6)):=by
  unfold Hid
  rcases hr with ⟨rfl,rfl⟩ | ⟨rfl,rfl⟩
  ·exact .inl ⟨hts,rfl⟩
  ·exact .inr ⟨hts,rfl⟩
 have hgl:=h.lt
 have hgw:g<=w.heap.size-1:=by omega
 have hgw0:0<w.heap.size:=by omega
 clear hP hG hf hr h hw hL hts
 go_in
 go_wp2_with fail
 refine (bt g E lev (t::ts) _ H.out).mono ?_
 rintro e w1 ⟨rfl,hg1,hp1⟩
 have B4:Hid (PS w1 g E ts lev):=hp1
 have B5:=jg hg1
 have hgl1:=hp1.lt
 clear hg1 hp1 H
 rw [show hd E (t::ts)=t from rfl]
 unfold eA
 go_wp2_with fail
 have s0:(w1.alloc (.cells #[.int .i64 t.pl,.int .i64 t.kd,.string t.tx] 136)).cell? ⟨w1.heap.size,0,none⟩=some (.int .i64 t.pl):=by go_simp
 have s1:(w1.alloc (.cells #[.int .i64 t.pl,.int .i64 t.kd,.string t.tx] 136)).cell? ⟨w1.heap.size,1,none⟩=some (.int .i64 t.kd):=by go_simp
 have s2:(w1.alloc (.cells #[.int .i64 t.pl,.int .i64 t.kd,.string t.tx] 136)).cell? ⟨w1.heap.size,2,none⟩=some (.string t.tx):=by go_simp
 have C4:Hid (PS (w1.alloc (.cells #[.int .i64 t.pl,.int .i64 t.kd,.string t.tx] 136)) g E ts lev):=B4.out.later (ae _ _)
 have C5:Hid (w.grownBy (w1.alloc (.cells #[.int .i64 t.pl,.int .i64 t.kd,.string t.tx] 136)) (some g)):=ai B5.out (aj (ae _ _))
 clear B4 B5
 refine (ku g E lev ts t _ C4.out).mono ?_
 rintro e w2 ⟨hg2,hp2⟩
 have hne:some w1.heap.size≠some g:=fun e=>by have:=sI e;omega
 replace s0:=hg2.cell s0 hne
 replace s1:=hg2.cell s1 hne
 replace s2:=hg2.cell s2 hne
 generalize w1.heap.size=b8 at *
 by_cases hl:lev=12
 ·rw [if_pos hl] at hp2
  subst hp2
  subst hl
  exact ⟨rfl,ai C5.out hg2,.error ⟨t.pl,4⟩,.pdeep HJ.out HTS.out,rfl⟩
 ·rw [if_neg hl] at hp2
  obtain ⟨rfl,hp2⟩:=hp2
  have D4:=jg hp2
  have D5:=jg (ai C5.out hg2)
  have D6:=jg (HG.out _ _ HW.out D5.out)
  have HLV:=jg hl
  have hgl2:=hp2.lt
  have hbl2:=bL s0
  clear hg2 hp2 hl C4 C5 hgl1 HW
  obtain ⟨o,ho⟩:=HP.out.exi lR HF.out D4.out D6.out
  have hb82:¬ b8=w2.heap.size:=by simp only at hbl2;omega
  have hb28:¬ w2.heap.size=b8:=by simp only at hbl2;omega
  have hn2:some w2.heap.size≠some g:=fun e=>by have:=sI e;omega
  cases o with
  | error f=>
   have HO:=jg ho
   clear ho
   have HB:Hid (∀ W,Below w2.heap.size w2 W->Calls Tryz.prog fn #[.pointer (some ⟨g,0,none⟩)] W fun e w'=>W.grownBy w' (some g)/\e=.panicked [{ v:=df f.pl f.why,recovered:=false }]):=fun W hW=>gu.bad HLL.out HP.out HO.out W lR HF.out (D4.out.later hW) (HG.out _ _ D6.out (aj hW))
   have FIN:Hid (∀ W w5,Below w2.heap.size w2 W->W.grownBy w5 (some g)->bI L w g E (.D r) lev (t::ts) (.panicked [{ v:=df f.pl f.why,recovered:=false }]) w5):=fun W w5 hW hg5=>⟨ai D5.out (ai (aj hW) hg5),.error f,.pbad HJ.out HTS.out HLV.out HO.out,rfl⟩
   go_wp2_with fail
   refine wp_region_any (by kernel_rfl) ?_
   change wpAny _ _ _ _ _ _ _ (World.drew _)
   refine wpAny_take (i:=1) (v:=.int .i64 r) rfl (by kernel_rfl) (by kernel_rfl) (by kernel_rfl) (fun _ _ _ h=>h) (Or.inl ⟨by rfl,?_⟩) ?_
   ·intro w;go_simp
   refine wpAny_take (i:=2) (v:=.func (.func fn) #[.pointer (some ⟨g,0,none⟩)] #[]) rfl (by kernel_rfl) (by kernel_rfl) (by kernel_rfl) (fun _ _ _ h=>h) (Or.inl ⟨by rfl,?_⟩) ?_
   ·intro w;go_simp
   refine wpAny_ready (rs:=[0,3,5]) (by kernel_rfl) (by simp) ?_
   refine AllReady.cons rfl (fun K hK=>?_) ?_
   ·go_simp
    refine hK _ _ ?_
    clear hK K
    refine wpAny_ready (rs:=[3,5]) (by kernel_rfl) (by simp) ?_
    refine AllReady.cons rfl (fun K hK=>?_) ?_
    ·go_simp
     refine (HB.out _ bR.drew).mono ?_
     rintro e w5 ⟨hg5,rfl⟩
     exact FIN.out _ w5 bR.drew hg5
    refine AllReady.cons rfl (fun K hK=>?_) AllReady.nil
    go_simp
    refine hK _ _ ?_
    clear hK K
    refine aY 3 (by kernel_rfl) rfl (fun K hK=>?_)
    go_simp
    refine (HB.out _ (ae w2 _).drew).mono ?_
    rintro e w5 ⟨hg5,rfl⟩
    exact FIN.out _ w5 (ae w2 _).drew hg5
   refine AllReady.cons rfl (fun K hK=>?_) ?_
   ·go_simp
    refine (HB.out _ bR.drew).mono ?_
    rintro e w5 ⟨hg5,rfl⟩
    exact FIN.out _ w5 bR.drew hg5
   refine AllReady.cons rfl (fun K hK=>?_) AllReady.nil
   go_simp
   refine hK _ _ ?_
   clear hK K
   refine wpAny_ready (rs:=[0,3]) (by kernel_rfl) (by simp) ?_
   refine AllReady.cons rfl (fun K hK=>?_) ?_
   ·go_simp
    refine hK _ _ ?_
    clear hK K
    refine aY 3 (by kernel_rfl) rfl (fun K hK=>?_)
    go_simp
    refine (HB.out _ (ae w2 _).drew).mono ?_
    rintro e w5 ⟨hg5,rfl⟩
    exact FIN.out _ w5 (ae w2 _).drew hg5
   refine AllReady.cons rfl (fun K hK=>?_) AllReady.nil
   go_simp
   refine (HB.out _ (ae w2 _).drew).mono ?_
   rintro e w5 ⟨hg5,rfl⟩
   exact FIN.out _ w5 (ae w2 _).drew hg5
  | ok q=>
   obtain ⟨y,ts5⟩:=q
   have HO:=jg ho
   clear ho
   go_wp2_with fail
   go_region_held3 (fun w'=>w'.cell? ⟨b8,0,none⟩=some (.int .i64 t.pl)/\w'.cell? ⟨b8,1,none⟩=some (.int .i64 t.kd)/\w'.cell? ⟨b8,2,none⟩=some (.string t.tx))
    (first | go_keep)
    (first | (go_at_call 313;refine (fZ t r _ _ w5 HR.out).mono ?_;rintro e w6 ⟨hb6,v6,rfl,n6⟩;have q0:=af hb6 r0;have qf0:=cF hb6 rl rf0;have q1:=af hb6 r1;have qf1:=cF hb6 rl rf1;have q2:=af hb6 r2;have qf2:=cF hb6 rl rf2;have q3:=af hb6 r3;have qf3:=cF hb6 rl rf3;have q4:=af hb6 r4;have qf4:=cF hb6 rl rf4;have q5:=af hb6 r5;have qf5:=cF hb6 rl rf5;have q6:=af hb6 r6;have qf6:=cF hb6 rl rf6;have s0:w6.cell? ⟨b8,0,none⟩=some (.int .i64 t.pl):=af hb6 s0;have s1:w6.cell? ⟨b8,1,none⟩=some (.int .i64 t.kd):=af hb6 s1;have s2:w6.cell? ⟨b8,2,none⟩=some (.string t.tx):=af hb6 s2;obtain ⟨ta,tn,tc,fn6,fc,pa,pn,pc,rfl⟩:=n6.form;have hs6:=bL s0;have hb86:¬ b8=w6.heap.size:=Nat.ne_of_lt hs6;have hb68:¬ w6.heap.size=b8:=Nat.ne_of_gt hs6;have hl6:=bL q0) | (go_at_call 313;refine (fZ t r _ _ (w5.alloc (.cells #[.int .i64 0,.slice none 0 0,.int .i64 0,.nilFunc,.slice none 0 0,.string ⟨#[]⟩,.int .i64 0] 297)) HR.out).mono ?_;rintro e w6 ⟨hb6,v6,rfl,n6⟩;have q0:w6.cell? ⟨w5.heap.size,0,none⟩=some (.int .i64 0):=af hb6 (by go_simp);have qf0:w6.frozen? ⟨w5.heap.size,0,none⟩=false:=cF hb6 (by simp) (by go_simp);have q1:w6.cell? ⟨w5.heap.size,1,none⟩=some (.slice none 0 0):=af hb6 (by go_simp);have qf1:w6.frozen? ⟨w5.heap.size,1,none⟩=false:=cF hb6 (by simp) (by go_simp);have q2:w6.cell? ⟨w5.heap.size,2,none⟩=some (.int .i64 0):=af hb6 (by go_simp);have qf2:w6.frozen? ⟨w5.heap.size,2,none⟩=false:=cF hb6 (by simp) (by go_simp);have q3:w6.cell? ⟨w5.heap.size,3,none⟩=some (.nilFunc):=af hb6 (by go_simp);have qf3:w6.frozen? ⟨w5.heap.size,3,none⟩=false:=cF hb6 (by simp) (by go_simp);have q4:w6.cell? ⟨w5.heap.size,4,none⟩=some (.slice none 0 0):=af hb6 (by go_simp);have qf4:w6.frozen? ⟨w5.heap.size,4,none⟩=false:=cF hb6 (by simp) (by go_simp);have q5:w6.cell? ⟨w5.heap.size,5,none⟩=some (.string ⟨#[]⟩):=af hb6 (by go_simp);have qf5:w6.frozen? ⟨w5.heap.size,5,none⟩=false:=cF hb6 (by simp) (by go_simp);have q6:w6.cell? ⟨w5.heap.size,6,none⟩=some (.int .i64 0):=af hb6 (by go_simp);have qf6:w6.frozen? ⟨w5.heap.size,6,none⟩=false:=cF hb6 (by simp) (by go_simp);have s0:w6.cell? ⟨b8,0,none⟩=some (.int .i64 t.pl):=af hb6 (af (ae w5 _) s0);have s1:w6.cell? ⟨b8,1,none⟩=some (.int .i64 t.kd):=af hb6 (af (ae w5 _) s1);have s2:w6.cell? ⟨b8,2,none⟩=some (.string t.tx):=af hb6 (af (ae w5 _) s2);obtain ⟨ta,tn,tc,fn6,fc,pa,pn,pc,rfl⟩:=n6.form;have hs6:=bL s0;have hb86:¬ b8=w6.heap.size:=Nat.ne_of_lt hs6;have hb68:¬ w6.heap.size=b8:=Nat.ne_of_gt hs6;have hl6:=bL q0) | (go_at_call 313;refine (fZ t r _ _ w5 HR.out).mono ?_;rintro e w6 ⟨hb6,v6,rfl,n6⟩;have s0:w6.cell? ⟨b8,0,none⟩=some (.int .i64 t.pl):=af hb6 s0;have s1:w6.cell? ⟨b8,1,none⟩=some (.int .i64 t.kd):=af hb6 s1;have s2:w6.cell? ⟨b8,2,none⟩=some (.string t.tx):=af hb6 s2;obtain ⟨ta,tn,tc,fn6,fc,pa,pn,pc,rfl⟩:=n6.form;have hs6:=bL s0;have hb86:¬ b8=w6.heap.size:=Nat.ne_of_lt hs6;have hb68:¬ w6.heap.size=b8:=Nat.ne_of_gt hs6;skip) | (refine (gu.ok HLL.out HP.out HO.out (w2.alloc (.cells #[.int .i64 0,.slice none 0 0,.int .i64 0,.nilFunc,.slice none 0 0,.string ⟨#[]⟩,.int .i64 0] 297)).drew lR HF.out (D4.out.later (ae w2 _).drew) (HG.out _ _ D6.out (aj (ae w2 _).drew))).mono ?_;rintro e w5 ⟨hg5,t5,p5,rfl,n5y,ps5⟩;have r0:w5.cell? ⟨w2.heap.size,0,none⟩=some (.int .i64 0):=hg5.cell (by go_simp) hn2;have rf0:w5.frozen? ⟨w2.heap.size,0,none⟩=false:=jC hg5 (by simp) (by go_simp) hn2;have r1:w5.cell? ⟨w2.heap.size,1,none⟩=some (.slice none 0 0):=hg5.cell (by go_simp) hn2;have rf1:w5.frozen? ⟨w2.heap.size,1,none⟩=false:=jC hg5 (by simp) (by go_simp) hn2;have r2:w5.cell? ⟨w2.heap.size,2,none⟩=some (.int .i64 0):=hg5.cell (by go_simp) hn2;have rf2:w5.frozen? ⟨w2.heap.size,2,none⟩=false:=jC hg5 (by simp) (by go_simp) hn2;have r3:w5.cell? ⟨w2.heap.size,3,none⟩=some (.nilFunc):=hg5.cell (by go_simp) hn2;have rf3:w5.frozen? ⟨w2.heap.size,3,none⟩=false:=jC hg5 (by simp) (by go_simp) hn2;have r4:w5.cell? ⟨w2.heap.size,4,none⟩=some (.slice none 0 0):=hg5.cell (by go_simp) hn2;have rf4:w5.frozen? ⟨w2.heap.size,4,none⟩=false:=jC hg5 (by simp) (by go_simp) hn2;have r5:w5.cell? ⟨w2.heap.size,5,none⟩=some (.string ⟨#[]⟩):=hg5.cell (by go_simp) hn2;have rf5:w5.frozen? ⟨w2.heap.size,5,none⟩=false:=jC hg5 (by simp) (by go_simp) hn2;have r6:w5.cell? ⟨w2.heap.size,6,none⟩=some (.int .i64 0):=hg5.cell (by go_simp) hn2;have rf6:w5.frozen? ⟨w2.heap.size,6,none⟩=false:=jC hg5 (by simp) (by go_simp) hn2;have rl:w2.heap.size<w5.heap.size:=bL r0;have s0:w5.cell? ⟨b8,0,none⟩=some (.int .i64 t.pl):=hg5.cell (af (ae w2 _).drew s0) hne;have s1:w5.cell? ⟨b8,1,none⟩=some (.int .i64 t.kd):=hg5.cell (af (ae w2 _).drew s1) hne;have s2:w5.cell? ⟨b8,2,none⟩=some (.string t.tx):=hg5.cell (af (ae w2 _).drew s2) hne;have hg5l:=ps5.lt;have hs5:=bL s0;have hb85:¬ b8=w5.heap.size:=Nat.ne_of_lt hs5;have hb58:¬ w5.heap.size=b8:=Nat.ne_of_gt hs5) | (refine (gu.ok HLL.out HP.out HO.out w2.drew lR HF.out (D4.out.later bR.drew) (HG.out _ _ D6.out (aj bR.drew))).mono ?_;rintro e w5 ⟨hg5,t5,p5,rfl,n5y,ps5⟩;have s0:w5.cell? ⟨b8,0,none⟩=some (.int .i64 t.pl):=hg5.cell (af bR.drew s0) hne;have s1:w5.cell? ⟨b8,1,none⟩=some (.int .i64 t.kd):=hg5.cell (af bR.drew s1) hne;have s2:w5.cell? ⟨b8,2,none⟩=some (.string t.tx):=hg5.cell (af bR.drew s2) hne;have hg5l:=ps5.lt;have hs5:=bL s0;have hb85:¬ b8=w5.heap.size:=Nat.ne_of_lt hs5;have hb58:¬ w5.heap.size=b8:=Nat.ne_of_gt hs5))
   ·have hb7:=ae w6 (.cells #[.int .i64 t.pl,.slice ta tn tc,.int .i64 (bj t.tx).2,.func (.func fn6) #[] fc,.slice pa pn pc,.string t.tx,.int .i64 (az t.tx)] 297)
    have c0:(w6.alloc (.cells #[.int .i64 t.pl,.slice ta tn tc,.int .i64 (bj t.tx).2,.func (.func fn6) #[] fc,.slice pa pn pc,.string t.tx,.int .i64 (az t.tx)] 297)).cell? ⟨w6.heap.size,0,none⟩=some (.int .i64 t.pl):=by go_simp
    have c1:(w6.alloc (.cells #[.int .i64 t.pl,.slice ta tn tc,.int .i64 (bj t.tx).2,.func (.func fn6) #[] fc,.slice pa pn pc,.string t.tx,.int .i64 (az t.tx)] 297)).cell? ⟨w6.heap.size,1,none⟩=some (.slice ta tn tc):=by go_simp
    have c2:(w6.alloc (.cells #[.int .i64 t.pl,.slice ta tn tc,.int .i64 (bj t.tx).2,.func (.func fn6) #[] fc,.slice pa pn pc,.string t.tx,.int .i64 (az t.tx)] 297)).cell? ⟨w6.heap.size,2,none⟩=some (.int .i64 (bj t.tx).2):=by go_simp
    have c3:(w6.alloc (.cells #[.int .i64 t.pl,.slice ta tn tc,.int .i64 (bj t.tx).2,.func (.func fn6) #[] fc,.slice pa pn pc,.string t.tx,.int .i64 (az t.tx)] 297)).cell? ⟨w6.heap.size,3,none⟩=some (.func (.func fn6) #[] fc):=by go_simp
    have c4:(w6.alloc (.cells #[.int .i64 t.pl,.slice ta tn tc,.int .i64 (bj t.tx).2,.func (.func fn6) #[] fc,.slice pa pn pc,.string t.tx,.int .i64 (az t.tx)] 297)).cell? ⟨w6.heap.size,4,none⟩=some (.slice pa pn pc):=by go_simp
    have c5:(w6.alloc (.cells #[.int .i64 t.pl,.slice ta tn tc,.int .i64 (bj t.tx).2,.func (.func fn6) #[] fc,.slice pa pn pc,.string t.tx,.int .i64 (az t.tx)] 297)).cell? ⟨w6.heap.size,5,none⟩=some (.string t.tx):=by go_simp
    have c6:(w6.alloc (.cells #[.int .i64 t.pl,.slice ta tn tc,.int .i64 (bj t.tx).2,.func (.func fn6) #[] fc,.slice pa pn pc,.string t.tx,.int .i64 (az t.tx)] 297)).cell? ⟨w6.heap.size,6,none⟩=some (.int .i64 (az t.tx)):=by go_simp
    have hg67:w5.grownBy (w6.alloc (.cells #[.int .i64 t.pl,.slice ta tn tc,.int .i64 (bj t.tx).2,.func (.func fn6) #[] fc,.slice pa pn pc,.string t.tx,.int .i64 (az t.tx)] 297)) (some g):=ai (aj hb6) (aj hb7)
    have hB57:=hb6.trans (hb7.mono hb6.size)
    have hN:Nd (w6.alloc (.cells #[.int .i64 t.pl,.slice ta tn tc,.int .i64 (bj t.tx).2,.func (.func fn6) #[] fc,.slice pa pn pc,.string t.tx,.int .i64 (az t.tx)] 297)) (w.heap.size-1) (.pre t.pl t.tx y) (.iface 297 (.agg #[.int .i64 t.pl,.slice ta tn tc,.int .i64 (bj t.tx).2,.func (.func fn6) #[] fc,.slice pa pn pc,.string t.tx,.int .i64 (az t.tx)])):=((n6.grown (aj hb7)).up (by have h1:=D5.out.size;have h2:=hg5.size;simp at h2;omega)).nd (Nd.up (by have h1:=D5.out.size;simp;omega) _ _ (n5y.later hB57))
    have hS:=ps5.later hB57
    have hgw5:=ai (aj bR.drew) hg5
    have hnb:some w6.heap.size≠some g:=fun e=>by have h1:=sI e;have h2:=hb6.size;omega
    generalize w6.alloc (.cells #[.int .i64 t.pl,.slice ta tn tc,.int .i64 (bj t.tx).2,.func (.func fn6) #[] fc,.slice pa pn pc,.string t.tx,.int .i64 (az t.tx)] 297)=W7 at *
    generalize w6.heap.size=nb at *
    have F4:=jg hS
    have F3:=jg hN
    have F5:=jg (ai D5.out (ai hgw5 hg67))
    have HNB:=jg hnb
    clear hS hN hnb n6 hb6 hg5 n5y ps5 hgw5 s0 s1 s2
    go_wp2_with fail
    refine (gA g E lev ts5 _ F4.out).mono ?_
    rintro e w8 ⟨rfl,hg8,hp8⟩
    have HP8:=jg hp8
    have HG8:=jg hg8
    replace c0:=hg8.cell c0 HNB.out
    replace c1:=hg8.cell c1 HNB.out
    replace c2:=hg8.cell c2 HNB.out
    replace c3:=hg8.cell c3 HNB.out
    replace c4:=hg8.cell c4 HNB.out
    replace c5:=hg8.cell c5 HNB.out
    replace c6:=hg8.cell c6 HNB.out
    clear hg8 hp8
    go_wp2_with fail
    go_ret
    exact ⟨ai F5.out HG8.out,.ok (_,ts5),.pok HJ.out HTS.out HLV.out HO.out,_,rfl,Nd.grownB HG8.out (fun k hk=>by cases hk;exact hgw) _ _ F3.out,HP8.out⟩
   ·have hO6:=(aD.new w5 297 7 #[.int .i64 0,.slice none 0 0,.int .i64 0,.nilFunc,.slice none 0 0,.string ⟨#[]⟩,.int .i64 0] rfl).later hb6
    obtain ⟨hG,hZ⟩:=s7 w6 w5.heap.size (.int .i64 t.pl) (.slice ta tn tc) (.int .i64 (bj t.tx).2) (.func (.func fn6) #[] fc) (.slice pa pn pc) (.string t.tx) (.int .i64 (az t.tx))
    have hO7:=((((((((hO6.put 0 (.int .i64 t.pl)).1.put 1 (.slice ta tn tc)).1.put 2 (.int .i64 (bj t.tx).2)).1.put 3 (.func (.func fn6) #[] fc)).1.put 4 (.slice pa pn pc)).1.put 5 (.string t.tx)).1.put 6 (.int .i64 (az t.tx))).1)
    generalize World.setCell _ ⟨w5.heap.size,6,none⟩ _=W7 at hG hZ hO7 ⊢
    have c0:=hO7.c 0 rfl
    have c1:=hO7.c 1 rfl
    have c2:=hO7.c 2 rfl
    have c3:=hO7.c 3 rfl
    have c4:=hO7.c 4 rfl
    have c5:=hO7.c 5 rfl
    have c6:=hO7.c 6 rfl
    have hb56:=(ae w5 _).trans (hb6.mono (by simp))
    have hB57:=eE hb56 hG (fun k hk=>by cases hk;exact lR)
    have hN:Nd W7 (w.heap.size-1) (.pre t.pl t.tx y) (.iface 297 (.agg #[.int .i64 t.pl,.slice ta tn tc,.int .i64 (bj t.tx).2,.func (.func fn6) #[] fc,.slice pa pn pc,.string t.tx,.int .i64 (az t.tx)])):=(((n6.up (by simp)).grown hG).up (by have h1:=D5.out.size;have h2:=hg5.size;simp at h2;omega)).nd (Nd.up (by have h1:=D5.out.size;simp;omega) _ _ (n5y.later hB57))
    have hS:=ps5.later hB57
    have hg67:w5.grownBy W7 (some g):=aj hB57
    have hgw5:=ai (aj bR.drew) hg5
    have hnb:some w5.heap.size≠some g:=fun e=>by have h1:=sI e;omega
    generalize w5.heap.size=nb at *
    have F4:=jg hS
    have F3:=jg hN
    have F5:=jg (ai D5.out (ai hgw5 hg67))
    have HNB:=jg hnb
    clear hS hN hnb n6 hb6 hg5 n5y ps5 hgw5 s0 s1 s2
    go_wp2_with fail
    refine (gA g E lev ts5 _ F4.out).mono ?_
    rintro e w8 ⟨rfl,hg8,hp8⟩
    have HP8:=jg hp8
    have HG8:=jg hg8
    replace c0:=hg8.cell c0 HNB.out
    replace c1:=hg8.cell c1 HNB.out
    replace c2:=hg8.cell c2 HNB.out
    replace c3:=hg8.cell c3 HNB.out
    replace c4:=hg8.cell c4 HNB.out
    replace c5:=hg8.cell c5 HNB.out
    replace c6:=hg8.cell c6 HNB.out
    clear hg8 hp8
    go_wp2_with fail
    go_ret
    exact ⟨ai F5.out HG8.out,.ok (_,ts5),.pok HJ.out HTS.out HLV.out HO.out,_,rfl,Nd.grownB HG8.out (fun k hk=>by cases hk;exact hgw) _ _ F3.out,HP8.out⟩
   ·have hO6:=(((aD.new w2 297 7 #[.int .i64 0,.slice none 0 0,.int .i64 0,.nilFunc,.slice none 0 0,.string ⟨#[]⟩,.int .i64 0] rfl).later bR.drew).grown hg5 hn2).later hb6
    obtain ⟨hG,hZ⟩:=s7 w6 w2.heap.size (.int .i64 t.pl) (.slice ta tn tc) (.int .i64 (bj t.tx).2) (.func (.func fn6) #[] fc) (.slice pa pn pc) (.string t.tx) (.int .i64 (az t.tx))
    have hO7:=((((((((hO6.put 0 (.int .i64 t.pl)).1.put 1 (.slice ta tn tc)).1.put 2 (.int .i64 (bj t.tx).2)).1.put 3 (.func (.func fn6) #[] fc)).1.put 4 (.slice pa pn pc)).1.put 5 (.string t.tx)).1.put 6 (.int .i64 (az t.tx))).1)
    generalize World.setCell _ ⟨w2.heap.size,6,none⟩ _=W7 at hG hZ hO7 ⊢
    have c0:=hO7.c 0 rfl
    have c1:=hO7.c 1 rfl
    have c2:=hO7.c 2 rfl
    have c3:=hO7.c 3 rfl
    have c4:=hO7.c 4 rfl
    have c5:=hO7.c 5 rfl
    have c6:=hO7.c 6 rfl
    have hN:Nd W7 (w.heap.size-1) (.pre t.pl t.tx y) (.iface 297 (.agg #[.int .i64 t.pl,.slice ta tn tc,.int .i64 (bj t.tx).2,.func (.func fn6) #[] fc,.slice pa pn pc,.string t.tx,.int .i64 (az t.tx)])):=(((n6.up (Nat.le_of_lt rl)).grown hG).up (by have h1:=D5.out.size;omega)).nd (Nd.up (by have h1:=D5.out.size;simp;omega) _ _ (Nd.grownB hG (fun k hk=>by cases hk;simp) _ _ (n5y.later hb6)))
    have hS:=(ps5.later hb6).grown hG (fun k hk=>by cases hk;exact hgl2)
    have hgw5:=ai (aj (ae w2 _).drew) hg5
    have hg27:=bv (ai hgw5 (aj hb6)) hG (fun k hk=>by cases hk;exact lR)
    have hnb:=hn2
    generalize w2.heap.size=nb at *
    have F4:=jg hS
    have F3:=jg hN
    have F5:=jg (ai D5.out hg27)
    have HNB:=jg hnb
    clear hS hN hnb n6 hb6 hg5 n5y ps5 hgw5 s0 s1 s2
    go_wp2_with fail
    refine (gA g E lev ts5 _ F4.out).mono ?_
    rintro e w8 ⟨rfl,hg8,hp8⟩
    have HP8:=jg hp8
    have HG8:=jg hg8
    replace c0:=hg8.cell c0 HNB.out
    replace c1:=hg8.cell c1 HNB.out
    replace c2:=hg8.cell c2 HNB.out
    replace c3:=hg8.cell c3 HNB.out
    replace c4:=hg8.cell c4 HNB.out
    replace c5:=hg8.cell c5 HNB.out
    replace c6:=hg8.cell c6 HNB.out
    clear hg8 hp8
    go_wp2_with fail
    go_ret
    exact ⟨ai F5.out HG8.out,.ok (_,ts5),.pok HJ.out HTS.out HLV.out HO.out,_,rfl,Nd.grownB HG8.out (fun k hk=>by cases hk;exact hgw) _ _ F3.out,HP8.out⟩
end
section
open Go.RowKit
attribute [local go_sem] an
theorem bI.after {L:ByteArray->Int->Int->ByteArray->Prop} {w w1 w':World} {g E:Nat} {m:Mode} {lev:Nat} {ts:List Tk} {e:Ending} (h:bI L w1 g E m lev ts e w') (hb:Below w.heap.size w w1):bI L w g E m lev ts e w':=by
 obtain ⟨hg,o,hp,ho⟩:=h
 refine ⟨ai (aj hb) hg,o,hp,?_⟩
 cases o with
 | error f=>exact ho
 | ok q=>
  obtain ⟨x,ts'⟩:=q
  obtain ⟨v,h1,h2,h3⟩:=ho
  exact ⟨v,h1,Nd.up (by have:=hb.size;omega) _ _ h2,h3⟩
theorem bI.map {L:ByteArray->Int->Int->ByteArray->Prop} {w w':World} {g E:Nat} {m m':Mode} {lev:Nat} {ts ts0:List Tk} {e:Ending} (h:bI L w g E m lev ts e w') (hm:∀ o,Ps L E m lev ts o->Ps L E m' lev ts0 o):bI L w g E m' lev ts0 e w':=by
 obtain ⟨hg,o,hp,ho⟩:=h
 exact ⟨hg,o,hm o hp,ho⟩
theorem Ba {L:ByteArray->Int->Int->ByteArray->Prop} {G:World->Prop} {g E n:Nat} (hL:fl L) (hG:∀ W W',G W->W.grownBy W' (some g)->G W') (hN:∀ m,m<n->gu L G g E 284 2 m) (hP:gu L G g E 292 3 n):gu L G g E 284 2 n:=by
 intro ts lev w hn hf h hw
 have hpr:pr 2 dz:=by unfold pr;simp
 have hmf:=ff
 have hf2:=pp
 have H:=jg h
 have HG:=jg hG
 have HW:=jg hw
 by_cases ht:(hd E ts).tx=dz
 ·cases ts with
  | nil=>exact absurd ht (by show ¬ (⟨#[]⟩:ByteArray)=dz;decide +kernel)
  | cons t ts=>
   have HB:Hid (∀ W,Below w.heap.size w W->Calls Tryz.prog 291 #[.pointer (some ⟨g,0,none⟩),.int .i64 2,.func (.func 284) #[.pointer (some ⟨g,0,none⟩)] #[]] W (bI L W g E (.D 2) lev (t::ts))):=
    fun W hW=>mW hL hG E _ 2 dz hpr t ts lev W ht uB (hN ts.length (by simp at hn;omega)) hf (h.later hW) (hG _ _ hw (aj hW))
   have ht2:(t.tx.toList==[110,111,116])=true:=by rw [xl];exact decide_eq_true ht
   go_in
   go_wp2_with fail
   refine (bK g E lev (t::ts) _ H.out).mono ?_
   rintro e w1 ⟨rfl,hb1⟩
   rw [show hd E (t::ts)=t from rfl]
   unfold eA
   have HB1:=jg hb1
   go_wp2_with fail
   refine (HB.out w1 HB1.out).mono ?_
   intro e w2 hpp
   have HPP:=jg (hpp.after HB1.out)
   rcases hpp.iface with ⟨_,x,ts1,t',p,_,rfl,_,_⟩ | ⟨_,f,_,rfl⟩
   ·clear hpp
    go_wp2_with fail
    go_ret
    exact HPP.out
   ·exact ⟨rfl,HPP.out⟩
 ·have HB:Hid (∀ W,Below w.heap.size w W->Calls Tryz.prog 292 #[.pointer (some ⟨g,0,none⟩)] W (bI L W g E (.D 3) lev ts)):=
   fun W hW=>hP ts lev W hn hf (h.later hW) (hG _ _ hw (aj hW))
  have ht2:=ni ht
  have HT:=jg ht
  have HPR:=jg hpr
  go_in
  go_wp2_with fail
  refine (bK g E lev ts _ H.out).mono ?_
  rintro e w1 ⟨rfl,hb1⟩
  unfold eA
  have HB1:=jg hb1
  go_wp2_with fail
  refine (HB.out w1 HB1.out).mono ?_
  intro e w2 hpp
  have HPP:=jg ((hpp.after HB1.out).map (fun o ho=>.pnone HPR.out HT.out ho))
  rcases hpp.iface with ⟨_,x,ts1,t',p,_,rfl,_,_⟩ | ⟨_,f,_,rfl⟩
  ·clear hpp
   go_wp2_with fail
   go_ret
   exact HPP.out
  ·exact ⟨rfl,HPP.out⟩
theorem wa {L:ByteArray->Int->Int->ByteArray->Prop} {G:World->Prop} {g E n:Nat} (hL:fl L) (hG:∀ W W',G W->W.grownBy W' (some g)->G W') (hN:∀ m,m<n->gu L G g E 336 6 m) (hP:gu L G g E 340 7 n):gu L G g E 336 6 n:=by
 intro ts lev w hn hf h hw
 have hpr:pr 6 bh:=by unfold pr;simp
 have hmf:=ff
 have hf2:=pp
 have H:=jg h
 have HG:=jg hG
 have HW:=jg hw
 by_cases ht:(hd E ts).tx=bh
 ·cases ts with
  | nil=>exact absurd ht (by show ¬ (⟨#[]⟩:ByteArray)=bh;decide +kernel)
  | cons t ts=>
   have HB:Hid (∀ W,Below w.heap.size w W->Calls Tryz.prog 291 #[.pointer (some ⟨g,0,none⟩),.int .i64 6,.func (.func 336) #[.pointer (some ⟨g,0,none⟩)] #[]] W (bI L W g E (.D 6) lev (t::ts))):=
    fun W hW=>mW hL hG E _ 6 bh hpr t ts lev W ht nO (hN ts.length (by simp at hn;omega)) hf (h.later hW) (hG _ _ hw (aj hW))
   have ht2:(t.tx.toList==[45])=true:=by rw [xl];exact decide_eq_true ht
   go_in
   go_wp2_with fail
   refine (bK g E lev (t::ts) _ H.out).mono ?_
   rintro e w1 ⟨rfl,hb1⟩
   rw [show hd E (t::ts)=t from rfl]
   unfold eA
   have HB1:=jg hb1
   go_wp2_with fail
   refine (HB.out w1 HB1.out).mono ?_
   intro e w2 hpp
   have HPP:=jg (hpp.after HB1.out)
   rcases hpp.iface with ⟨_,x,ts1,t',p,_,rfl,_,_⟩ | ⟨_,f,_,rfl⟩
   ·clear hpp
    go_wp2_with fail
    go_ret
    exact HPP.out
   ·exact ⟨rfl,HPP.out⟩
 ·have HB:Hid (∀ W,Below w.heap.size w W->Calls Tryz.prog 340 #[.pointer (some ⟨g,0,none⟩)] W (bI L W g E (.D 7) lev ts)):=
   fun W hW=>hP ts lev W hn hf (h.later hW) (hG _ _ hw (aj hW))
  have ht2:=ni ht
  have HT:=jg ht
  have HPR:=jg hpr
  go_in
  go_wp2_with fail
  refine (bK g E lev ts _ H.out).mono ?_
  rintro e w1 ⟨rfl,hb1⟩
  unfold eA
  have HB1:=jg hb1
  go_wp2_with fail
  refine (HB.out w1 HB1.out).mono ?_
  intro e w2 hpp
  have HPP:=jg ((hpp.after HB1.out).map (fun o ho=>.pnone HPR.out HT.out ho))
  rcases hpp.iface with ⟨_,x,ts1,t',p,_,rfl,_,_⟩ | ⟨_,f,_,rfl⟩
  ·clear hpp
   go_wp2_with fail
   go_ret
   exact HPP.out
  ·exact ⟨rfl,HPP.out⟩
end
section
open Go.RowKit
attribute [local go_sem] an
theorem mH {L:ByteArray->Int->Int->ByteArray->Prop} {G:World->Prop} {g E n:Nat} (hL:fl L) (hG:∀ W W',G W->W.grownBy W' (some g)->G W') (hP:gu L G g E 315 4 n):gu L G g E 292 3 n:=by
 intro ts lev w hn hf h hw
 have HP:=jg hP
 have HG:=jg hG
 have HF:=jg hf
 have HLL:=jg hL
 have H:=jg h
 have HW:=jg hw
 have hf2:=pp
 have hgw:g<=w.heap.size-1:=by have:=h.lt;omega
 have hgw0:0<w.heap.size:=by have:=h.lt;omega
 go_in
 go_wp2_with fail
 refine (HP.out ts lev _ hn HF.out H.out HW.out).mono ?_
 intro e w1 hpp
 rcases hpp.iface with ⟨hg1,x,ts1,t1,p1,hp1,rfl,hn1,hs1⟩ | ⟨hg1,f,hp1,rfl⟩
 ·have HG1:=jg hg1
  have HN1:=jg hn1
  have HS1:=jg hs1
  have HP1:=jg hp1
  go_wp2_with fail
  refine (bK g E lev ts1 _ HS1.out).mono ?_
  rintro e w2 ⟨rfl,hb2⟩
  have B4:=jg (HS1.out.later hb2)
  have B3:=jg (HN1.out.later hb2)
  have B5:=jg (ai HG1.out (aj hb2))
  unfold eA
  go_wp2_with fail
  refine (gF _ _).mono ?_
  rintro e w3 ⟨rfl,h3⟩
  have h3':=h3.symm
  subst h3'
  by_cases hsg:bW (hd E ts1).tx=3
  ·cases ts1 with
   | nil=>exact absurd hsg (by show ¬ bW ⟨#[]⟩=3;decide +kernel)
   | cons t3 ts3=>
    have HSG:Hid (bW t3.tx=3):=hsg
    have heq:(((bW (hd E (t3::ts3)).tx:Nat):Int)==3)=true:=by rw [hsg];rfl
    generalize hN:((bW (hd E (t3::ts3)).tx:Nat):Int)=N at *
    go_wp2_with fail
    rw [show hd E (t3::ts3)=t3 from rfl] at *
    have s0:(w2.alloc (.cells #[.int .i64 t3.pl,.int .i64 t3.kd,.string t3.tx] 136)).cell? ⟨w2.heap.size,0,none⟩=some (.int .i64 t3.pl):=by go_simp
    have s1:(w2.alloc (.cells #[.int .i64 t3.pl,.int .i64 t3.kd,.string t3.tx] 136)).cell? ⟨w2.heap.size,1,none⟩=some (.int .i64 t3.kd):=by go_simp
    have s2:(w2.alloc (.cells #[.int .i64 t3.pl,.int .i64 t3.kd,.string t3.tx] 136)).cell? ⟨w2.heap.size,2,none⟩=some (.string t3.tx):=by go_simp
    have hgl2:=B4.out.lt
    have hne8:some w2.heap.size≠some g:=fun e=>by have:=sI e;omega
    refine (bt g E lev (t3::ts3) _ (B4.out.later (ae _ _))).mono ?_
    rintro e w4 ⟨rfl,hg4,hp4⟩
    replace s0:=hg4.cell s0 hne8
    replace s1:=hg4.cell s1 hne8
    replace s2:=hg4.cell s2 hne8
    have C3:=jg (Nd.grownB hg4 (fun k hk=>by cases hk;exact hgw) _ _ (B3.out.later (ae _ _)))
    have C4:Hid (PS w4 g E ts3 lev):=hp4
    have C5:=jg (ai B5.out (ai (aj (ae _ _)) hg4))
    have C6:=jg (HG.out _ _ HW.out C5.out)
    have hbl4:=bL s0
    have hb84:=Nat.ne_of_lt hbl4
    generalize w2.heap.size=b8 at *
    have D2:Hid (kp ts3):=fun t ht=>(kp.on HP1.out HF.out) t (by simp [ht])
    have hle3:ts3.length<=n:=by have h1:=HP1.out.less;simp at h1;omega
    obtain ⟨o,ho⟩:=HP.out.exi hle3 D2.out C4.out C6.out
    have HS7:Hid (bW t3.tx≠7):=by have:=HSG.out;unfold Hid;omega
    unfold eA
    cases o with
    | error f=>
     have HO:=jg ho
     have HB:Hid (∀ W,Below w4.heap.size w4 W->Calls Tryz.prog 315 #[.pointer (some ⟨g,0,none⟩)] W fun e w'=>W.grownBy w' (some g)/\e=.panicked [{ v:=df f.pl f.why,recovered:=false }]):=fun W hW=>gu.bad HLL.out HP.out HO.out W hle3 D2.out (C4.out.later hW) (HG.out _ _ C6.out (aj hW))
     have FIN:Hid (∀ W w5,Below w4.heap.size w4 W->W.grownBy w5 (some g)->bI L w g E (.D 3) lev ts (.panicked [{ v:=df f.pl f.why,recovered:=false }]) w5):=fun W w5 hW hg5=>⟨ai C5.out (ai (aj hW) hg5),.error f,.csbad HP1.out HSG.out HO.out,rfl⟩
     go_wp2_with fail
     refine wp_region_any (by kernel_rfl) ?_
     change wpAny _ _ _ _ _ _ _ (World.drew _)
     refine wpAny_take (i:=1) (v:=.iface t1 p1) rfl (by kernel_rfl) (by kernel_rfl) (by kernel_rfl) (fun _ _ _ h=>h) (Or.inl ⟨by rfl,?_⟩) ?_
     ·intro w;go_simp
     refine wpAny_take (i:=2) (v:=.pointer (some ⟨g,0,none⟩)) rfl (by kernel_rfl) (by kernel_rfl) (by kernel_rfl) (fun _ _ _ h=>h) (Or.inl ⟨by rfl,?_⟩) ?_
     ·intro w;go_simp
     refine wpAny_ready (rs:=[0,3]) (by kernel_rfl) (by simp) ?_
     refine AllReady.cons rfl (fun K hK=>?_) ?_
     ·go_simp
      refine hK _ _ ?_
      refine aY 3 (by kernel_rfl) rfl (fun K hK=>?_)
      go_simp
      refine (HB.out _ bR.drew).mono ?_
      rintro e w5 ⟨hg5,rfl⟩
      exact FIN.out _ w5 bR.drew hg5
     ·refine AllReady.cons rfl (fun K hK=>?_) AllReady.nil
      go_simp
      refine (HB.out _ bR.drew).mono ?_
      rintro e w5 ⟨hg5,rfl⟩
      exact FIN.out _ w5 bR.drew hg5
    | ok q=>
     obtain ⟨y,ts5⟩:=q
     have HO:=jg ho
     have HB:Hid (∀ W,Below w4.heap.size w4 W->Calls Tryz.prog 315 #[.pointer (some ⟨g,0,none⟩)] W fun e w'=>W.grownBy w' (some g)/\∃ t p,e=.returned (.iface t p)/\Nd w' (W.heap.size-1) y (.iface t p)/\PS w' g E ts5 lev):=fun W hW=>gu.ok HLL.out HP.out HO.out W hle3 D2.out (C4.out.later hW) (HG.out _ _ C6.out (aj hW))
     have hwy:w.heap.size-1<=w4.drew.heap.size-1:=by have:=C5.out.size;simp;omega
     have hw4l:w.heap.size-1<w4.drew.heap.size:=by have:=C5.out.size;simp;omega
     go_wp2_with fail
     go_region_held3 (fun w'=>w'.cell? ⟨b8,0,none⟩=some (.int .i64 t3.pl)/\w'.cell? ⟨b8,1,none⟩=some (.int .i64 t3.kd)/\w'.cell? ⟨b8,2,none⟩=some (.string t3.tx))
      (first | go_keep)
      (first | (go_at_call 283;refine (ko t3 x y _ _ (w.heap.size-1) _ hw5l HS7.out n5l n5y).mono ?_;rintro e w6 ⟨hb6,v6,rfl,n6⟩;have s0:=af hb6 s0;have s1:=af hb6 s1;have s2:=af hb6 s2) | (go_at_call 315;refine (HB.out w4.drew bR.drew).mono ?_;rintro e w5 ⟨hg5,t5,p5,rfl,n5y,ps5⟩;have s0:w5.cell? ⟨b8,0,none⟩=some (.int .i64 t3.pl):=hg5.cell (af bR.drew s0) hne8;have s1:w5.cell? ⟨b8,1,none⟩=some (.int .i64 t3.kd):=hg5.cell (af bR.drew s1) hne8;have s2:w5.cell? ⟨b8,2,none⟩=some (.string t3.tx):=hg5.cell (af bR.drew s2) hne8;have n5l:Nd w5 (w.heap.size-1) x (.iface t1 p1):=Nd.grownB hg5 (fun k hk=>(by cases hk;exact hgw)) _ _ (C3.out.later bR.drew);have n5y:=Nd.up hwy _ _ n5y;have hw5l:w.heap.size-1<w5.heap.size:=lL hw4l hg5.size))
     have FIN:Hid (bI L w g E (.D 3) lev ts (.returned (.iface 299 v6)) w6):=⟨ai C5.out (ai (aj bR.drew) (ai hg5 (aj hb6))),.ok (_,ts5),.cok HP1.out HSG.out HO.out,_,rfl,n6,ps5.later hb6⟩
     go_wp2_with fail
     go_ret
     exact FIN.out
  ·have hne:(((bW (hd E ts1).tx:Nat):Int)==3)=false:=by rw [beq_eq_false_iff_ne];omega
   have HSG:=jg hsg
   generalize hN:((bW (hd E ts1).tx:Nat):Int)=N at *
   go_wp2_with fail
   go_ret
   exact ⟨ai B5.out (aj (ae _ _)),.ok (x,ts1),.cnone HP1.out HSG.out,_,rfl,B3.out.later (ae _ _),B4.out.later (ae _ _)⟩
 ·refine ⟨rfl,?_⟩
  exact ⟨hg1,.error f,.cbad hp1,rfl⟩
end
end Go.Proofs.YtiiliobffnhpmaaGreatDoor
