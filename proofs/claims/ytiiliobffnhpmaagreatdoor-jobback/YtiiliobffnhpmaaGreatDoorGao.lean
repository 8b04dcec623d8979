import Derived.Test.YtiiliobffnhpmaaGreatDoorGan
set_option linter.all false
set_option maxRecDepth 100000
set_option maxHeartbeats 4000000
namespace Go.Proofs.YtiiliobffnhpmaaGreatDoor
namespace Jp
open Go.RowKit Oo
attribute [local go_sem] an
def bnd {α β:Type} (o:Except Nat (α × List Tk)) (f:α->List Tk->Except Nat β):Except Nat β:=match o with
 | .error e=>.error e
 | .ok (x,ts)=>f x ts
theorem RP.el {α:Type} {c:LC} {W:World} {o:Except Nat (α × List Tk)} {enc:α->Value} {e:Ending} {w':World} (h:RP c W o enc e w'):(∃ n,o=.error n/\e=cm n/\W.grownBy w' (some c.g))\/(∃ x ts',o=.ok (x,ts')/\e=.returned (enc x)/\W.grownBy w' (some c.g)/\PJ c w' ts'):=by
 obtain ⟨hg,h⟩:=h
 cases o with
 | error n=>exact .inl ⟨n,rfl,h,hg⟩
 | ok p=>exact .inr ⟨p.1,p.2,rfl,h.1,hg,h.2⟩
theorem bO (c:LC) (x:ByteArray) (ts:List Tk) (W:World) (h:PJ c W ts) :
 Calls Tryz.prog 34 #[.pointer (some ⟨c.g,0,none⟩),.slice (some ⟨W.heap.size,0,none⟩) 1 1] (W.alloc (.cells #[.string x] 9)) (RP c W (aM c.line.size [x] ts) Value.string):=by
 refine (gt c [x] (some ⟨W.heap.size,0,none⟩) 1 1 ts _ rfl (by simp) (fun i hi=>?_) (fun b off e=>by cases e;exact h.lt) (h.later (ae _ _))).mono (fun e w' h=>h.more (aj (ae _ _)))
 simp at hi
 subst hi
 exact ⟨_,_,rfl,by simp [Addr.add]⟩
def ma:ByteArray:=⟨#[105,110]⟩
def gh:ByteArray:=⟨#[101,118,101,114,121]⟩
def kR (rd:R1) (E:Nat) (ts:List Tk):Except Nat ((Int × Int × Int) × List Tk):=
 bnd (aM E [ma] ts) fun _ ts=>bnd (nq bE E ts) fun k ts=>
 if k=4 then .ok ((k,0,0),ts) else bnd (jW rd E ts) fun s ts=>
 if k=2 then bnd (aM E [gh] ts) fun _ ts=>bnd (jW rd E ts) fun t ts=>.ok ((k,s,t),ts) else .ok ((k,s,0),ts)
def vz (x:Int × Int × Int):Value:=.agg #[.int .i64 x.1,.int .i64 x.2.1,.int .i64 x.2.2]
theorem lv {rd:R1} {pf:P1} (c:LC) (hE:Ah c rd pf) (ts:List Tk) (w:World) (h:PJ c w ts) :
 Calls Tryz.prog 182 #[.pointer (some ⟨c.g,0,none⟩)] w (RP c w (kR rd c.line.size ts) vz):=by
 obtain ⟨O,HX⟩:∃ O,Hid (kR rd c.line.size ts=O):=⟨_,rfl⟩
 rw [HX.out]
 unfold kR at HX
 have HE:=jg hE
 have hgl:=h.lt
 have HW:=jg (bO c ma ts (w.alloc (.cells #[.int .i64 0,.int .i64 0,.int .i64 0] 56)) (h.later (ae _ _)))
 rw [show (w.alloc (.cells #[.int .i64 0,.int .i64 0,.int .i64 0] 56)).heap.size=w.heap.size+1 from by simp] at HW
 unfold ma at HW
 clear h hE
 go_in
 go_wp2_with fail
 refine HW.out.mono ?_
 intro e w1 hr
 rcases hr.el with ⟨n,ho,rfl,hg⟩ | ⟨x,ts1,ho,rfl,hg,hp⟩
 ·have HG:=jg hg
  clear hg hr HW
  change aM c.line.size [ma] ts=_ at ho
  rw [ho] at HX
  simp only [bnd] at HX
  clear ho
  unfold cm
  go_wp2_with fail
  rw [<-HX.out]
  exact ⟨ai (aj (ae _ _)) HG.out,rfl⟩
 ·change aM c.line.size [ma] ts=_ at ho
  rw [ho] at HX
  simp only [bnd] at HX
  have HG:=jg (ai (aj (ae _ _)) hg)
  have HOR:=jg ((aD.new w 56 3 #[.int .i64 0,.int .i64 0,.int .i64 0] rfl).grown hg (nS (by omega)))
  have HP:=jg hp
  have hgl1:=hp.lt
  clear hg hr HW hp ho
  go_wp2_with fail
  refine (rQ w1).mono ?_
  rintro e w2 ⟨rfl,hm,hb⟩
  have HCH:=jg (lq c bE w1.heap.size ts1 w2 hm (by omega) (HP.out.later hb))
  have HG2:=jg (ai HG.out (aj hb))
  have HOR2:=jg (HOR.out.later hb)
  have hsz2:=hb.size
  clear hm hb HG HOR HP
  go_wp2_with fail
  refine HCH.out.mono ?_
  intro e w3 hr
  rcases hr.el with ⟨n,ho,rfl,hg⟩ | ⟨k,ts2,ho,rfl,hg,hp⟩
  ·have HG3:=jg (ai HG2.out hg)
   clear hg hr HCH
   rw [ho] at HX
   simp only [bnd] at HX
   clear ho
   unfold cm
   go_wp2_with fail
   rw [<-HX.out]
   exact ⟨HG3.out,rfl⟩
  ·rw [ho] at HX
   simp only [bnd] at HX
   have HG3:=jg (ai HG2.out hg)
   have HOR3:=jg (HOR2.out.grown hg (nS (by omega)))
   have HP3:=jg hp
   have hsz3:=hg.size
   clear hg hr HCH hp ho HOR2 HG2
   have HOR4:=jg (HOR3.out.later (ae w3 (.cells #[.int .i64 k,.int .i64 0,.int .i64 0] 56)))
   have HOS4:=jg (aD.new w3 56 3 #[.int .i64 k,.int .i64 0,.int .i64 0] rfl)
   have HP4:=jg (HP3.out.later (ae w3 (.cells #[.int .i64 k,.int .i64 0,.int .i64 0] 56)))
   have HG4:=jg (ai HG3.out (aj (ae w3 (.cells #[.int .i64 k,.int .i64 0,.int .i64 0] 56))))
   have hlr:=HOR3.out.lt
   go_upto_if 13 with fail
   generalize hW4:w3.alloc (.cells #[.int .i64 k,.int .i64 0,.int .i64 0] 56)=W4 at *
   have hl4:w3.heap.size<W4.heap.size:=by rw [<-hW4];simp
   have hlr4:w.heap.size<W4.heap.size:=by omega
   have hgl4:=HP4.out.lt
   have hne3:w3.heap.size≠w.heap.size:=by omega
   have hgn3:c.g≠w3.heap.size:=by have:=HP3.out.lt;omega
   have hgn0:c.g≠w.heap.size:=by omega
   have hBw:w.heap.size<=w3.heap.size:=by omega
   have hgB:=HP3.out.lt
   clear hW4 HOR3 HP3 HG3
   generalize w3.heap.size=B at *
   obtain ⟨B0,HB0⟩:∃ B0,Hid (B0=w.heap.size):=⟨_,rfl⟩
   rw [<-HB0.out] at hne3 hgn0 hlr4 HOR4 ⊢
   have hgB0:c.g<B0:=by rw [HB0.out];exact hgl
   clear hlr
   by_cases hk4:k=4
   ·rw [if_pos hk4] at HX
    have hk1:(k != 4)=false:=by rw [hk4];rfl
    have hk2:(k==2)=false:=by rw [hk4];rfl
    have hk3:(k==4)=true:=by rw [hk4];rfl
    clear hk4
    have c0:=HOS4.out.c 0 rfl
    have cf0:=HOS4.out.soft 0
    have c1:=HOS4.out.c 1 rfl
    have cf1:=HOS4.out.soft 1
    have c2:=HOS4.out.c 2 rfl
    have cf2:=HOS4.out.soft 2
    have q0:=HOR4.out.c 0 rfl
    have qf0:=HOR4.out.soft 0
    have q1:=HOR4.out.c 1 rfl
    have qf1:=HOR4.out.soft 1
    have q2:=HOR4.out.c 2 rfl
    have qf2:=HOR4.out.soft 2
    go_wp2_with fail
    refine bodyPost_ret (v:=vz (k,0,0)) (by simp [results,Tryz.results182,go_sem,q0,q1,q2,hlr4];try rfl) rfl ?_
    rw [<-HX.out]
    exact ⟨bv (bv (bv (HG4.out) (aK _ _ _) (fun k hk=>by cases hk;exact Nat.le_of_eq HB0.out.symm)) (aK _ _ _) (fun k hk=>by cases hk;exact Nat.le_of_eq HB0.out.symm)) (aK _ _ _) (fun k hk=>by cases hk;exact Nat.le_of_eq HB0.out.symm),rfl,PJ.grown (PJ.grown (PJ.grown (HP4.out) (aK _ _ _) (fun k hk=>by cases hk;exact hgB0)) (aK _ _ _) (fun k hk=>by cases hk;exact hgB0)) (aK _ _ _) (fun k hk=>by cases hk;exact hgB0)⟩
   ·rw [if_neg hk4] at HX
    have hk3:(k==4)=false:=by rw [beq_eq_false_iff_ne];exact hk4
    have hk1:(k != 4)=true:=by rw [bne,hk3];rfl
    clear hk4
    have c0:=HOS4.out.c 0 rfl
    have cf0:=HOS4.out.soft 0
    have c1:=HOS4.out.c 1 rfl
    have cf1:=HOS4.out.soft 1
    have c2:=HOS4.out.c 2 rfl
    have cf2:=HOS4.out.soft 2
    go_wp2_with fail
    refine (jE c HE.out ts2 W4 HP4.out).mono ?_
    intro e w5 hr
    rcases hr.el with ⟨n,ho,rfl,hg⟩ | ⟨m,ts3,ho,rfl,hg,hp⟩
    ·have HG5:=jg (ai HG4.out hg)
     clear hg hr
     rw [ho] at HX
     simp only [bnd] at HX
     clear ho
     unfold cm
     go_wp2_with fail
     rw [<-HX.out]
     exact ⟨HG5.out,rfl⟩
    ·rw [ho] at HX
     simp only [bnd] at HX
     have HG5:=jg (ai HG4.out hg)
     have HOR5:=jg (HOR4.out.grown hg (fun e=>hgn0 (sI e).symm))
     have HOS5:=jg (HOS4.out.grown hg (fun e=>hgn3 (sI e).symm))
     have HP5:=jg hp
     have hl5:=HOS5.out.lt
     have hlr5:=HOR5.out.lt
     have hgl5:=hp.lt
     clear hg hr hp ho HOR4 HOS4 HP4 HG4 hl4 hlr4 hgl4 c0 cf0 c1 cf1 c2 cf2
     have c0:=HOS5.out.c 0 rfl
     have cf0:=HOS5.out.soft 0
     have c1:=HOS5.out.c 1 rfl
     have cf1:=HOS5.out.soft 1
     have c2:=HOS5.out.c 2 rfl
     have cf2:=HOS5.out.soft 2
     have HPUT:=jg (HOS5.out.put 1 (.int .i64 m))
     have HP6:=jg (HP5.out.grown HPUT.out.2 (fun k hk=>by cases hk;omega))
     have HG6:=jg (bv (a:=w) HG5.out HPUT.out.2 (fun k hk=>by cases hk;omega))
     have HOR6:=jg (HOR5.out.grown HPUT.out.2 (fun e=>hne3 (sI e).symm))
     have HOS6:=jg HPUT.out.1
     go_upto_if 19 with fail
     generalize hW6:w5.setCell ⟨B,1,none⟩ (.int .i64 m)=W6 at *
     have hl6:=HOS6.out.lt
     have hlr6:=HOR6.out.lt
     have hgl6:=HP6.out.lt
     clear hW6 HPUT HP5 HG5 HOR5 HOS5 c0 cf0 c1 cf1 c2 cf2 hl5 hlr5 hgl5
     by_cases hk2:k=2
     ·rw [if_pos hk2] at HX
      have hk4:(k==2)=true:=by rw [hk2];rfl
      clear hk2 hk1 hk3
      have c0:=HOS6.out.c 0 rfl
      have cf0:=HOS6.out.soft 0
      have c1:=HOS6.out.c 1 rfl
      have cf1:=HOS6.out.soft 1
      have c2:=HOS6.out.c 2 rfl
      have cf2:=HOS6.out.soft 2
      have HW:=jg (bO c gh ts3 W6 HP6.out)
      unfold gh at HW
      go_wp2_with fail
      refine HW.out.mono ?_
      intro e w7 hr
      rcases hr.el with ⟨n,ho,rfl,hg⟩ | ⟨x7,ts4,ho,rfl,hg,hp⟩
      ·change aM c.line.size [gh] ts3=_ at ho
       have HG7:=jg (ai HG6.out hg)
       clear hg hr HW
       rw [ho] at HX
       simp only [bnd] at HX
       clear ho
       unfold cm
       go_wp2_with fail
       rw [<-HX.out]
       exact ⟨HG7.out,rfl⟩
      ·change aM c.line.size [gh] ts3=_ at ho
       rw [ho] at HX
       simp only [bnd] at HX
       have HG7:=jg (ai HG6.out hg)
       have HOR7:=jg (HOR6.out.grown hg (fun e=>hgn0 (sI e).symm))
       have HOS7:=jg (HOS6.out.grown hg (fun e=>hgn3 (sI e).symm))
       have HP7:=jg hp
       clear hg hr hp ho HW HOR6 HOS6 HP6 HG6 hl6 hlr6 hgl6 c0 cf0 c1 cf1 c2 cf2
       have hl7:=HOS7.out.lt
       have hlr7:=HOR7.out.lt
       have hgl7:=HP7.out.lt
       have c0:=HOS7.out.c 0 rfl
       have cf0:=HOS7.out.soft 0
       have c1:=HOS7.out.c 1 rfl
       have cf1:=HOS7.out.soft 1
       have c2:=HOS7.out.c 2 rfl
       have cf2:=HOS7.out.soft 2
       go_wp2_with fail
       refine (jE c HE.out ts4 w7 HP7.out).mono ?_
       intro e w8 hr
       rcases hr.el with ⟨n,ho,rfl,hg⟩ | ⟨m2,ts5,ho,rfl,hg,hp⟩
       ·have HG8:=jg (ai HG7.out hg)
        clear hg hr
        rw [ho] at HX
        simp only [bnd] at HX
        clear ho
        unfold cm
        go_wp2_with fail
        rw [<-HX.out]
        exact ⟨HG8.out,rfl⟩
       ·rw [ho] at HX
        simp only [bnd] at HX
        have HG8:=jg (ai HG7.out hg)
        have HOR8:=jg (HOR7.out.grown hg (fun e=>hgn0 (sI e).symm))
        have HOS8:=jg (HOS7.out.grown hg (fun e=>hgn3 (sI e).symm))
        have HP8:=jg hp
        clear hg hr hp ho HOR7 HOS7 HP7 HG7 hl7 hlr7 hgl7 c0 cf0 c1 cf1 c2 cf2
        have hl8:=HOS8.out.lt
        have hlr8:=HOR8.out.lt
        have hgl8:=HP8.out.lt
        have c0:=HOS8.out.c 0 rfl
        have cf0:=HOS8.out.soft 0
        have c1:=HOS8.out.c 1 rfl
        have cf1:=HOS8.out.soft 1
        have c2:=HOS8.out.c 2 rfl
        have cf2:=HOS8.out.soft 2
        have q0:=HOR8.out.c 0 rfl
        have qf0:=HOR8.out.soft 0
        have q1:=HOR8.out.c 1 rfl
        have qf1:=HOR8.out.soft 1
        have q2:=HOR8.out.c 2 rfl
        have qf2:=HOR8.out.soft 2
        go_wp2_with fail
        refine bodyPost_ret (v:=vz (k,m,m2)) (by simp [results,Tryz.results182,go_sem,q0,q1,q2,hlr8];try rfl) rfl ?_
        rw [<-HX.out]
        exact ⟨bv (bv (bv (bv HG8.out (aK _ _ _) (fun k hk=>by cases hk;omega)) (aK _ _ _) (fun k hk=>by cases hk;exact Nat.le_of_eq HB0.out.symm)) (aK _ _ _) (fun k hk=>by cases hk;exact Nat.le_of_eq HB0.out.symm)) (aK _ _ _) (fun k hk=>by cases hk;exact Nat.le_of_eq HB0.out.symm),rfl,PJ.grown (PJ.grown (PJ.grown (PJ.grown HP8.out (aK _ _ _) (fun k hk=>by cases hk;omega)) (aK _ _ _) (fun k hk=>by cases hk;exact hgB0)) (aK _ _ _) (fun k hk=>by cases hk;exact hgB0)) (aK _ _ _) (fun k hk=>by cases hk;exact hgB0)⟩
     ·rw [if_neg hk2] at HX
      have hk4:(k==2)=false:=by rw [beq_eq_false_iff_ne];exact hk2
      clear hk2 hk1 hk3
      have c0:=HOS6.out.c 0 rfl
      have cf0:=HOS6.out.soft 0
      have c1:=HOS6.out.c 1 rfl
      have cf1:=HOS6.out.soft 1
      have c2:=HOS6.out.c 2 rfl
      have cf2:=HOS6.out.soft 2
      have q0:=HOR6.out.c 0 rfl
      have qf0:=HOR6.out.soft 0
      have q1:=HOR6.out.c 1 rfl
      have qf1:=HOR6.out.soft 1
      have q2:=HOR6.out.c 2 rfl
      have qf2:=HOR6.out.soft 2
      go_wp2_with fail
      refine bodyPost_ret (v:=vz (k,m,0)) (by simp [results,Tryz.results182,go_sem,q0,q1,q2,hlr6];try rfl) rfl ?_
      rw [<-HX.out]
      exact ⟨bv (bv (bv (HG6.out) (aK _ _ _) (fun k hk=>by cases hk;exact Nat.le_of_eq HB0.out.symm)) (aK _ _ _) (fun k hk=>by cases hk;exact Nat.le_of_eq HB0.out.symm)) (aK _ _ _) (fun k hk=>by cases hk;exact Nat.le_of_eq HB0.out.symm),rfl,PJ.grown (PJ.grown (PJ.grown (HP6.out) (aK _ _ _) (fun k hk=>by cases hk;exact hgB0)) (aK _ _ _) (fun k hk=>by cases hk;exact hgB0)) (aK _ _ _) (fun k hk=>by cases hk;exact hgB0)⟩
end Jp
namespace Jp
open Go.RowKit Oo
attribute [local go_sem] an
def jk (cols:List Co) (E:Nat) (ts:List Tk):Except Nat (Oo.Ag × List Tk):=
 bnd (nq dh E ts) fun k ts=>bnd (aM E [jb] ts) fun _ ts=>
 if k=1 then bnd (aM E [ii] ts) fun _ ts=>.ok (⟨k,-1⟩,ts) else bnd (fK cols E ts) fun a ts=>bnd (aM E [ii] ts) fun _ ts=>.ok (⟨k,a⟩,ts)
def ny (x:Oo.Ag):Value:=.agg #[.int .i64 x.k,.int .i64 x.at_]
theorem ap.ne {w w':World} {a:Option Addr} {l:List Co} {g:Nat} (h:ap w a l) (hg:w.grownBy w' (some g)) (ha:∀ b off,a=some ⟨b,off,none⟩->g≠b):ap w' a l:=fun i hi=>by
 obtain ⟨b,off,e,h1,h2⟩:=h i hi
 exact ⟨b,off,e,hg.cell h1 (fun e2=>ha b off e (sI e2).symm),hg.cell h2 (fun e2=>ha b off e (sI e2).symm)⟩
theorem yc (c:LC) (l:List Co) (a:Option Addr) (n cc:Nat) (ts:List Tk) (w:World) (hn:n=l.length) (hl:l.length<=4096) (hc:ap w a l) (ha:∀ b off,a=some ⟨b,off,none⟩->c.g≠b) (h:PJ c w ts) :
 Calls Tryz.prog 185 #[.pointer (some ⟨c.g,0,none⟩),.slice a n cc] w (RP c w (jk l c.line.size ts) ny):=by
 obtain ⟨O,HX⟩:∃ O,Hid (jk l c.line.size ts=O):=⟨_,rfl⟩
 rw [HX.out]
 unfold jk at HX
 have HC:=jg hc
 have HA:=jg ha
 have HN:=jg hn
 have hgl:=h.lt
 have HP:=jg h
 clear h hc ha hn
 go_in
 go_wp2_with fail
 refine (pT _).mono ?_
 rintro e w2 ⟨rfl,hm,hb⟩
 rw [show (w.alloc (.cells #[.int .i64 0,.int .i64 0] 168)).heap.size=w.heap.size+1 from by simp] at hm ⊢
 have HB2:=jg ((ae w (.cells #[.int .i64 0,.int .i64 0] 168)).trans (hb.mono (by simp)))
 have HCH:=jg (lq c dh (w.heap.size+1) ts w2 hm (by omega) (HP.out.later HB2.out))
 have HOR2:=jg ((aD.new w 168 2 #[.int .i64 0,.int .i64 0] rfl).later hb)
 have HC2:=jg (HC.out.later HB2.out)
 have hlr2:=HOR2.out.lt
 clear hm hb HP HC
 go_wp2_with fail
 refine HCH.out.mono ?_
 intro e w3 hr
 rcases hr.el with ⟨n,ho,rfl,hg⟩ | ⟨k,ts2,ho,rfl,hg,hp⟩
 ·have HG3:=jg (ai (aj HB2.out) hg)
  clear hg hr HCH
  rw [ho] at HX
  simp only [bnd] at HX
  clear ho
  unfold cm
  go_wp2_with fail
  rw [<-HX.out]
  exact ⟨HG3.out,rfl⟩
 ·rw [ho] at HX
  simp only [bnd] at HX
  have HG3:=jg (ai (aj HB2.out) hg)
  have HOR3:=jg (HOR2.out.grown hg (nS (by omega)))
  have HP3:=jg hp
  have HC3:=jg (ap.ne HC2.out hg HA.out)
  have hsz3:=hg.size
  have hlr3:=HOR3.out.lt
  have hgl3:=hp.lt
  clear hg hr HCH hp ho HOR2 HB2 HC2
  have HOR4:=jg (HOR3.out.later (ae w3 (.cells #[.int .i64 k,.int .i64 (-1)] 168)))
  have HOS4:=jg (aD.new w3 168 2 #[.int .i64 k,.int .i64 (-1)] rfl)
  have HP4:=jg (HP3.out.later (ae w3 (.cells #[.int .i64 k,.int .i64 (-1)] 168)))
  have HG4:=jg (ai HG3.out (aj (ae w3 (.cells #[.int .i64 k,.int .i64 (-1)] 168))))
  have HC4:=jg (HC3.out.later (ae w3 (.cells #[.int .i64 k,.int .i64 (-1)] 168)))
  have HW:=jg (bO c jb ts2 _ HP4.out)
  rw [show (w3.alloc (.cells #[.int .i64 k,.int .i64 (-1)] 168)).heap.size=w3.heap.size+1 from by simp] at HW
  unfold jb at HW
  clear HOR3 HP3 HG3 HC3
  go_wp2_with fail
  refine HW.out.mono ?_
  intro e w5 hr
  rcases hr.el with ⟨n,ho,rfl,hg⟩ | ⟨x5,ts3,ho,rfl,hg,hp⟩
  ·change aM c.line.size [jb] ts2=_ at ho
   have HG5:=jg (ai HG4.out hg)
   clear hg hr HW
   rw [ho] at HX
   simp only [bnd] at HX
   clear ho
   unfold cm
   go_wp2_with fail
   rw [<-HX.out]
   exact ⟨HG5.out,rfl⟩
  ·change aM c.line.size [jb] ts2=_ at ho
   rw [ho] at HX
   simp only [bnd] at HX
   have HG5:=jg (ai HG4.out hg)
   have HOR5:=jg (HOR4.out.grown hg (nS (by omega)))
   have HOS5:=jg (HOS4.out.grown hg (nS (by omega)))
   have HC5:=jg (ap.ne HC4.out hg HA.out)
   have HP5:=jg hp
   have hl5:=HOS5.out.lt
   have hlr5:=HOR5.out.lt
   have hgl5:=hp.lt
   have hne3:w3.heap.size≠w.heap.size:=by omega
   have hgn3:c.g≠w3.heap.size:=by omega
   have hgn0:c.g≠w.heap.size:=by omega
   have hBw:w.heap.size<=w3.heap.size:=by omega
   have hgB:c.g<w3.heap.size:=by omega
   clear hg hr hp ho HW HOR4 HOS4 HP4 HG4 HC4 hsz3 hlr3 hgl3 hlr2
   generalize w3.heap.size=B at *
   obtain ⟨B0,HB0⟩:∃ B0,Hid (B0=w.heap.size):=⟨_,rfl⟩
   rw [<-HB0.out] at hne3 hgn0 hlr5 HOR5 ⊢
   have hgB0:c.g<B0:=by rw [HB0.out];exact hgl
   by_cases hk1:k=1
   ·rw [if_pos hk1] at HX
    have hk2:(k != 1)=false:=by rw [hk1];rfl
    have hk3:(k==1)=true:=by rw [hk1];rfl
    clear hk1
    obtain ⟨TSX,HTS⟩:∃ TSX,TSX=ts3:=⟨_,rfl⟩
    obtain ⟨WX,HWX⟩:∃ WX,WX=w5:=⟨_,rfl⟩
    subst HTS HWX
    have HPX:=HP5
    have HOSX:=HOS5
    have HORX:=HOR5
    have HGX:=HG5
    clear HP5 HOS5 HOR5 HG5
    have HW2:=jg (bO c ii TSX WX HPX.out)
    unfold ii at HW2
    have c0:=HOSX.out.c 0 rfl
    have cf0:=HOSX.out.soft 0
    have c1:=HOSX.out.c 1 rfl
    have cf1:=HOSX.out.soft 1
    go_wp2_with fail
    refine HW2.out.mono ?_
    intro e w9 hr
    rcases hr.el with ⟨n,ho,rfl,hg⟩ | ⟨x9,ts9,ho,rfl,hg,hp⟩
    ·change aM c.line.size [ii] TSX=_ at ho
     have HG9:=jg (ai HGX.out hg)
     clear hg hr HW2
     rw [ho] at HX
     simp only [bnd] at HX
     clear ho
     unfold cm
     go_wp2_with fail
     rw [<-HX.out]
     exact ⟨HG9.out,rfl⟩
    ·change aM c.line.size [ii] TSX=_ at ho
     rw [ho] at HX
     simp only [bnd] at HX
     have HG9:=jg (ai HGX.out hg)
     have HOR9:=jg (HORX.out.grown hg (fun e=>hgn0 (sI e).symm))
     have HOS9:=jg (HOSX.out.grown hg (fun e=>hgn3 (sI e).symm))
     have HP9:=jg hp
     clear hg hr hp ho HW2 HORX HOSX HPX HGX c0 cf0 c1 cf1
     have hl9:=HOS9.out.lt
     have hlr9:=HOR9.out.lt
     have hgl9:=HP9.out.lt
     have c0:=HOS9.out.c 0 rfl
     have cf0:=HOS9.out.soft 0
     have c1:=HOS9.out.c 1 rfl
     have cf1:=HOS9.out.soft 1
     have q0:=HOR9.out.c 0 rfl
     have qf0:=HOR9.out.soft 0
     have q1:=HOR9.out.c 1 rfl
     have qf1:=HOR9.out.soft 1
     go_wp2_with fail
     refine bodyPost_ret (v:=ny ⟨k,(-1)⟩) (by simp [results,Tryz.results185,go_sem,q0,q1,hlr9];try rfl) rfl ?_
     rw [<-HX.out]
     exact ⟨bv (bv (HG9.out) (aK _ _ _) (fun k hk=>by cases hk;exact Nat.le_of_eq HB0.out.symm)) (aK _ _ _) (fun k hk=>by cases hk;exact Nat.le_of_eq HB0.out.symm),rfl,PJ.grown (PJ.grown (HP9.out) (aK _ _ _) (fun k hk=>by cases hk;exact hgB0)) (aK _ _ _) (fun k hk=>by cases hk;exact hgB0)⟩
   ·rw [if_neg hk1] at HX
    have hk3:(k==1)=false:=by rw [beq_eq_false_iff_ne];exact hk1
    have hk2:(k != 1)=true:=by rw [bne,hk3];rfl
    clear hk1
    have d0:=HOS5.out.c 0 rfl
    have df0:=HOS5.out.soft 0
    have d1:=HOS5.out.c 1 rfl
    have df1:=HOS5.out.soft 1
    go_wp2_with fail
    refine (gV c l a n cc ts3 w5 HN.out hl HC5.out HA.out HP5.out).mono ?_
    intro e w6 hr
    rcases hr.el with ⟨n,ho,rfl,hg⟩ | ⟨m,ts6,ho,rfl,hg,hp⟩
    ·have HG6:=jg (ai HG5.out hg)
     clear hg hr
     rw [ho] at HX
     simp only [bnd] at HX
     clear ho
     unfold cm
     go_wp2_with fail
     rw [<-HX.out]
     exact ⟨HG6.out,rfl⟩
    ·rw [ho] at HX
     simp only [bnd] at HX
     have HOS6:=jg (HOS5.out.grown hg (fun e=>hgn3 (sI e).symm))
     have HPUT:=jg (HOS6.out.put 1 (.int .i64 m))
     have HPX:=jg (hp.grown HPUT.out.2 (fun k hk=>by cases hk;omega))
     have HGX:=jg (bv (a:=w) (ai HG5.out hg) HPUT.out.2 (fun k hk=>by cases hk;omega))
     have HORX:=jg ((HOR5.out.grown hg (fun e=>hgn0 (sI e).symm)).grown HPUT.out.2 (fun e=>hne3 (sI e).symm))
     have HOSX:=jg HPUT.out.1
     have hl6:=HOS6.out.lt
     clear d0 df0 d1 df1
     have d0:=HOS6.out.c 0 rfl
     have df0:=HOS6.out.soft 0
     have d1:=HOS6.out.c 1 rfl
     have df1:=HOS6.out.soft 1
     obtain ⟨TSX,HTS⟩:∃ TSX,TSX=ts6:=⟨_,rfl⟩
     subst HTS
     clear hg hr hp ho HOS5 HOR5 HG5 HP5 HC5 hl5 hlr5 hgl5
     go_upto_region 5 with fail
     generalize hWX:w6.setCell ⟨B,1,none⟩ (.int .i64 m)=WX at *
     clear hWX HPUT HOS6 d0 df0 d1 df1 hl6
     have HW2:=jg (bO c ii TSX WX HPX.out)
     unfold ii at HW2
     have c0:=HOSX.out.c 0 rfl
     have cf0:=HOSX.out.soft 0
     have c1:=HOSX.out.c 1 rfl
     have cf1:=HOSX.out.soft 1
     go_wp2_with fail
     refine HW2.out.mono ?_
     intro e w9 hr
     rcases hr.el with ⟨n,ho,rfl,hg⟩ | ⟨x9,ts9,ho,rfl,hg,hp⟩
     ·change aM c.line.size [ii] TSX=_ at ho
      have HG9:=jg (ai HGX.out hg)
      clear hg hr HW2
      rw [ho] at HX
      simp only [bnd] at HX
      clear ho
      unfold cm
      go_wp2_with fail
      rw [<-HX.out]
      exact ⟨HG9.out,rfl⟩
     ·change aM c.line.size [ii] TSX=_ at ho
      rw [ho] at HX
      simp only [bnd] at HX
      have HG9:=jg (ai HGX.out hg)
      have HOR9:=jg (HORX.out.grown hg (fun e=>hgn0 (sI e).symm))
      have HOS9:=jg (HOSX.out.grown hg (fun e=>hgn3 (sI e).symm))
      have HP9:=jg hp
      clear hg hr hp ho HW2 HORX HOSX HPX HGX c0 cf0 c1 cf1
      have hl9:=HOS9.out.lt
      have hlr9:=HOR9.out.lt
      have hgl9:=HP9.out.lt
      have c0:=HOS9.out.c 0 rfl
      have cf0:=HOS9.out.soft 0
      have c1:=HOS9.out.c 1 rfl
      have cf1:=HOS9.out.soft 1
      have q0:=HOR9.out.c 0 rfl
      have qf0:=HOR9.out.soft 0
      have q1:=HOR9.out.c 1 rfl
      have qf1:=HOR9.out.soft 1
      go_wp2_with fail
      refine bodyPost_ret (v:=ny ⟨k,m⟩) (by simp [results,Tryz.results185,go_sem,q0,q1,hlr9];try rfl) rfl ?_
      rw [<-HX.out]
      exact ⟨bv (bv (HG9.out) (aK _ _ _) (fun k hk=>by cases hk;exact Nat.le_of_eq HB0.out.symm)) (aK _ _ _) (fun k hk=>by cases hk;exact Nat.le_of_eq HB0.out.symm),rfl,PJ.grown (PJ.grown (HP9.out) (aK _ _ _) (fun k hk=>by cases hk;exact hgB0)) (aK _ _ _) (fun k hk=>by cases hk;exact hgB0)⟩
end Jp
namespace Jp
open Go.RowKit Oo
attribute [local go_sem] an
def iT (E:Nat) (ts:List Tk):Except Nat ((Co × Unit) × List Tk):=bnd (bm E ts) fun s ts=>bnd (nq bF E ts) fun k ts=>.ok ((⟨s,k⟩,()),ts)
def SS (c:LC) (pb:Nat) (ts:List Tk) (acc:List Unit) (r:Option Nat) (W:World):Prop:=PJ c W ts/\W.cell? ⟨pb,0,none⟩=some (.pointer (some ⟨c.g,0,none⟩))/\r=none/\c.g<pb
theorem SS.go' {c:LC} {pb:Nat} {ts ts':List Tk} {acc:List Unit} {r:Option Nat} {W W':World} (h:SS c pb ts acc r W) (hg:W.grownBy W' (some c.g)) (hp:PJ c W' ts'):SS c pb ts' acc r W':=⟨hp,hg.cell h.2.1 (fun e=>by have:=sI e;have:=h.2.2.2;simp only at *;omega),h.2.2⟩
theorem SS.side (c:LC) (pb:Nat):sU c [] (pb+1) (SS c pb) where
 pj _ _ _ _ h:=h.1
 go _ _ _ _ _ _ h hg hp _:=SS.go' h hg hp
 keep _ _ _ _ _ k h hg hk:=⟨h.1.grown hg (fun j hj=>by have:=(hk j hj).1;have:=h.2.2.2;omega),hg.cell h.2.1 (fun e=>by have:=(hk _ e.symm).1;simp only at this;omega),h.2.2⟩
 lt _ _ _ _ h:=⟨bL h.2.1,fun k hk=>by rw [h.2.2.1] at hk;cases hk⟩
 x0 i hi:=by cases hi
theorem rN (c:LC) (pb:Nat) (ts:List Tk) (acc:List Unit) (r:Option Nat) (w:World) (h:SS c pb ts acc r w) :
 Calls Tryz.prog 133 (#[]++#[.pointer (some ⟨pb,0,none⟩)]) w (kE c [] (SS c pb) (fun x=>.agg #[.string x.nm,.int .i64 x.k]) acc r w (iT c.line.size ts)):=by
 obtain ⟨O,HX⟩:∃ O,Hid (iT c.line.size ts=O):=⟨_,rfl⟩
 rw [HX.out]
 unfold iT at HX
 have hgl:=h.1.lt
 have hpb:=h.2.2.2
 have hpl:=bL h.2.1
 have HR0:=jg h.2.2.1
 have HPL:Hid (∀ W W' ts,SS c pb ts acc none W->Below W.heap.size W W'->SS c pb ts acc none W'):=fun W W' ts h hb=>⟨h.1.later hb,af hb h.2.1,h.2.2⟩
 have hS:SS c pb ts acc none (w.alloc (.cells #[.string ⟨#[]⟩,.int .i64 0] 95)).drew:=by
  have h':SS c pb ts acc none w:=⟨h.1,h.2.1,rfl,h.2.2.2⟩
  exact ⟨h'.1.later (ae _ _).drew,af (ae _ _).drew h'.2.1,rfl,h'.2.2.2⟩
 have c0:=hS.2.1
 have HNM:=jg (fG c ts _ hS.1)
 have HGO:Hid (∀ W W' ts',SS c pb ts acc none W->W.grownBy W' (some c.g)->PJ c W' ts'->SS c pb ts' acc none W'):=fun W W' ts' h1 h2 h3=>SS.go' h1 h2 h3
 have HSS:=jg hS
 have HOR:=jg ((aD.new w 95 2 #[.string ⟨#[]⟩,.int .i64 0] rfl).later aA)
 simp only [Array.empty_append]
 go_in
 go_wp2_with fail
 cases ho:bm c.line.size ts with
 | error n=>
  rw [ho] at HX
  simp only [bnd] at HX
  have HBB:Hid (Calls Tryz.prog 79 #[.pointer (some ⟨c.g,0,none⟩)] (w.alloc (.cells #[.string ⟨#[]⟩,.int .i64 0] 95)).drew fun e w'=>(w.alloc (.cells #[.string ⟨#[]⟩,.int .i64 0] 95)).drew.grownBy w' (some c.g)/\e=.panicked [{ v:=rY n,recovered:=false }]):=HNM.out.mono (by
   intro e w' h
   rw [ho] at h
   exact h)
  have FIN:Hid (∀ w5,(w.alloc (.cells #[.string ⟨#[]⟩,.int .i64 0] 95)).drew.grownBy w5 (some c.g)->kE c [] (SS c pb) (fun x=>.agg #[.string x.nm,.int .i64 x.k]) acc r w O (.panicked [{ v:=rY n,recovered:=false }]) w5):=fun w5 hg=>by
   rw [<-HX.out];exact ⟨Fr.of (ai (aj (ae _ _).drew) hg) (fun k hk=>by cases hk;simp),rfl⟩
  refine wp_region_any (by kernel_rfl) ?_
  change wpAny _ _ _ _ _ _ _ (World.drew _)
  refine wpAny_ready (rs:=[0,2]) (by kernel_rfl) (by simp) ?_
  refine AllReady.cons rfl (fun K hK=>?_) ?_
  ·go_simp
   refine hK _ _ ?_
   refine wpAny_ready (rs:=[1,2]) (by kernel_rfl) (by simp) ?_
   refine AllReady.cons rfl (fun K hK=>?_) ?_
   ·go_simp
    refine HBB.out.mono ?_
    rintro e w5 ⟨hg5,rfl⟩
    first | exact FIN.out w5 hg5 | (change bodyPost _ _ _ _ _ _;rw [an];exact FIN.out w5 hg5)
   ·refine AllReady.cons rfl (fun K hK=>?_) AllReady.nil
    go_simp
    refine hK _ _ ?_
    refine aY 1 (by kernel_rfl) rfl (fun K hK=>?_)
    go_simp
    refine HBB.out.mono ?_
    rintro e w5 ⟨hg5,rfl⟩
    first | exact FIN.out w5 hg5 | (change bodyPost _ _ _ _ _ _;rw [an];exact FIN.out w5 hg5)
  ·refine AllReady.cons rfl (fun K hK=>?_) AllReady.nil
   go_simp
   refine hK _ _ ?_
   refine aY 0 (by kernel_rfl) rfl (fun K hK=>?_)
   go_simp
   refine hK _ _ ?_
   refine aY 1 (by kernel_rfl) rfl (fun K hK=>?_)
   go_simp
   refine HBB.out.mono ?_
   rintro e w5 ⟨hg5,rfl⟩
   first | exact FIN.out w5 hg5 | (change bodyPost _ _ _ _ _ _;rw [an];exact FIN.out w5 hg5)
 | ok p=>
  obtain ⟨s,ts1⟩:=p
  rw [ho] at HX
  simp only [bnd] at HX
  have HNX:Hid (Calls Tryz.prog 79 #[.pointer (some ⟨c.g,0,none⟩)] (w.alloc (.cells #[.string ⟨#[]⟩,.int .i64 0] 95)).drew fun e w'=>e=.returned (.string s)/\(w.alloc (.cells #[.string ⟨#[]⟩,.int .i64 0] 95)).drew.grownBy w' (some c.g)/\SS c pb ts1 acc none w'):=HNM.out.mono (by
   intro e w' h
   rw [ho] at h
   exact ⟨h.2.1,h.1,HGO.out _ _ _ HSS.out h.1 h.2.2⟩)
  have HCH:Hid (∀ w1 w2,SS c pb ts1 acc none w1->SS c pb ts1 acc none w2->WM w2 w1.heap.size bF->Calls Tryz.prog 134 #[.pointer (some ⟨c.g,0,none⟩),.map (some w1.heap.size)] w2 (RP c w2 (nq bF c.line.size ts1) (Value.int .i64))):=fun w1 w2 h1 h2 hm=>rh c bF w1.heap.size ts1 w2 hm (by have:=h1.1.lt;omega) h2.1
  cases ho:nq bF c.line.size ts1 with
  | error n=>
   rw [ho] at HX
   simp only [bnd] at HX
   have HCB:Hid (∀ w1 w2,SS c pb ts1 acc none w1->SS c pb ts1 acc none w2->WM w2 w1.heap.size bF->Calls Tryz.prog 134 #[.pointer (some ⟨c.g,0,none⟩),.map (some w1.heap.size)] w2 fun e w'=>w2.grownBy w' (some c.g)/\e=.panicked [{ v:=rY n,recovered:=false }]):=fun w1 w2 h1 h2 hm=>(HCH.out w1 w2 h1 h2 hm).mono (by
    intro e w' h
    rw [ho] at h
    exact h)
   have FIN:Hid (∀ w5,(w.alloc (.cells #[.string ⟨#[]⟩,.int .i64 0] 95)).drew.grownBy w5 (some c.g)->kE c [] (SS c pb) (fun x=>.agg #[.string x.nm,.int .i64 x.k]) acc r w O (.panicked [{ v:=rY n,recovered:=false }]) w5):=fun w5 hg=>by
    rw [<-HX.out];exact ⟨Fr.of (ai (aj (ae _ _).drew) hg) (fun k hk=>by cases hk;simp),rfl⟩
   refine wp_region_any (by kernel_rfl) ?_
   change wpAny _ _ _ _ _ _ _ (World.drew _)
   refine wpAny_ready (rs:=[0,2]) (by kernel_rfl) (by simp) ?_
   refine AllReady.cons rfl (fun K hK=>?_) ?_
   ·go_simp
    refine hK _ _ ?_
    refine wpAny_ready (rs:=[1,2]) (by kernel_rfl) (by simp) ?_
    refine AllReady.cons rfl (fun K hK=>?_) ?_
    ·go_simp
     refine HNX.out.mono ?_
     rintro e w1 ⟨rfl,hg1,hp1⟩
     have c1:=hp1.2.1
     have HP1:=jg hp1
     have HG1:=jg hg1
     refine hK _ _ ?_
     refine wpAny_ready (rs:=[2,3]) (by kernel_rfl) (by simp) ?_
     refine AllReady.cons rfl (fun K hK=>?_) ?_
     ·go_simp
      refine hK _ _ ?_
      refine aY 3 (by kernel_rfl) rfl (fun K hK=>?_)
      go_simp
      refine (gl _).mono ?_
      rintro e w2 ⟨rfl,hm2,hb2⟩
      have hp2:=HPL.out _ _ _ HP1.out hb2
      have c2:=hp2.2.1
      have HP2:=jg hp2
      have HM2:=jg hm2
      have HB2:=jg hb2
      refine hK _ _ ?_
      refine aY 4 (by kernel_rfl) rfl (fun K hK=>?_)
      go_simp
      refine (HCB.out w1 w2 HP1.out HP2.out HM2.out).mono ?_
      rintro e w5 ⟨hg5,rfl⟩
      (change bodyPost _ _ _ _ _ _;rw [an];exact FIN.out w5 (ai (ai HG1.out (aj HB2.out)) hg5))
     ·refine AllReady.cons rfl (fun K hK=>?_) AllReady.nil
      go_simp
      refine (gl _).mono ?_
      rintro e w2 ⟨rfl,hm2,hb2⟩
      have hp2:=HPL.out _ _ _ HP1.out hb2
      have c2:=hp2.2.1
      have HP2:=jg hp2
      have HM2:=jg hm2
      have HB2:=jg hb2
      refine hK _ _ ?_
      refine aY 2 (by kernel_rfl) rfl (fun K hK=>?_)
      go_simp
      refine hK _ _ ?_
      refine aY 4 (by kernel_rfl) rfl (fun K hK=>?_)
      go_simp
      refine (HCB.out w1 w2 HP1.out HP2.out HM2.out).mono ?_
      rintro e w5 ⟨hg5,rfl⟩
      (change bodyPost _ _ _ _ _ _;rw [an];exact FIN.out w5 (ai (ai HG1.out (aj HB2.out)) hg5))
    ·refine AllReady.cons rfl (fun K hK=>?_) AllReady.nil
     go_simp
     refine hK _ _ ?_
     refine aY 1 (by kernel_rfl) rfl (fun K hK=>?_)
     go_simp
     refine HNX.out.mono ?_
     rintro e w1 ⟨rfl,hg1,hp1⟩
     have c1:=hp1.2.1
     have HP1:=jg hp1
     have HG1:=jg hg1
     refine hK _ _ ?_
     refine aY 3 (by kernel_rfl) rfl (fun K hK=>?_)
     go_simp
     refine (gl _).mono ?_
     rintro e w2 ⟨rfl,hm2,hb2⟩
     have hp2:=HPL.out _ _ _ HP1.out hb2
     have c2:=hp2.2.1
     have HP2:=jg hp2
     have HM2:=jg hm2
     have HB2:=jg hb2
     refine hK _ _ ?_
     refine aY 4 (by kernel_rfl) rfl (fun K hK=>?_)
     go_simp
     refine (HCB.out w1 w2 HP1.out HP2.out HM2.out).mono ?_
     rintro e w5 ⟨hg5,rfl⟩
     (change bodyPost _ _ _ _ _ _;rw [an];exact FIN.out w5 (ai (ai HG1.out (aj HB2.out)) hg5))
   ·refine AllReady.cons rfl (fun K hK=>?_) AllReady.nil
    go_simp
    refine hK _ _ ?_
    refine aY 0 (by kernel_rfl) rfl (fun K hK=>?_)
    go_simp
    refine hK _ _ ?_
    refine aY 1 (by kernel_rfl) rfl (fun K hK=>?_)
    go_simp
    refine HNX.out.mono ?_
    rintro e w1 ⟨rfl,hg1,hp1⟩
    have c1:=hp1.2.1
    have HP1:=jg hp1
    have HG1:=jg hg1
    refine hK _ _ ?_
    refine aY 3 (by kernel_rfl) rfl (fun K hK=>?_)
    go_simp
    refine (gl _).mono ?_
    rintro e w2 ⟨rfl,hm2,hb2⟩
    have hp2:=HPL.out _ _ _ HP1.out hb2
    have c2:=hp2.2.1
    have HP2:=jg hp2
    have HM2:=jg hm2
    have HB2:=jg hb2
    refine hK _ _ ?_
    refine aY 4 (by kernel_rfl) rfl (fun K hK=>?_)
    go_simp
    refine (HCB.out w1 w2 HP1.out HP2.out HM2.out).mono ?_
    rintro e w5 ⟨hg5,rfl⟩
    (change bodyPost _ _ _ _ _ _;rw [an];exact FIN.out w5 (ai (ai HG1.out (aj HB2.out)) hg5))
  | ok p=>
   obtain ⟨k,ts2⟩:=p
   rw [ho] at HX
   simp only [bnd] at HX
   have HCX:Hid (∀ w1 w2,SS c pb ts1 acc none w1->SS c pb ts1 acc none w2->WM w2 w1.heap.size bF->Calls Tryz.prog 134 #[.pointer (some ⟨c.g,0,none⟩),.map (some w1.heap.size)] w2 fun e w'=>e=.returned (.int .i64 k)/\w2.grownBy w' (some c.g)/\SS c pb ts2 acc none w'):=fun w1 w2 h1 h2 hm=>(HCH.out w1 w2 h1 h2 hm).mono (by
    intro e w' h
    rw [ho] at h
    exact ⟨h.2.1,h.1,SS.go' h2 h.1 h.2.2⟩)
   have hlr:=HOR.out.lt
   have HORK:Hid (∀ w1 w2 w3,(w.alloc (.cells #[.string ⟨#[]⟩,.int .i64 0] 95)).drew.grownBy w1 (some c.g)->Below w1.heap.size w1 w2->w2.grownBy w3 (some c.g)->aD w3 w.heap.size 95 2 [.string ⟨#[]⟩,.int .i64 0]):=fun w1 w2 w3 h1 h2 h3=>((HOR.out.grown h1 (nS (by omega))).later h2).grown h3 (nS (by omega))
   go_region_with (first
    | (go_at_call 79;refine HNX.out.mono ?_;rintro e w1 ⟨rfl,hg1,hp1⟩;have c1:=hp1.2.1;have HP1:=jg hp1;have HG1:=jg hg1;clear hg1 hp1)
    | (go_at_call 107;refine (gl _).mono ?_;rintro e w2 ⟨rfl,hm2,hb2⟩;have hp2:=HPL.out _ _ _ HP1.out hb2;have c2:=hp2.2.1;have HP2:=jg hp2;have HM2:=jg hm2;have HB2:=jg hb2;clear hm2 hb2 hp2)
    | (go_at_call 134;go_loud (refine (HCX.out w1 w2 HP1.out HP2.out HM2.out).mono ?_;rintro e w3 ⟨rfl,hg3,hp3⟩;have hO3:=HORK.out w1 w2 w3 HG1.out HB2.out hg3;have q0:w3.cell? ⟨w.heap.size,0,none⟩=some (.string ⟨#[]⟩):=(by rw [hO3.cell 0 (by decide)];rfl);have q1:w3.cell? ⟨w.heap.size,1,none⟩=some (.int .i64 0):=(by rw [hO3.cell 1 (by decide)];rfl);have qf0:=hO3.soft 0;have qf1:=hO3.soft 1;have hl3:=hO3.lt;have HP3:=jg hp3;have HG3:=jg hg3;clear hg3 hp3 hO3)))
   all_goals
    go_wp2_with fail
    refine bodyPost_ret (v:=.agg #[.string s,.int .i64 k]) (by simp [results,Tryz.results133,go_sem,q0,q1,hl3];try rfl) rfl ?_
    rw [<-HX.out]
    have hS4:=(SS.side c pb).keep _ _ _ _ _ (some w.heap.size) HP3.out (aK _ ⟨w.heap.size,0,none⟩ (.string s)) (fun j hj=>by cases hj;exact ⟨by omega,by simp⟩)
    have hS5:=(SS.side c pb).keep _ _ _ _ _ (some w.heap.size) hS4 (aK _ ⟨w.heap.size,1,none⟩ (.int .i64 k)) (fun j hj=>by cases hj;exact ⟨by omega,by simp⟩)
    refine ⟨Fr.of (bv (bv (ai (aj (ae w _).drew) (ai (ai HG1.out (aj HB2.out)) HG3.out)) (aK _ _ _) (fun j hj=>by cases hj;exact lR)) (aK _ _ _) (fun j hj=>by cases hj;exact lR)) (fun k hk=>by cases hk;simp),rfl,none,⟨hS5.1,hS5.2.1,rfl,hS5.2.2.2⟩,.inl HR0.out.symm⟩
end Jp
end Go.Proofs.YtiiliobffnhpmaaGreatDoor
