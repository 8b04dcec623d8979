import Derived.Test.YtiiliobffnhpmaaGreatDoorGax
set_option linter.all false
set_option maxRecDepth 100000
set_option maxHeartbeats 4000000
namespace Go.Proofs.YtiiliobffnhpmaaGreatDoor
namespace Oo
open Go.RowKit
attribute [local go_sem ↓] kW qX
attribute [local go_sem] iC
open Classical in
noncomputable def gi (l:List Co):Except Nat (List Co):=if 8<l.length then .error 5 else if bP l then .ok l else .error 2
open Classical in
noncomputable def gf (ck:ByteArray->Except Nat Int) (o:eJ):Except Nat (List Co):=
 if bP o.c/\bP o.r/\cT o=true then
  match ji ck o with
  | .error n=>.error n
  | .ok l=>gi l
 else .error 4
theorem jM.more {w w1 w':World} {r:Except Nat (List Co)} {e:Ending} (h:jM w1 r e w') (hb:Below w.heap.size w w1):jM w r e w':=by
 refine ⟨hb.trans (h.1.mono hb.size),?_⟩
 cases r with
 | error n=>exact h.2
 | ok l=>
  obtain ⟨_,a,c,h1,h2,h3⟩:=h
  exact ⟨a,c,h1,h2,h3.mono hb.size⟩
theorem vY (ck:ByteArray->Except Nat Int) (o:eJ) (p:mY) (w:World) (hs:iv o) (hat:iw w o p) (hck:om w o.c ck) (hc8:o.c.length<=8) (hr8:o.r.length<=8) :
 Calls Tryz.prog 149 #[.agg (cO o p)] w (jM w (ji ck o)):=by
 have hA:Below w.heap.size w (w.alloc (.cells (cO o p) 59)):=ae _ _
 have HWh:=jg (vF ck o p _ hs (hat.later hA) (hck.later hA))
 have HMp:=jg (Af ck o p _ hs (hat.later hA) (hck.later hA))
 have HWi:=jg (jF o p _ hs (hat.later hA))
 have HJo:=jg (mo o p _ hs (hat.later hA) hc8 hr8)
 have HCl:Hid (Calls Tryz.prog 86 #[.slice p.ca o.c.length p.cc] (w.alloc (.cells (cO o p) 59)) fun e w'=>jM (w.alloc (.cells (cO o p) 59)) (.ok o.c) (match e with | .returned v=>.returned (.tuple #[v,.nilIface]) | x=>x) w'/\∃ a c,e=.returned (.slice a o.c.length c)):=by
  refine (lS p.ca o.c p.cc _ (hat.c.later hA) (by omega)).mono ?_
  rintro e w' ⟨a',c',rfl,hO,hb⟩
  obtain ⟨a2,c2,e2,hcc,-⟩:=OC.form (l:=o.c) hO
  cases e2
  exact ⟨⟨hb,_,_,rfl,hcc,uw.of hO lR⟩,_,_,rfl⟩
 have HA:=aU hA
 unfold ji
 generalize gO ck o=r1 at *
 generalize nj ck o=r2 at *
 generalize ef o=r3 at *
 generalize iu o=r4 at *
 obtain ⟨k,ex,nm,c,r,ks,os,wk,ws,wt,ag,ou⟩:=o
 obtain ⟨ea,ec,na,nc,ca,cc,ra,rc,ka,kc,oa,oc,ga,gc⟩:=p
 unfold cO at *
 simp only at *
 by_cases h2:k=2
 ·subst h2
  rw [if_pos rfl]
  go_in
  go_wp2_with fail
  refine HWh.out.mono ?_
  rintro e w1 ⟨hb1,hr1⟩
  have HB1:=jg (HA.out.trans (hb1.mono HA.out.size))
  cases r1 with
  | error n=>
   simp only at hr1
   subst hr1
   go_wp2_with fail
   go_ret2
   exact aZ HB1.out rfl
  | ok l=>
   obtain ⟨a,c',rfl,hcc,hff⟩:=hr1
   have HCC:=aU hcc
   have HFF:=aU hff
   go_wp2_with fail
   go_ret2
   exact fb HB1.out rfl HCC.out (HFF.out.mono HA.out.size)
 rw [if_neg h2]
 have b2:(k==2)=false:=by simp [h2]
 by_cases h3:k=3
 ·subst h3
  rw [if_pos rfl]
  go_in
  go_wp2_with fail
  refine HMp.out.mono ?_
  rintro e w1 ⟨hb1,hr1⟩
  have HB1:=jg (HA.out.trans (hb1.mono HA.out.size))
  cases r2 with
  | error n=>
   simp only at hr1
   subst hr1
   go_wp2_with fail
   go_ret2
   exact aZ HB1.out rfl
  | ok l=>
   obtain ⟨a,c',rfl,hcc,hff⟩:=hr1
   have HCC:=aU hcc
   have HFF:=aU hff
   go_wp2_with fail
   go_ret2
   exact fb HB1.out rfl HCC.out (HFF.out.mono HA.out.size)
 rw [if_neg h3]
 have b3:(k==3)=false:=by simp [h3]
 by_cases h4:k=4
 ·subst h4
  rw [if_pos rfl]
  go_in
  go_wp2_with fail
  refine HWi.out.mono ?_
  rintro e w1 ⟨hb1,hr1⟩
  have HB1:=jg (HA.out.trans (hb1.mono HA.out.size))
  cases r3 with
  | error n=>
   simp only at hr1
   subst hr1
   go_wp2_with fail
   go_ret2
   exact aZ HB1.out rfl
  | ok l=>
   obtain ⟨a,c',rfl,hcc,hff⟩:=hr1
   have HCC:=aU hcc
   have HFF:=aU hff
   go_wp2_with fail
   go_ret2
   exact fb HB1.out rfl HCC.out (HFF.out.mono HA.out.size)
 rw [if_neg h4]
 have b4:(k==4)=false:=by simp [h4]
 by_cases h5:k=5
 ·subst h5
  rw [if_pos rfl]
  go_in
  go_wp2_with fail
  refine HJo.out.mono ?_
  rintro e w1 ⟨hb1,hr1⟩
  have HB1:=jg (HA.out.trans (hb1.mono HA.out.size))
  cases r4 with
  | error n=>
   simp only at hr1
   subst hr1
   go_wp2_with fail
   go_ret2
   exact aZ HB1.out rfl
  | ok l=>
   obtain ⟨a,c',rfl,hcc,hff⟩:=hr1
   have HCC:=aU hcc
   have HFF:=aU hff
   go_wp2_with fail
   go_ret2
   exact fb HB1.out rfl HCC.out (HFF.out.mono HA.out.size)
 rw [if_neg h5]
 have b5:(k==5)=false:=by simp [h5]
 go_in
 go_wp2_with fail
 refine HCl.out.mono ?_
 rintro e w1 ⟨hr1,a,c',rfl⟩
 have HR1:=jg (jM.more hr1 HA.out)
 go_wp2_with fail
 go_ret2
 exact HR1.out
end Oo
namespace Oo
open Go.RowKit
attribute [local go_sem ↓] kW qX
attribute [local go_sem] iC
theorem jQ {l:List Co} (h:bP l) (a:Option Addr) (c:Nat) (w:World) (hc:ap w a l) (hm:l.length<=maxLen) (hz:∀ x∈l,x.nm.size<=140737488355328):Calls Tryz.prog 147 #[.slice a l.length c] w fun e w'=>e=.returned (.bool true)/\Below w.heap.size w w':=by
 refine (iQ a c l w hc hm hz).mono ?_
 rintro e w' ⟨⟨b,rfl,hi⟩,hb⟩
 have:b=true:=hi.2 h
 subst this
 exact ⟨rfl,hb⟩
theorem lJ {l:List Co} (h:¬ bP l) (a:Option Addr) (c:Nat) (w:World) (hc:ap w a l) (hm:l.length<=maxLen) (hz:∀ x∈l,x.nm.size<=140737488355328):Calls Tryz.prog 147 #[.slice a l.length c] w fun e w'=>e=.returned (.bool false)/\Below w.heap.size w w':=by
 refine (iQ a c l w hc hm hz).mono ?_
 rintro e w' ⟨⟨b,rfl,hi⟩,hb⟩
 have:b=false:=by
  cases b with
  | false=>rfl
  | true=>exact absurd (hi.1 rfl) h
 subst this
 exact ⟨rfl,hb⟩
theorem sJ {l:List Co} (h:8<l.length):gi l=.error 5:=by unfold gi;rw [if_pos h]
theorem wu {l:List Co} (h:bP l):gi l=.ok l:=by unfold gi;rw [if_neg (by have:=h.1;omega),if_pos h]
theorem xq {l:List Co} (h8:¬ 8<l.length) (h:¬ bP l):gi l=.error 2:=by unfold gi;rw [if_neg h8,if_neg h]
theorem Dk {α:Type} {g:α->Except Nat Co} {key:α->ByteArray} (hg:∀ q b,g q=.ok b->b.nm=key q) {l:List α}:∀ {acc:List Co},dX g l=.ok acc->∀ x∈acc,∃ q∈l,x.nm=key q:=by
 induction l with
 | nil=>intro acc h x hx;simp only [dX] at h;cases h;cases hx
 | cons q l ih=>
  intro acc h x hx
  simp only [dX] at h
  cases hq:g q with
  | error n=>rw [hq] at h;cases h
  | ok k=>
   rw [hq] at h
   simp only at h
   cases hl:dX g l with
   | error n=>rw [hl] at h;cases h
   | ok bs=>
    rw [hl] at h
    cases h
    cases hx with
    | head=>exact ⟨q,List.mem_cons_self ..,hg _ _ hq⟩
    | tail _ hx=>obtain ⟨q',h1,h2⟩:=ih hl x hx;exact ⟨q',List.mem_cons_of_mem _ h1,h2⟩
theorem qT {r:Except Nat Int} {n:ByteArray} {b:Co} (h:bm r n=.ok b):b.nm=n:=by
 unfold bm at h
 cases r with
 | error x=>cases h
 | ok k=>cases h;rfl
theorem zf {c:List Co} {l:List (Ag × ByteArray)} {acc:List Co} (h:dX (fun q=>bm (cV c q.1) q.2) l=.ok acc):∀ x∈acc,∃ q∈l,x.nm=q.2:=Dk (key:=fun q:Ag × ByteArray=>q.2) (fun q b hq=>qT hq) h
theorem D7 {ck:ByteArray->Except Nat Int} {l:List (ByteArray × ByteArray)} {acc:List Co} (h:dX (fun q=>bm (ck q.1) q.2) l=.ok acc):∀ x∈acc,∃ q∈l,x.nm=q.2:=Dk (key:=fun q:ByteArray × ByteArray=>q.2) (fun q b hq=>qT hq) h
theorem De {ck:ByteArray->Except Nat Int} {o:eJ} (hs:iv o) {l:List Co} (h:ji ck o=.ok l):l.length<=8796093022300\/l=o.c\/l=o.c++o.r:=by
 unfold ji at h
 split at h
 ·right;left
  unfold gO at h
  split at h
  ·split at h
   ·cases h
   ·split at h
    ·cases h;rfl
    ·cases h
  ·cases h
 split at h
 ·left
  unfold nj at h
  split at h
  ·have:=iM _ _ _ h
   rw [List.length_zip] at this
   have:=hs.e
   omega
  ·cases h
 split at h
 ·left
  unfold ef at h
  split at h
  ·rename_i hcond
   split at h
   ·cases h
   ·rename_i acc hacc
    cases h
    have:=iM _ _ _ hacc
    rw [List.length_zip] at this
    rw [List.length_append,List.length_map]
    have h1:=hs.g
    have h2:=(i8 hcond.1).1
    omega
  ·cases h
 split at h
 ·right;right
  unfold iu at h
  split at h
  ·split at h
   ·cases h;rfl
   ·cases h
  ·cases h
 ·right;left;cases h;rfl
theorem C7 {ck:ByteArray->Except Nat Int} {o:eJ} (hs:iv o) {l:List Co} (h:ji ck o=.ok l):l.length<=maxLen/\∀ x∈l,x.nm.size<=140737488355328:=by
 have hcn:∀ x∈o.c,x.nm.size<=140737488355328:=fun x hx=>by have:=hs.cn x hx;omega
 have hrn:∀ x∈o.r,x.nm.size<=140737488355328:=fun x hx=>by have:=hs.rn x hx;omega
 refine ⟨?_,?_⟩
 ·rcases De hs h with h1 | rfl | rfl
  ·unfold maxLen;omega
  ·have:=hs.c;unfold maxLen;omega
  ·rw [List.length_append];have:=hs.c;have:=hs.r;unfold maxLen;omega
 ·unfold ji at h
  split at h
  ·unfold gO at h
   split at h
   ·split at h
    ·cases h
    ·split at h
     ·cases h;exact hcn
     ·cases h
   ·cases h
  split at h
  ·unfold nj at h
   split at h
   ·intro x hx
    obtain ⟨q,hq,e⟩:=D7 h x hx
    rw [e]
    have:=hs.nn q.2 (List.of_mem_zip hq).2
    omega
   ·cases h
  split at h
  ·unfold ef at h
   split at h
   ·split at h
    ·cases h
    ·rename_i acc hacc
     cases h
     intro x hx
     rcases List.mem_append.1 hx with hx | hx
     ·obtain ⟨n,hn,rfl⟩:=List.mem_map.1 hx
      unfold bX
      rw [List.getD_eq_getElem?_getD]
      cases hg:o.c[n.toNat]? with
      | none=>exact Nat.zero_le _
      | some y=>exact hcn y (List.mem_of_getElem? hg)
     ·obtain ⟨q,hq,e⟩:=zf hacc x hx
      rw [e]
      have:=hs.nn q.2 (List.of_mem_zip hq).2
      omega
   ·cases h
  split at h
  ·unfold iu at h
   split at h
   ·split at h
    ·cases h
     intro x hx
     rcases List.mem_append.1 hx with hx | hx
     ·exact hcn x hx
     ·exact hrn x hx
    ·cases h
   ·cases h
  ·cases h;exact hcn
theorem Ai (ck:ByteArray->Except Nat Int) (o:eJ) (p:mY) (w:World) (hs:iv o) (hat:iw w o p) (hck:om w o.c ck) :
 Calls Tryz.prog 87 #[.agg (cO o p)] w (jM w (gf ck o)):=by
 obtain ⟨W1,hW1⟩:∃ W1,W1=w.alloc (.cells (cO o p) 59):=⟨_,rfl⟩
 have hA:Below w.heap.size w W1:=by rw [hW1];exact ae _ _
 have hOw:aD W1 w.heap.size 59 12 (cO o p).toList:=by rw [hW1];exact aD.new w 59 12 (cO o p) rfl
 have hcm:o.c.length<=maxLen:=by have:=hs.c;unfold maxLen;omega
 have hrm:o.r.length<=maxLen:=by have:=hs.r;unfold maxLen;omega
 have hcn:∀ x∈o.c,x.nm.size<=140737488355328:=fun x hx=>by have:=hs.cn x hx;omega
 have hrn:∀ x∈o.r,x.nm.size<=140737488355328:=fun x hx=>by have:=hs.rn x hx;omega
 have HA:=aU hA
 have HOw:=aU hOw
 have HUS:Hid (∀ W,Calls Tryz.prog 148 #[.agg (cO o p)] W fun e w'=>e=.returned (.bool (cT o))/\Below W.heap.size W w'):=fun W=>yI o p W hs
 by_cases hc:bP o.c
 ·have HCY:Hid (∀ W,Below w.heap.size w W->Calls Tryz.prog 147 #[.slice p.ca o.c.length p.cc] W fun e w'=>e=.returned (.bool true)/\Below W.heap.size W w'):=fun W hW=>jQ hc p.ca p.cc W (hat.c.later hW) hcm hcn
  by_cases hr:bP o.r
  ·have HRY:Hid (∀ W,Below w.heap.size w W->Calls Tryz.prog 147 #[.slice p.ra o.r.length p.rc] W fun e w'=>e=.returned (.bool true)/\Below W.heap.size W w'):=fun W hW=>jQ hr p.ra p.rc W (hat.r.later hW) hrm hrn
   cases hu:cT o with
   | true=>
    have HCO:Hid (∀ W,Below w.heap.size w W->Calls Tryz.prog 149 #[.agg (cO o p)] W (jM W (ji ck o))):=fun W hW=>vY ck o p W hs (hat.later hW) (hck.later hW) hc.1 hr.1
    have HSZ:Hid (∀ l,ji ck o=.ok l->l.length<=maxLen/\∀ x∈l,x.nm.size<=140737488355328):=fun l h=>C7 hs h
    have HR:Hid (gf ck o=match ji ck o with
     | .error n=>.error n
     | .ok l=>gi l):=by unfold Hid gf;rw [if_pos ⟨hc,hr,hu⟩]<;>cases ji ck o<;>rfl
    rw [hu] at HUS
    generalize gf ck o=R at *
    generalize ji ck o=R1 at *
    obtain ⟨k,ex,nm,c,r,ks,os,wk,ws,wt,ag,ou⟩:=o
    obtain ⟨ea,ec,na,nc,ca,cc,ra,rc,ka,kc,oa,oc,ga,gc⟩:=p
    unfold cO at *
    simp only at *
    go_in
    go_wp2_with fail
    rw [<-hW1]
    refine (HCY.out _ HA.out).mono ?_
    rintro e w2 ⟨rfl,hb2⟩
    have HB2:=jg (HA.out.trans (hb2.mono HA.out.size))
    have HO2:=aU (HOw.out.later hb2)
    have d4:w2.cell? ⟨w.heap.size,4,none⟩=some (.slice ra r.length rc):=HO2.out.cell 4 (by decide)
    have hl2:=HO2.out.lt
    go_wp2_with fail
    refine (HRY.out _ HB2.out).mono ?_
    rintro e w3 ⟨rfl,hb3⟩
    have HB3:=jg (HB2.out.trans (hb3.mono HB2.out.size))
    have HO3:=aU (HO2.out.later hb3)
    have f0:w3.cell? ⟨w.heap.size,0,none⟩=some (.int .i64 k):=HO3.out.cell 0 (by decide)
    have f1:w3.cell? ⟨w.heap.size,1,none⟩=some (.slice ea ex.length ec):=HO3.out.cell 1 (by decide)
    have f2:w3.cell? ⟨w.heap.size,2,none⟩=some (.slice na nm.length nc):=HO3.out.cell 2 (by decide)
    have f3:w3.cell? ⟨w.heap.size,3,none⟩=some (.slice ca c.length cc):=HO3.out.cell 3 (by decide)
    have f4:w3.cell? ⟨w.heap.size,4,none⟩=some (.slice ra r.length rc):=HO3.out.cell 4 (by decide)
    have f5:w3.cell? ⟨w.heap.size,5,none⟩=some (.slice ka ks.length kc):=HO3.out.cell 5 (by decide)
    have f6:w3.cell? ⟨w.heap.size,6,none⟩=some (.slice oa os.length oc):=HO3.out.cell 6 (by decide)
    have f7:w3.cell? ⟨w.heap.size,7,none⟩=some (.int .i64 wk):=HO3.out.cell 7 (by decide)
    have f8:w3.cell? ⟨w.heap.size,8,none⟩=some (.int .i64 ws):=HO3.out.cell 8 (by decide)
    have f9:w3.cell? ⟨w.heap.size,9,none⟩=some (.int .i64 wt):=HO3.out.cell 9 (by decide)
    have f10:w3.cell? ⟨w.heap.size,10,none⟩=some (.slice ga ag.length gc):=HO3.out.cell 10 (by decide)
    have f11:w3.cell? ⟨w.heap.size,11,none⟩=some (.bool ou):=HO3.out.cell 11 (by decide)
    have hl3:=HO3.out.lt
    go_wp2_with fail
    refine (HUS.out _).mono ?_
    rintro e w4 ⟨rfl,hb4⟩
    have HB4:=jg (HB3.out.trans (hb4.mono HB3.out.size))
    have HO4:=aU (HO3.out.later hb4)
    have g0:w4.cell? ⟨w.heap.size,0,none⟩=some (.int .i64 k):=HO4.out.cell 0 (by decide)
    have g1:w4.cell? ⟨w.heap.size,1,none⟩=some (.slice ea ex.length ec):=HO4.out.cell 1 (by decide)
    have g2:w4.cell? ⟨w.heap.size,2,none⟩=some (.slice na nm.length nc):=HO4.out.cell 2 (by decide)
    have g3:w4.cell? ⟨w.heap.size,3,none⟩=some (.slice ca c.length cc):=HO4.out.cell 3 (by decide)
    have g4:w4.cell? ⟨w.heap.size,4,none⟩=some (.slice ra r.length rc):=HO4.out.cell 4 (by decide)
    have g5:w4.cell? ⟨w.heap.size,5,none⟩=some (.slice ka ks.length kc):=HO4.out.cell 5 (by decide)
    have g6:w4.cell? ⟨w.heap.size,6,none⟩=some (.slice oa os.length oc):=HO4.out.cell 6 (by decide)
    have g7:w4.cell? ⟨w.heap.size,7,none⟩=some (.int .i64 wk):=HO4.out.cell 7 (by decide)
    have g8:w4.cell? ⟨w.heap.size,8,none⟩=some (.int .i64 ws):=HO4.out.cell 8 (by decide)
    have g9:w4.cell? ⟨w.heap.size,9,none⟩=some (.int .i64 wt):=HO4.out.cell 9 (by decide)
    have g10:w4.cell? ⟨w.heap.size,10,none⟩=some (.slice ga ag.length gc):=HO4.out.cell 10 (by decide)
    have g11:w4.cell? ⟨w.heap.size,11,none⟩=some (.bool ou):=HO4.out.cell 11 (by decide)
    have hl4:=HO4.out.lt
    go_wp2_with fail
    refine (HCO.out _ HB4.out).mono ?_
    rintro e w5 ⟨hb5,hr5⟩
    have HB5:=jg (HB4.out.trans (hb5.mono HB4.out.size))
    cases R1 with
    | error n=>
     simp only at hr5
     subst hr5
     have HR':=jg HR.out
     go_wp2_with fail
     go_ret2
     rw [HR'.out]
     exact aZ HB5.out rfl
    | ok l=>
     obtain ⟨a,c',rfl,hcc,hff⟩:=hr5
     have HCC:=aU hcc
     have HFF:=aU hff
     have hsz:=HSZ.out l rfl
     have HR':=jg HR.out
     have hlm:l.length<=9223372036854775807:=hsz.1
     have HZ:=aU hsz
     by_cases h8:8<l.length
     ·have h8i:(8:Int)<(l.length:Int):=by omega
      go_wp2_with fail
      go_ret2
      rw [HR'.out,sJ h8]
      exact aZ HB5.out rfl
     ·have h8i:¬ (8:Int)<(l.length:Int):=by omega
      by_cases hcl:bP l
      ·go_wp2_with fail
       refine (jQ hcl a c' _ HCC.out HZ.out.1 HZ.out.2).mono ?_
       rintro e w6 ⟨rfl,hb6⟩
       have HB6:=jg (HB5.out.trans (hb6.mono HB5.out.size))
       have HC6:=aU (HCC.out.later hb6)
       go_wp2_with fail
       go_ret2
       rw [HR'.out,wu hcl]
       exact fb HB6.out rfl HC6.out (HFF.out.mono HB4.out.size)
      ·go_wp2_with fail
       refine (lJ hcl a c' _ HCC.out HZ.out.1 HZ.out.2).mono ?_
       rintro e w6 ⟨rfl,hb6⟩
       have HB6:=jg (HB5.out.trans (hb6.mono HB5.out.size))
       go_wp2_with fail
       go_ret2
       rw [HR'.out,xq h8 hcl]
       exact aZ HB6.out rfl
   | false=>
    have HR:Hid (gf ck o=.error 4):=by unfold Hid gf;rw [if_neg];simp [hu]
    rw [hu] at HUS
    generalize gf ck o=R at *
    obtain ⟨k,ex,nm,c,r,ks,os,wk,ws,wt,ag,ou⟩:=o
    obtain ⟨ea,ec,na,nc,ca,cc,ra,rc,ka,kc,oa,oc,ga,gc⟩:=p
    unfold cO at *
    simp only at *
    go_in
    go_wp2_with fail
    rw [<-hW1]
    refine (HCY.out _ HA.out).mono ?_
    rintro e w2 ⟨rfl,hb2⟩
    have HB2:=jg (HA.out.trans (hb2.mono HA.out.size))
    have HO2:=aU (HOw.out.later hb2)
    have d4:w2.cell? ⟨w.heap.size,4,none⟩=some (.slice ra r.length rc):=HO2.out.cell 4 (by decide)
    have hl2:=HO2.out.lt
    go_wp2_with fail
    refine (HRY.out _ HB2.out).mono ?_
    rintro e w3 ⟨rfl,hb3⟩
    have HB3:=jg (HB2.out.trans (hb3.mono HB2.out.size))
    have HO3:=aU (HO2.out.later hb3)
    have f0:w3.cell? ⟨w.heap.size,0,none⟩=some (.int .i64 k):=HO3.out.cell 0 (by decide)
    have f1:w3.cell? ⟨w.heap.size,1,none⟩=some (.slice ea ex.length ec):=HO3.out.cell 1 (by decide)
    have f2:w3.cell? ⟨w.heap.size,2,none⟩=some (.slice na nm.length nc):=HO3.out.cell 2 (by decide)
    have f3:w3.cell? ⟨w.heap.size,3,none⟩=some (.slice ca c.length cc):=HO3.out.cell 3 (by decide)
    have f4:w3.cell? ⟨w.heap.size,4,none⟩=some (.slice ra r.length rc):=HO3.out.cell 4 (by decide)
    have f5:w3.cell? ⟨w.heap.size,5,none⟩=some (.slice ka ks.length kc):=HO3.out.cell 5 (by decide)
    have f6:w3.cell? ⟨w.heap.size,6,none⟩=some (.slice oa os.length oc):=HO3.out.cell 6 (by decide)
    have f7:w3.cell? ⟨w.heap.size,7,none⟩=some (.int .i64 wk):=HO3.out.cell 7 (by decide)
    have f8:w3.cell? ⟨w.heap.size,8,none⟩=some (.int .i64 ws):=HO3.out.cell 8 (by decide)
    have f9:w3.cell? ⟨w.heap.size,9,none⟩=some (.int .i64 wt):=HO3.out.cell 9 (by decide)
    have f10:w3.cell? ⟨w.heap.size,10,none⟩=some (.slice ga ag.length gc):=HO3.out.cell 10 (by decide)
    have f11:w3.cell? ⟨w.heap.size,11,none⟩=some (.bool ou):=HO3.out.cell 11 (by decide)
    have hl3:=HO3.out.lt
    go_wp2_with fail
    refine (HUS.out _).mono ?_
    rintro e w4 ⟨rfl,hb4⟩
    have HB4:=jg (HB3.out.trans (hb4.mono HB3.out.size))
    have HO4:=aU (HO3.out.later hb4)
    go_wp2_with fail
    go_ret2
    rw [HR.out]
    exact aZ HB4.out rfl
  ·have HRN:Hid (∀ W,Below w.heap.size w W->Calls Tryz.prog 147 #[.slice p.ra o.r.length p.rc] W fun e w'=>e=.returned (.bool false)/\Below W.heap.size W w'):=fun W hW=>lJ hr p.ra p.rc W (hat.r.later hW) hrm hrn
   have HR:Hid (gf ck o=.error 4):=by unfold Hid gf;rw [if_neg];simp [hr]
   generalize gf ck o=R at *
   obtain ⟨k,ex,nm,c,r,ks,os,wk,ws,wt,ag,ou⟩:=o
   obtain ⟨ea,ec,na,nc,ca,cc,ra,rc,ka,kc,oa,oc,ga,gc⟩:=p
   unfold cO at *
   simp only at *
   go_in
   go_wp2_with fail
   rw [<-hW1]
   refine (HCY.out _ HA.out).mono ?_
   rintro e w2 ⟨rfl,hb2⟩
   have HB2:=jg (HA.out.trans (hb2.mono HA.out.size))
   have HO2:=aU (HOw.out.later hb2)
   have d4:w2.cell? ⟨w.heap.size,4,none⟩=some (.slice ra r.length rc):=HO2.out.cell 4 (by decide)
   have hl2:=HO2.out.lt
   go_wp2_with fail
   refine (HRN.out _ HB2.out).mono ?_
   rintro e w3 ⟨rfl,hb3⟩
   have HB3:=jg (HB2.out.trans (hb3.mono HB2.out.size))
   go_wp2_with fail
   go_ret2
   rw [HR.out]
   exact aZ HB3.out rfl
 ·have HCN:Hid (∀ W,Below w.heap.size w W->Calls Tryz.prog 147 #[.slice p.ca o.c.length p.cc] W fun e w'=>e=.returned (.bool false)/\Below W.heap.size W w'):=fun W hW=>lJ hc p.ca p.cc W (hat.c.later hW) hcm hcn
  have HR:Hid (gf ck o=.error 4):=by unfold Hid gf;rw [if_neg];simp [hc]
  generalize gf ck o=R at *
  obtain ⟨k,ex,nm,c,r,ks,os,wk,ws,wt,ag,ou⟩:=o
  obtain ⟨ea,ec,na,nc,ca,cc,ra,rc,ka,kc,oa,oc,ga,gc⟩:=p
  unfold cO at *
  simp only at *
  go_in
  go_wp2_with fail
  rw [<-hW1]
  refine (HCN.out _ HA.out).mono ?_
  rintro e w3 ⟨rfl,hb3⟩
  have HB3:=jg (HA.out.trans (hb3.mono HA.out.size))
  go_wp2_with fail
  go_ret2
  rw [HR.out]
  exact aZ HB3.out rfl
end Oo
end Go.Proofs.YtiiliobffnhpmaaGreatDoor
