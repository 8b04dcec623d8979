import Derived.Test.YtiiliobffnhpmaaGreatDoorGam
import Derived.Deep.DeepCutAuto
import Derived.Lib.MinMax
set_option linter.all false
set_option maxRecDepth 100000
set_option maxHeartbeats 4000000
namespace Go.Proofs.YtiiliobffnhpmaaGreatDoor
namespace Jp
open Go.RowKit Oo
attribute [local go_sem] an
theorem aA {w:World}:Below w.heap.size w w.drew:=bR.drew
theorem PJ.c2 {c:LC} {W:World} {ts:List Tk} (h:PJ c W ts):W.cell? ⟨c.g,2,none⟩=some (.slice c.aN c.nN c.cN):=by
 obtain ⟨h0,b,off,cap,h1,h2⟩:=h
 rw [h1.cell 2 (by decide)];rfl
theorem PJ.c0 {c:LC} {W:World} {ts:List Tk} (h:PJ c W ts):W.cell? ⟨c.g,0,none⟩=some (.string c.line):=by
 obtain ⟨h0,b,off,cap,h1,h2⟩:=h
 rw [h1.cell 0 (by decide)];rfl
theorem kN (c:LC) (l:List aJ) (hl:c.nN=l.length) (hl2:l.length<=4096) (hN:eG c.w0 c.aN l) (ts:List Tk) (w:World) (h:PJ c w ts) :
 Calls Tryz.prog 136 #[.pointer (some ⟨c.g,0,none⟩)] w (RP c w (lM l c.line.size ts) (Value.int .i64)):=by
 have HP:=jg h
 have HL:=jg hl
 have HN:=jg hN
 have HPW:=jg (h.later aA)
 have HNM:=jg (fG c ts w.drew HPW.out)
 have hgl:=h.lt
 have c2:=h.c2
 clear h hl hN
 go_in
 go_wp2_with fail
 cases ho:bm c.line.size ts with
 | error n=>
  have HR:Hid (lM l c.line.size ts=.error n):=by unfold lM Hid;rw [ho]
  have HBB:Hid (Calls Tryz.prog 79 #[.pointer (some ⟨c.g,0,none⟩)] w.drew fun e w'=>w.drew.grownBy w' (some c.g)/\e=.panicked [{ v:=rY n,recovered:=false }]):=HNM.out.mono (by
   intro e w' h
   rw [ho] at h
   exact h)
  have FIN:Hid (∀ w5,w.drew.grownBy w5 (some c.g)->RP c w (lM l c.line.size ts) (Value.int .i64) (.panicked [{ v:=rY n,recovered:=false }]) w5):=fun w5 hg=>by
   rw [HR.out];exact ⟨ai (aj aA) hg,rfl⟩
  clear ho HNM
  refine wp_region_any (by kernel_rfl) ?_
  change wpAny _ _ _ _ _ _ _ (World.drew _)
  refine wpAny_take (i:=0) (v:=.pointer (some ⟨c.g,0,none⟩)) rfl (by kernel_rfl) (by kernel_rfl) (by kernel_rfl) (fun _ _ _ h=>h) (Or.inl ⟨by rfl,?_⟩) ?_
  ·intro w;go_simp
  refine wpAny_take (i:=4) (v:=.pointer (some ⟨c.g,0,none⟩)) rfl (by kernel_rfl) (by kernel_rfl) (by kernel_rfl) (fun _ _ _ h=>h) (Or.inl ⟨by rfl,?_⟩) ?_
  ·intro w;go_simp
  refine wpAny_ready (rs:=[1,5]) (by kernel_rfl) (by simp) ?_
  refine AllReady.cons rfl (fun K hK=>?_) ?_
  ·go_simp
   refine hK _ _ ?_
   clear hK K
   refine wpAny_take (i:=2) (v:=.pointer (some ⟨c.g,2,none⟩)) rfl (by kernel_rfl) (by kernel_rfl) (by kernel_rfl) (fun _ _ _ h=>h) (Or.inl ⟨by rfl,?_⟩) ?_
   ·intro w;go_simp
   refine wpAny_ready (rs:=[3,5]) (by kernel_rfl) (by simp) ?_
   refine AllReady.cons rfl (fun K hK=>?_) ?_
   ·go_simp
    refine hK _ _ ?_
    clear hK K
    refine aY 5 (by kernel_rfl) rfl (fun K hK=>?_)
    go_simp
    refine HBB.out.mono ?_
    rintro e w5 ⟨hg5,rfl⟩
    exact FIN.out w5 hg5
   ·refine AllReady.cons rfl (fun K hK=>?_) AllReady.nil
    go_simp
    refine HBB.out.mono ?_
    rintro e w5 ⟨hg5,rfl⟩
    exact FIN.out w5 hg5
  ·refine AllReady.cons rfl (fun K hK=>?_) AllReady.nil
   go_simp
   refine HBB.out.mono ?_
   rintro e w5 ⟨hg5,rfl⟩
   exact FIN.out w5 hg5
 | ok r=>
  obtain ⟨s,ts'⟩:=r
  have HNX:Hid (Calls Tryz.prog 79 #[.pointer (some ⟨c.g,0,none⟩)] w.drew fun e w'=>e=.returned (.string s)/\w.drew.grownBy w' (some c.g)/\PJ c w' ts'):=HNM.out.mono (by
   intro e w' h
   rw [ho] at h
   exact ⟨h.2.1,h.1,h.2.2⟩)
  have HO:=jg ho
  clear ho HNM
  have HPL:Hid (∀ W,PJ c W ts'->Calls Tryz.prog 84 #[.slice c.aN c.nN c.cN,.string s] W fun e w'=>e=.returned (.int .i64 (lN (dN l s)))/\Below W.heap.size W w'):=fun W hW=>l6 s c.aN c.nN c.cN l W HL.out (HN.out.later hW.bel) hl2
  go_cut [3] from 4 to 10 (fun s3 wx=>s3=.int .i64 (lN (dN l s))/\w.grownBy wx (some c.g)/\PJ c wx ts')
  case first=>
   go_region_with (first
    | (go_at_call 79;refine HNX.out.mono ?_;rintro e w1 ⟨rfl,hg1,hp1⟩;have c21:=hp1.c2;have HG1:=jg hg1;have HP1:=jg hp1;clear hg1 hp1)
    | (go_at_call 84;refine (HPL.out _ HP1.out).mono ?_;rintro e w2 ⟨rfl,hb2⟩;have HB2:=jg hb2;clear hb2))
   all_goals
    go_wp2_with fail
    go_meet
    exact ⟨rfl,ai (ai (aj aA) HG1.out) (aj HB2.out),HP1.out.later HB2.out⟩
  case rest=>
   obtain ⟨hv,hg,hp⟩:=hcut
   subst hv
   have HG:=jg hg
   have HPX:=jg hp
   have c2x:=hp.c2
   have hglx:=hp.lt
   clear hg hp HNX HPL HP HPW c2
   cases hi:dN l s with
   | none=>
    have HR:Hid (lM l c.line.size ts=.error 2):=by unfold lM Hid;rw [HO.out];simp only [hi]
    clear hi
    simp only [lN]
    go_wp2_with fail
    refine (bf 2 _).mono ?_
    rintro e w3 ⟨rfl,h3⟩
    have h3':=h3.symm
    subst h3'
    unfold cm
    go_wp2_with fail
    rw [HR.out]
    exact ⟨HG.out,rfl⟩
   | some i=>
    have hlt:=qW hi
    obtain ⟨b,off,q,ha,e0,-⟩:=(HN.out.later HPX.out.bel) i hlt
    have d1:=e0 1 _ rfl
    rw [ha,HL.out] at c2x
    have hi1:(i:Int)<(l.length:Int):=by omega
    have hbl:=bL d1
    have hi0:¬ (i:Int)<0:=by omega
    by_cases hk:l[i].op.k=7
    ·have HR:Hid (lM l c.line.size ts=.error 2):=by unfold lM Hid;rw [HO.out];simp only [hi];rw [if_pos (by rw [List.getElem?_eq_getElem hlt];simp [hk])]
     have hq:(l[i].op.k==7)=true:=by rw [hk];rfl
     generalize l[i].op.k=K at *
     clear hi hk e0 ha
     simp only [lN]
     go_wp2_with fail
     refine (bf 2 _).mono ?_
     rintro e w3 ⟨rfl,h3⟩
     have h3':=h3.symm
     subst h3'
     unfold cm
     go_wp2_with fail
     rw [HR.out]
     exact ⟨HG.out,rfl⟩
    ·have HR:Hid (lM l c.line.size ts=.ok ((i:Int),ts')):=by unfold lM Hid;rw [HO.out];simp only [hi];rw [if_neg (by rw [List.getElem?_eq_getElem hlt];simp [hk])]
     have hq:(l[i].op.k==7)=false:=by rw [beq_eq_false_iff_ne];exact hk
     generalize l[i].op.k=K at *
     clear hi hk e0 ha
     simp only [lN]
     go_wp2_with fail
     go_ret
     rw [HR.out]
     exact ⟨HG.out,rfl,HPX.out⟩
def fK (l:List Co) (E:Nat) (ts:List Tk):Except Nat (Int × List Tk):=match bm E ts with
 | .error n=>.error n
 | .ok (s,ts')=>match ch l s with
  | none=>.error 2
  | some i=>.ok ((i:Int),ts')
theorem yW (nm n2:ByteArray) (k:Int) (b:Nat) (w:World) (h:w.cell? ⟨b,0,none⟩=some (.string nm)) :
 Calls Tryz.prog 213 #[.agg #[.string n2,.int .i64 k],.pointer (some ⟨b,0,none⟩)] w fun e w'=>e=.returned (.bool (decide (n2=nm)))/\Below w.heap.size w w':=by
 have hl:=bL h
 have hl2:=hl
 have hd:(n2.toList==nm.toList)=decide (n2=nm):=by
  by_cases e:n2=nm
  ·rw [BO e,decide_eq_true e]
  ·rw [Cs e,decide_eq_false e]
 go_in
 go_wp2
 go_ret
 exact ⟨rfl,ae _ _⟩
end Jp
namespace Jp
open Go.RowKit Oo
attribute [local go_sem] an
theorem tz (nm:ByteArray) (a:Option Addr) (c:Nat) (l:List Co) (b:Nat) (w:World) (hc:ap w a l) (hm:l.length<=maxLen) (h:w.cell? ⟨b,0,none⟩=some (.string nm)) :
 Calls Tryz.prog 212 #[.slice a l.length c,.func (.func 213) #[] #[.pointer (some ⟨b,0,none⟩)]] w fun e w'=>e=.returned (.int .i64 (lN (ch l nm)))/\Below w.heap.size w w':=by
 have HC:=jg hc
 have HN:=jg h
 have hm':l.length<=9223372036854775807:=hm
 go_in
 go_wp2
 go_loopw [8] (fun i w'=>∃ j:Nat,j<=l.length/\i=.int .i64 j/\Below w.heap.size w w'/\∀ m (hm:m<l.length),m<j->l[m].nm≠nm) (fun i _=>l.length-(intOf i).toNat)
 case atStart=>exact ⟨0,Nat.zero_le _,rfl,bR,fun m _ h=>absurd h (by omega)⟩
 case round=>
  obtain ⟨j,hj,rfl,hb,hno⟩:=hrel
  have HB:=jg hb
  have HNO:=jg hno
  by_cases hlt:j<l.length
  ·have hji:(j:Int)<(l.length:Int):=by omega
   obtain ⟨bb,off,ha,e0,e1⟩:=(HC.out.later HB.out) j hlt
   subst ha
   have hF:=jg (yW nm l[j].nm l[j].k b wr (af HB.out HN.out))
   generalize hK:l[j].nm=NM at *
   generalize l[j].k=KK at *
   have HK:=jg hK
   go_wp2_with fail
   refine hF.out.mono ?_
   rintro e w2 ⟨rfl,hb2⟩
   have HB2:=jg (HB.out.trans (hb2.mono HB.out.size))
   by_cases hq:NM=nm
   ·have hix:ch l nm=some j:=by
     unfold ch
     rw [List.findIdx?_eq_some_iff_getElem]
     refine ⟨hlt,by simp [HK.out,hq],fun m hm=>by simp;exact HNO.out m (by omega) hm⟩
    have HIX:=jg hix
    rw [decide_eq_true hq]
    go_wp2_with fail
    go_ret
    rw [HIX.out]
    exact ⟨rfl,HB2.out⟩
   ·rw [decide_eq_false hq]
    have HQ:=jg hq
    go_wp2_with fail
    exact ⟨⟨j+1,by omega,by go_num,HB2.out,fun m hm hmj=>by
     rcases Nat.lt_or_ge m j with h | h
     ·exact HNO.out m hm h
     ·have:m=j:=by omega
      subst this
      rw [HK.out]
      exact HQ.out⟩,by simp [intOf];omega⟩
  ·obtain rfl:j=l.length:=by omega
   have hix:ch l nm=none:=by
    unfold ch
    rw [List.findIdx?_eq_none_iff]
    intro x hx
    obtain ⟨m,hm,rfl⟩:=List.getElem_of_mem hx
    simp
    exact HNO.out m hm hm
   have HIX:=jg hix
   go_wp2_with fail
   go_ret
   rw [HIX.out]
   exact ⟨rfl,HB.out⟩
theorem gV (c:LC) (l:List Co) (a:Option Addr) (n cc:Nat) (ts:List Tk) (w:World) (hn:n=l.length) (hl:l.length<=4096) (hc:ap w a l) (ha:∀ b off,a=some ⟨b,off,none⟩->c.g≠b) (h:PJ c w ts) :
 Calls Tryz.prog 181 #[.pointer (some ⟨c.g,0,none⟩),.slice a n cc] w (RP c w (fK l c.line.size ts) (Value.int .i64)):=by
 subst hn
 have HNM:=jg (fG c ts w h)
 have HC:=jg hc
 have HA:=jg ha
 have hmf:=ff
 go_in
 go_wp2_with fail
 refine HNM.out.mono ?_
 intro e w1 h
 cases ho:bm c.line.size ts with
 | error n=>
  rw [ho] at h
  obtain ⟨hg,rfl⟩:=h
  have HR:Hid (fK l c.line.size ts=.error n):=by unfold fK Hid;rw [ho]
  have HG:=jg hg
  unfold cm
  go_wp2_with fail
  rw [HR.out]
  exact ⟨HG.out,rfl⟩
 | ok r=>
  obtain ⟨s,ts'⟩:=r
  rw [ho] at h
  obtain ⟨hg,rfl,hp⟩:=h
  have HG:=jg hg
  have HP1:=jg hp
  have HO:=jg ho
  have hC1:ap w1 a l:=fun i hi=>by
   obtain ⟨b,off,e,h1,h2⟩:=HC.out i hi
   exact ⟨b,off,e,hg.cell h1 (fun e2=>HA.out b off e (sI e2).symm),hg.cell h2 (fun e2=>HA.out b off e (sI e2).symm)⟩
  have h0:(w1.alloc (.cells #[.string s] 9)).cell? ⟨w1.heap.size,0,none⟩=some (.string s):=by go_simp
  have HI:=jg (tz s a cc l w1.heap.size (w1.alloc (.cells #[.string s] 9)) (hC1.later (ae _ _)) (by unfold maxLen;omega) h0)
  go_wp2_with fail
  refine HI.out.mono ?_
  rintro e w2 ⟨rfl,hb2⟩
  have HB2:=jg ((ae w1 (.cells #[.string s] 9)).trans (hb2.mono (by simp)))
  cases hi:ch l s with
  | none=>
   have HR:Hid (fK l c.line.size ts=.error 2):=by unfold fK Hid;rw [HO.out];simp only [hi]
   simp only [lN]
   go_wp2_with fail
   refine (bf 2 _).mono ?_
   rintro e w3 ⟨rfl,h3⟩
   have h3':=h3.symm
   subst h3'
   unfold cm
   go_wp2_with fail
   rw [HR.out]
   exact ⟨ai HG.out (aj HB2.out),rfl⟩
  | some i=>
   have HR:Hid (fK l c.line.size ts=.ok ((i:Int),ts')):=by unfold fK Hid;rw [HO.out];simp only [hi]
   have hi0:¬ (i:Int)<0:=by omega
   simp only [lN]
   go_wp2_with fail
   go_ret
   rw [HR.out]
   exact ⟨ai HG.out (aj HB2.out),rfl,HP1.out.later HB2.out⟩
end Jp
namespace Jp
open Go.RowKit Oo
attribute [local go_sem] an
def bAs:ByteArray:=⟨#[97,115]⟩
def dw:ByteArray:=⟨#[44]⟩
def kZ (E:Nat) (o:Nat) (ts:List Tk):Bool:=decide ((hd E ts).kd=0)||(decide (o=0)&&(decide ((hd E ts).tx=bAs)||decide ((hd E ts).tx=dw)))
theorem yY (c:LC) (o:Nat) (ts:List Tk) (w:World) (h:PJ c w ts) :
 Calls Tryz.prog 175 #[.pointer (some ⟨c.g,0,none⟩),.int .i64 o] w fun e w'=>e=.returned (.bool (kZ c.line.size o ts))/\Below w.heap.size w w':=by
 have HN:=jg (bK c ts w h)
 clear h
 unfold kZ
 generalize hd c.line.size ts=T at *
 have hk:((T.kd:Int)==0)=decide (T.kd=0):=by rw [Bool.eq_iff_iff];simp
 have hO:((o:Int)==0)=decide (o=0):=by rw [Bool.eq_iff_iff];simp
 have h1:(T.tx.toList==[97,115])=decide (T.tx=bAs):=xl _ _
 have h2:(T.tx.toList==[44])=decide (T.tx=dw):=xl _ _
 obtain ⟨K,hK⟩:∃ K:Int,K=(T.kd:Int):=⟨_,rfl⟩
 obtain ⟨O,hOO⟩:∃ O:Int,O=(o:Int):=⟨_,rfl⟩
 unfold eA at HN
 rw [<-hK] at hk HN
 rw [<-hOO] at hO ⊢
 clear hK hOO
 generalize decide (T.kd=0)=A at *
 generalize decide (o=0)=B at *
 generalize decide (T.tx=bAs)=C at *
 generalize decide (T.tx=dw)=D at *
 go_in
 go_wp2_with fail
 refine HN.out.mono ?_
 rintro e w1 ⟨rfl,hb⟩
 have HB:=jg (hb.alloc hb.size (.cells #[.int .i64 T.pl,.int .i64 K,.string T.tx] 136))
 clear hb HN
 cases A<;>cases B<;>cases C<;>cases D<;>(go_wp2_with fail;go_ret;exact ⟨rfl,HB.out⟩)
def sub (s:ByteArray) (f t:Nat):ByteArray:=⟨((s.data.toList.drop f).take (t-f)).toArray⟩
theorem yu (s:ByteArray) (f t:Nat) (hf:f<=t) (ht:t<=s.size) (w:World) :
 (Instr.slice 9 (.string s) (some (.int .i64 f)) (some (.int .i64 t)) none).run Tryz.prog w=.ok (.string (sub s f t)) w:=by
 have:=mJ s f (t-f) (by omega) w
 rw [show (f:Int)+((t-f:Nat):Int)=(t:Int) by omega] at this
 exact this
theorem yZ (s:ByteArray) (f t:Nat):(sub s f t).size<=s.size:=by
 show ((s.data.toList.drop f).take (t-f)).toArray.size<=s.data.size
 simp
 omega
def jb:ByteArray:=⟨#[40]⟩
def ii:ByteArray:=⟨#[41]⟩
def r8 (o:Nat) (t:Tk):Nat:=if t.tx=jb then o+1 else if t.tx=ii then o-1 else o
def cW:Nat->Nat->List Tk->Nat × List Tk
 | _,q,[]=>(q,[])
 | o,q,t::ts=>if o=0/\(t.tx=bAs\/t.tx=dw) then (q,t::ts) else cW (r8 o t) (t.pl+t.tx.size) ts
theorem vP {E o:Nat} {ts:List Tk} (hk:∀ t∈ts,t.kd≠0) (h:kZ E o ts=true) (q:Nat):cW o q ts=(q,ts):=by
 cases ts with
 | nil=>rfl
 | cons t ts=>
  unfold kZ at h
  have:=hk t (by simp)
  simp [hd,this] at h
  unfold cW
  rw [if_pos ⟨h.1,h.2.elim (fun e=>.inl (of_decide_eq_true e)) (fun e=>.inr (of_decide_eq_true e))⟩]
theorem vr {E o:Nat} {ts:List Tk} (h:kZ E o ts=false) (q:Nat):∃ t ts',ts=t::ts'/\cW o q ts=cW (r8 o t) (t.pl+t.tx.size) ts':=by
 cases ts with
 | nil=>simp [kZ,hd] at h
 | cons t ts=>
  refine ⟨t,ts,rfl,?_⟩
  unfold kZ at h
  simp [hd] at h
  rw [cW,if_neg]
  rintro ⟨h1,h2⟩
  have:=h.2 h1
  rcases h2 with h2 | h2
  ·exact absurd h2 (of_decide_eq_false this.1)
  ·exact absurd h2 (of_decide_eq_false this.2)
def eU (pf:P1) (line:ByteArray) (ts:List Tk):Except Nat (ByteArray × List Tk):=match pf (sub line (hd line.size ts).pl (cW 0 (hd line.size ts).pl ts).1) with
 | .error n=>.error n
 | .ok s=>if 200<s.size then .error 5 else .ok (s,(cW 0 (hd line.size ts).pl ts).2)
theorem Eq (a b:Int) (c:ByteArray) (w:World):(Instr.field 136 (.agg #[.int .i64 a,.int .i64 b,.string c]) 0).run Tryz.prog w=.ok (.int .i64 a) w:=by
 simp [Instr.field,go_sem,part]
 try rfl
theorem rK {rd:R1} {pf:P1} (c:LC) (hE:Ah c rd pf) (hln:c.line.size<=3000) (ts:List Tk) (w:World) (h:PJ c w ts) :
 Calls Tryz.prog 139 #[.pointer (some ⟨c.g,0,none⟩)] w (RP c w (eU pf c.line ts) Value.string):=by
 have HN:=jg (bK c ts w h)
 have HE:=jg hE
 have HP:=jg h
 have hlen:=h.len
 have hf0:=Eq
 have hF:(hd c.line.size ts).pl<=c.line.size:=by
  cases ts with
  | nil=>exact lR
  | cons t ts=>have:=h.asc.2 t (by simp);show t.pl<=_;omega
 have HX:Hid (eU pf c.line ts=match pf (sub c.line (hd c.line.size ts).pl (cW 0 (hd c.line.size ts).pl ts).1) with
 | .error n=>.error n
 | .ok s=>if 200<s.size then .error 5 else .ok (s,(cW 0 (hd c.line.size ts).pl ts).2)):=rfl
 have HA:Hid (∀ t∈ts,(hd c.line.size ts).pl<=t.pl):=fun t ht=>by
  cases ts with
  | nil=>cases ht
  | cons u ts=>
   rcases List.mem_cons.1 ht with rfl | ht
   ·exact lR
   ·have:=(List.pairwise_cons.1 h.asc.1).1 t ht
    show u.pl<=t.pl
    omega
 clear h hE
 unfold eA at HN
 generalize hT:hd c.line.size ts=T at *
 clear hT
 go_in
 go_wp2_with fail
 refine HN.out.mono ?_
 rintro e w1 ⟨rfl,hb⟩
 have HB:=jg hb
 have HP1:=jg (HP.out.later hb)
 clear hb HN HP
 go_wp2_with fail
 go_loopg [4,5] ts.length (fun gk v4 v5 wr=>∃ (ts2:List Tk) (o tt:Nat),ts2.length=gk/\v4=.int .i64 tt/\v5=.int .i64 o/\PJ c wr ts2/\w.grownBy wr (some c.g)/\cW 0 T.pl ts=cW o tt ts2/\T.pl<=tt/\tt<=c.line.size/\o+ts2.length<=ts.length/\∀ t∈ts2,T.pl<=t.pl)
 case atStart=>exact ⟨ts,0,T.pl,rfl,rfl,rfl,HP1.out,aj HB.out,rfl,lR,hF,by omega,HA.out⟩
 case round=>
  obtain ⟨ts2,o,tt,hk,rfl,rfl,hp,hg,hsc,ht1,ht2,ho,ha⟩:=hrel
  have HK:=jg hk
  have HPR:=jg hp
  have HG:=jg hg
  have HSC:=jg hsc
  have HO:=jg ho
  have HAA:=jg ha
  have ho2:o<=3000:=by omega
  clear hk hp hg hsc ho ha HP1 HB
  go_wp2_with fail
  refine (yY c o ts2 _ HPR.out).mono ?_
  rintro e w2 ⟨rfl,hb2⟩
  have HP2:=jg (HPR.out.later hb2)
  have HG2:=jg (ai HG.out (aj hb2))
  clear hb2 HPR HG
  cases he:kZ c.line.size o ts2 with
  | true=>
   have HSS:Hid (cW 0 T.pl ts=(tt,ts2)):=by rw [Hid,HSC.out];exact vP (fun t ht=>(HP2.out.kd t ht).1) he tt
   have hgl:=HP2.out.lt
   have c0:=HP2.out.c0
   have hsl:=yu c.line T.pl tt ht1 ht2
   have HPR:=jg (HE.out.pr (sub c.line T.pl tt) w2 (by have:=yZ c.line T.pl tt;omega) HP2.out.bel)
   have HPS:=jg (HE.out.ps (sub c.line T.pl tt))
   clear he HSC HO HAA HK
   rw [HSS.out] at HX
   simp only at HX
   generalize sub c.line T.pl tt=SB at *
   go_wp2_with fail
   refine HPR.out.mono ?_
   rintro e w3 ⟨hb3,pl,hpo⟩
   have HP3:=jg (HP2.out.later hb3)
   have HG3:=jg (ai HG2.out (aj hb3))
   clear hb3 HPR HP2 HG2
   cases hpf:pf SB with
   | error n=>
    rw [hpf] at hpo HX
    simp only at hpo HX
    subst hpo
    clear hpf
    go_wp2_with fail
    refine (bf n _).mono ?_
    rintro e w4 ⟨rfl,h4⟩
    have h4':=h4.symm
    subst h4'
    unfold cm
    go_wp2_with fail
    rw [HX.out]
    exact ⟨HG3.out,rfl⟩
   | ok s=>
    rw [hpf] at hpo HX
    simp only at hpo HX
    subst hpo
    have hsz:=HPS.out s hpf
    clear hpf HPS
    go_wp2_with fail
    refine (kA _).mono ?_
    rintro e w4 ⟨rfl,h4⟩
    have h4':=h4.symm
    subst h4'
    by_cases h2:200<s.size
    ·have h2i:(200:Int)<(s.size:Int):=by omega
     have HH:=jg h2
     clear h2
     go_wp2_with fail
     refine (bf 5 _).mono ?_
     rintro e w5 ⟨rfl,h5⟩
     have h5':=h5.symm
     subst h5'
     unfold cm
     go_wp2_with fail
     rw [HX.out,if_pos HH.out]
     exact ⟨HG3.out,rfl⟩
    ·have h2i:¬ (200:Int)<(s.size:Int):=by omega
     have HH:=jg h2
     clear h2
     go_wp2_with fail
     go_ret
     rw [HX.out,if_neg HH.out]
     exact ⟨HG3.out,rfl,HP3.out⟩
  | false=>
   obtain ⟨t,ts3,rfl,hst⟩:=vr he tt
   have HST:=jg (HSC.out.trans hst)
   have htk:=HP2.out.kd t (by simp)
   have has:=HP2.out.asc.2 t (by simp)
   have hle:=HAA.out t (by simp)
   clear he hst HSC
   go_wp2_with fail
   refine (bt c (t::ts3) _ HP2.out).mono ?_
   rintro e w3 ⟨rfl,hg3,hp3⟩
   have HP3:=jg hp3
   have HG3:=jg (ai HG2.out hg3)
   clear hg3 hp3 HP2 HG2
   simp only [eA,hd]
   have hadd:IntKind.i64.wrap ((t.pl:Int)+(t.tx.size:Int))=((t.pl+t.tx.size:Nat):Int):=by rw [IntKind.wrap_i64];omega
   have e1:(t.tx.toList==[40])=decide (t.tx=jb):=xl _ _
   have e2:(t.tx.toList==[41])=decide (t.tx=ii):=xl _ _
   have HOP:Hid (r8 o t=if t.tx=jb then o+1 else if t.tx=ii then o-1 else o):=rfl
   by_cases h1:t.tx=jb
   ·rw [decide_eq_true h1] at e1
    rw [if_pos h1] at HOP
    clear h1
    go_wp2_with fail
    go_roundg ts3.length
    case measure=>have:=HK.out;simp at this;omega
    case rel=>
     refine ⟨ts3,r8 o t,t.pl+t.tx.size,rfl,by first | rfl | go_num,by (rw [HOP.out]<;>first | rfl | go_num),HP3.out.later (ae _ _),ai HG3.out (aj (ae _ _)),HST.out,by omega,has,?_,fun u hu=>HAA.out u (by simp [hu])⟩
     have:=HO.out
     simp at this
     rw [HOP.out]
     omega
   ·rw [decide_eq_false h1] at e1
    rw [if_neg h1] at HOP
    clear h1
    by_cases h2:t.tx=ii
    ·rw [decide_eq_true h2] at e2
     rw [if_pos h2] at HOP
     clear h2
     go_wp2_with fail
     go_roundg ts3.length
     case measure=>have:=HK.out;simp at this;omega
     case rel=>
      refine ⟨ts3,r8 o t,t.pl+t.tx.size,rfl,by first | rfl | go_num,by (rw [HOP.out]<;>first | rfl | go_num),HP3.out.later (ae _ _),ai HG3.out (aj (ae _ _)),HST.out,by omega,has,?_,fun u hu=>HAA.out u (by simp [hu])⟩
      have:=HO.out
      simp at this
      rw [HOP.out]
      omega
    ·rw [decide_eq_false h2] at e2
     rw [if_neg h2] at HOP
     clear h2
     go_wp2_with fail
     go_roundg ts3.length
     case measure=>have:=HK.out;simp at this;omega
     case rel=>
      refine ⟨ts3,r8 o t,t.pl+t.tx.size,rfl,by first | rfl | go_num,by (rw [HOP.out]<;>first | rfl | go_num),HP3.out.later (ae _ _),ai HG3.out (aj (ae _ _)),HST.out,by omega,has,?_,fun u hu=>HAA.out u (by simp [hu])⟩
      have:=HO.out
      simp at this
      rw [HOP.out]
      omega
end Jp
namespace Jp
open Go.RowKit Oo
attribute [local go_sem] an
structure Fr (w w':World) (X:List Nat):Prop where
 os:w'.os=w.os
 tape:w'.tape=w.tape
 output:w'.output=w.output
 size:w.heap.size<=w'.heap.size
 block:∀ i,i<w.heap.size->i∉X->w'.heap[i]?=w.heap[i]?
theorem Fr.of {w w':World} {X:List Nat} {r:Option Nat} (h:w.grownBy w' r) (hr:∀ k,r=some k->k∈X\/w.heap.size<=k):Fr w w' X:=
 ⟨h.os,h.tape,h.output,h.size,fun i hi hx=>h.block i hi (fun e=>(hr i e.symm).elim hx (fun h=>by omega))⟩
theorem Fr.trans {a b d:World} {X Y:List Nat} (h:Fr a b X) (k:Fr b d Y) (hY:∀ i∈Y,i∈X\/a.heap.size<=i):Fr a d X:=
 ⟨k.os.trans h.os,k.tape.trans h.tape,k.output.trans h.output,Nat.le_trans h.size k.size,fun i hi hx=>(k.block i (lL hi h.size) (fun hy=>(hY i hy).elim hx (fun h=>by omega))).trans (h.block i hi hx)⟩
theorem Fr.own {w w':World} {X:List Nat} {B e size n:Nat} {v:Value} {xs:List Value} (h:w.ownsRow B e size v n xs) (hf:Fr w w' X) (hne:∀ g,v.ownBlock=some g->g∉X):w'.ownsRow B e size v n xs:=by
 rcases h with ⟨h1,⟨h2,h3⟩ | ⟨g,cap,cur,h2,h3,h4,h5⟩⟩
 ·exact ⟨h1,.inl ⟨h2,h3⟩⟩
 ·refine ⟨h1,.inr ⟨g,cap,cur,h2,h3,?_,h5⟩⟩
  rw [hf.block g (by have:=(Array.getElem?_eq_some_iff.1 h4).1;exact this) (hne g (by rw [h2];rfl))]
  exact h4
theorem Fr.cell {w w':World} {X:List Nat} (hf:Fr w w' X) {a:Addr} {v:Value} (h:w.cell? a=some v) (hne:a.block∉X):w'.cell? a=some v:=
 (World.cell?_of_block (hf.block a.block (World.block_lt_of_cell? w a h) hne)).trans h
theorem Fr.below {w w':World} {X:List Nat} {B:Nat} (hf:Fr w w' X) (hB:B<=w.heap.size) (hX:∀ i∈X,B<=i):Below B w w':=⟨hf.os,hf.tape,hf.output,hf.size,fun i hi=>hf.block i (by omega) (fun h=>by have:=hX i h;omega)⟩
def eD {α:Type} (E:Nat) (f:List Tk->Except Nat (α × List Tk)) (sep:ByteArray):Nat->List α->List Tk->Except Nat (List α × List Tk)
 | 0,acc,ts=>.ok (acc,ts)
 | n+1,acc,ts=>if (hd E ts).tx=sep then match f ts.tail with
  | .error e=>.error e
  | .ok (x,ts1)=>eD E f sep n (acc++[x]) ts1
  else .ok (acc,ts)
def bg {α:Type} (E:Nat) (f:List Tk->Except Nat (α × List Tk)) (sep:ByteArray) (ts:List Tk):Except Nat (List α × List Tk):=match f ts with
 | .error e=>.error e
 | .ok (x,ts1)=>eD E f sep (ts1.length+1) [x] ts1
def kE {α β:Type} (c:LC) (X0:List Nat) (S:List Tk->List β->Option Nat->World->Prop) (enc:α->Value) (acc:List β) (r:Option Nat) (W:World) (o:Except Nat ((α × β) × List Tk)) (e:Ending) (W':World):Prop:=Fr W W' (c.g::(X0++r.toList))/\match o with
 | .ok ((x,y),ts')=>e=.returned (enc x)/\∃ r',S ts' (acc++[y]) r' W'/\(r'=r\/∃ k,r'=some k/\W.heap.size<=k)
 | .error n=>e=cm n
structure sU {β:Type} (c:LC) (X0:List Nat) (B:Nat) (S:List Tk->List β->Option Nat->World->Prop):Prop where
 pj:∀ ts acc r W,S ts acc r W->PJ c W ts
 go:∀ ts ts' acc r W W',S ts acc r W->W.grownBy W' (some c.g)->PJ c W' ts'->ts'.length<=ts.length->S ts' acc r W'
 keep:∀ ts acc r W W' k,S ts acc r W->W.grownBy W' k->(∀ j,k=some j->B<=j/\some j≠r)->S ts acc r W'
 lt:∀ ts acc r W,S ts acc r W->B<=W.heap.size/\∀ k,r=some k->k<W.heap.size
 x0:∀ i∈X0,i<B
def BI {α β:Type} (c:LC) (X0:List Nat) (S:List Tk->List β->Option Nat->World->Prop) (T size:Nat) (cells:α->List Value) (acc:List β) (r:Option Nat) (W:World) (o:Except Nat (List (α × β) × List Tk)) (e:Ending) (W':World):Prop:=Fr W W' (c.g::(X0++r.toList))/\match o with
 | .ok (l,ts')=>∃ v r',e=.returned v/\W'.ownsRow W.heap.size T size v l.length (l.flatMap fun p=>cells p.1)/\S ts' (acc++l.map (·.2)) r' W'/\(r'=r\/∃ k,r'=some k/\W.heap.size<=k)
 | .error n=>e=cm n
theorem Es {w5:World} {B T size bb S3 m:Nat} {v':Value} {ys:List Value} (h2:w5.ownsRow B T size v' m ys) (hm:0<m) (h:v'.ownBlock=some bb\/v'.ownBlock=some S3):∃ b5 c5,v'=.slice (some ⟨b5,0,none⟩) m c5/\(b5=bb\/b5=S3):=by
 rcases h2.2 with ⟨_,h3⟩ | ⟨g,cap,cur,h3,_⟩
 ·omega
 ·refine ⟨g,cap,h3,?_⟩
  rw [h3] at h
  exact h.elim (fun e=>.inl (sI e)) (fun e=>.inr (sI e))
theorem wM:(Tryz.prog.info? 3).map (fun i=>(i.zero,i.size,i.bytes))=some (some (.int .i64 0),1,8):=by kernel_rfl
theorem mN {β:Type} (l:List (Int × β)):(l.flatMap fun p=>aT p.1).length=l.length*1:=by
 induction l with
 | nil=>rfl
 | cons a l ih=>rw [List.flatMap_cons,List.length_append,ih,List.length_cons];simp [aT];omega
theorem vx:(Tryz.prog.info? 9).map (fun i=>(i.zero,i.size,i.bytes))=some (some (.string ⟨#[]⟩),1,16):=by kernel_rfl
theorem vv:(Tryz.prog.info? 95).map (fun i=>(i.zero,i.size,i.bytes))=some (some (.agg #[.string ⟨#[]⟩,.int .i64 0]),2,24):=by kernel_rfl
inductive LI:(α:Type)->Nat->Nat->Nat->(α->Value)->(α->List Value)->Prop
 | i:LI Int 179 3 1 (Value.int .i64) aT
 | s:LI ByteArray 177 9 1 Value.string bC
 | c:LI Co 132 95 2 (fun x=>.agg #[.string x.nm,.int .i64 x.k]) aR
theorem gp {α β:Type} {F T n:Nat} {enc:α->Value} {ce:α->List Value} (hLI:LI α F T n enc ce) (c:LC) (X0:List Nat) (B fn:Nat) (first cp:Array Value) (S:List Tk->List β->Option Nat->World->Prop) (hS:sU c X0 B S) (f:List Tk->Except Nat ((α × β) × List Tk)) (hf:∀ ts x ts',f ts=.ok (x,ts')->ts'.length<=ts.length) (sep:ByteArray) (hsep:sep≠⟨#[]⟩) (hent:∀ (a:Array Value) (W:World),(callFunc fn a).run Tryz.prog W=.ok (.enter fn a) W)
 (hone:∀ ts acc r W,S ts acc r W->Calls Tryz.prog fn (first++cp) W (kE c X0 S enc acc r W (f ts)))
 (ts:List Tk) (acc:List β) (r:Option Nat) (w:World) (h:S ts acc r w) :
 Calls Tryz.prog F #[.pointer (some ⟨c.g,0,none⟩),.string sep,.func (.func fn) first cp] w (BI c X0 S T n ce acc r w (bg c.line.size f sep ts)):=by
 have HS:=jg hS
 have HF:=jg hf
 have HSEP:=jg hsep
 have HONE:=jg hone
 have H:=jg h
 have hgl:=(hS.pj _ _ _ _ h).lt
 have HNB:=jg (hS.lt _ _ _ _ h)
 have hle3:=(hS.pj _ _ _ _ h).len
 clear hS hf hsep hone h
 obtain ⟨OW,HO⟩:∃ OW:World->Value->List (α × β)->Prop,Hid (∀ W v l,OW W v l=W.ownsRow w.heap.size T n v l.length (l.flatMap fun p=>ce p.1)):=⟨_,fun _ _ _=>rfl⟩
 cases hLI
 case' i=>obtain ⟨i0,hi0,hz0,hz1,hz2⟩:=info_parts wM
 case' s=>obtain ⟨i0,hi0,hz0,hz1,hz2⟩:=info_parts vx
 case' c=>obtain ⟨i0,hi0,hz0,hz1,hz2⟩:=info_parts vv
 all_goals
  go_in
  go_wp2_with fail
  refine (HONE.out ts acc r w H.out).mono ?_
  intro e w1 ho
  obtain ⟨hfr,ho⟩:=ho
  have HFR:=jg hfr
  cases hq:f ts with
  | error n=>
   rw [hq] at ho
   simp only at ho
   subst ho
   have HR:Hid (bg c.line.size f sep ts=.error n):=by unfold bg Hid;rw [hq]
   clear hq hfr
   unfold cm
   go_wp2_with fail
   rw [HR.out]
   exact ⟨HFR.out,rfl⟩
  | ok p=>
   obtain ⟨⟨x,y⟩,ts1⟩:=p
   rw [hq] at ho
   obtain ⟨he,r1,hs1,hr1⟩:=ho
   subst he
   have HL:Hid (bg c.line.size f sep ts=eD c.line.size f sep (ts1.length+1) [(x,y)] ts1):=by unfold bg Hid;rw [hq]
   have HLE:=jg (HF.out ts _ _ hq)
   have HS1:=jg hs1
   have HR1:=jg hr1
   have hwl:=hfr.size
   have hlt1:=(HS.out.lt _ _ _ _ hs1)
   have HLT1:=jg hlt1
   clear hq hs1 hr1 hfr hlt1
   go_wp2_with fail
   have HSB:Hid (∀ o,S ts1 (acc++[y]) r1 (w1.alloc o)):=fun o=>HS.out.keep _ _ _ _ _ none HS1.out (aj (ae _ _)) (fun j hj=>by cases hj)
   have HFB:Hid (∀ o,Fr w (w1.alloc o) (c.g::(X0++r.toList))):=fun o=>HFR.out.trans (Fr.of (X:=[]) (aj (r:=none) (ae _ _)) (fun k hk=>by cases hk)) (fun i hi=>by cases hi)
   have HNE:Hid (∀ k,r1=some k->k≠w1.heap.size):=fun k hk=>by have:=HLT1.out.2 k hk;omega
   clear HS1 HFR
   go_loopg [7] (ts1.length+1) (fun gk v wr=>∃ (ts2:List Tk) (l:List (_ × β)) (r2:Option Nat) (bb cc:Nat),ts2.length<gk/\gk<=ts1.length+1/\l.length+gk<=ts1.length+2/\v=.slice (some ⟨bb,0,none⟩) l.length cc/\OW wr (.slice (some ⟨bb,0,none⟩) l.length cc) l/\S ts2 (acc++l.map (·.2)) r2 wr/\(r2=r\/∃ k,r2=some k/\w.heap.size<=k)/\(∀ k,r2=some k->k≠bb)/\Fr w wr (c.g::(X0++r.toList))/\bg c.line.size f sep ts=eD c.line.size f sep gk l ts2)
   case atStart=>exact ⟨ts1,[(x,y)],r1,w1.heap.size,1,by omega,lR,by simp;omega,rfl,by rw [HO.out];exact World.ownsRow_lit w1 _ 1 hwl (by decide) (by simp),HSB.out _,HR1.out,HNE.out,HFB.out _,HL.out⟩
   case round=>
    obtain ⟨ts2,l,r2,bb,cc,hk,hk2,hk3,rfl,how,hs2,hr2,hne,hfr2,hls⟩:=hrel
    have HK:=jg hk
    rw [HO.out] at how
    have A1:=jg how
    have A2:=jg hs2
    have A3:=jg hr2
    have A4:=jg hne
    have A5:=jg hfr2
    have A6:=jg hls
    have hbw:=(World.ownsRow.lt how bb rfl)
    have HBW:=jg hbw
    have hle4:=HLE.out
    have hl4:l.length<=4096:=by omega
    clear hk how hs2 hr2 hne hfr2 hls hbw HSB HFB HNE hle4
    go_wp2_with fail
    refine (jc c sep ts2 _ (HS.out.pj _ _ _ _ A2.out)).mono ?_
    rintro e w2 ⟨rfl,hg2,hp2⟩
    have B1':=jg (Fr.own A1.out (Fr.of (X:=[c.g]) hg2 (fun k hk=>by cases hk;simp)) (fun k hk=>by cases hk;have:=HBW.out.1;simp;omega))
    have B2:=jg (HS.out.go _ _ _ _ _ _ A2.out hg2 hp2 (by unfold cq;split<;>simp))
    have B5:=jg (A5.out.trans (Fr.of (X:=[c.g]) hg2 (fun k hk=>by cases hk;simp)) (fun i hi=>by simp at hi;simp [hi]))
    have hsz2:=hg2.size
    clear hg2 hp2 A1 A2 A5
    unfold cq at B2 ⊢
    by_cases hx:(hd c.line.size ts2).tx=sep
    ·rw [if_pos hx] at B2
     simp only [if_pos hx]
     cases ts2 with
     | nil=>exact absurd hx.symm HSEP.out
     | cons t ts3=>
      simp only [List.tail_cons] at B2
      have HX:=jg hx
      clear hx
      obtain ⟨n,rfl⟩:∃ n,gk=n+1:=⟨gk-1,by have:=HK.out;simp at this;omega⟩
      have HK3:Hid (ts3.length<n):=by have:=HK.out;simp at this;exact this
      clear HK
      go_wp2_with fail
      refine (HONE.out ts3 _ r2 w2 B2.out).mono ?_
      intro e w3 ho
      obtain ⟨hfr3,ho⟩:=ho
      have C5:=jg (B5.out.trans hfr3 (fun i hi=>by
       simp at hi
       rcases hi with rfl | hi | hi
       ·simp
       ·simp [hi]
       ·rcases A3.out with h | ⟨k,h,h'⟩
        ·left;simp [<-h,hi]
        ·right;rw [h] at hi;cases hi;exact h'))
      have C1:=jg (Fr.own B1'.out hfr3 (fun k hk=>by
       cases hk
       have:=HBW.out.1
       have:=HNB.out.1
       simp
       refine ⟨by omega,fun h=>by have:=HS.out.x0 _ h;omega,fun h=>A4.out bb h rfl⟩))
      have hsz3:=hfr3.size
      cases hq:f ts3 with
      | error n'=>
       rw [hq] at ho
       simp only at ho
       subst ho
       have HR:Hid (bg c.line.size f sep ts=.error n'):=by rw [Hid,A6.out,eD,if_pos HX.out,List.tail_cons,hq]
       clear hq hfr3
       unfold cm
       go_wp2_with fail
       rw [HR.out]
       exact ⟨C5.out,rfl⟩
      | ok p=>
       obtain ⟨⟨x',y'⟩,ts4⟩:=p
       rw [hq] at ho
       obtain ⟨he,r3,hs3,hr3⟩:=ho
       subst he
       have D6:Hid (bg c.line.size f sep ts=eD c.line.size f sep n (l++[(x',y')]) ts4):=by rw [Hid,A6.out,eD,if_pos HX.out,List.tail_cons,hq]
       have hle4:=HF.out ts3 _ _ hq
       have D2:=jg hs3
       have D3:=jg hr3
       have hlt3:=(HS.out.lt _ _ _ _ hs3)
       have HLT3:=jg hlt3
       have hbb3:bb<w3.heap.size:=by have:=HBW.out.2;omega
       clear hq hs3 hr3 hfr3 hlt3 A6
       go_wp2_with (first
        | (at_builtin;refine wpList_append_own_at _ rfl _ _ 31 rfl w.heap.size 3 i0 (.int .i64 0) 1 8 Tryz.underlying31 hi0 hz0 hz1 hz2 rfl (by decide) _ l.length (l.flatMap fun p=>aT p.1) rfl (World.ownsRow.alloc C1.out _) ⟨w3.heap.size,0,none⟩ 1 1 (aT x') rfl rfl ?g1 ?g2 ?g3 ?g4 ?g5 ?_)
        | (at_builtin;refine wpList_append_own_at _ rfl _ _ 40 rfl w.heap.size 9 i0 (.string ⟨#[]⟩) 1 16 Tryz.underlying40 hi0 hz0 hz1 hz2 rfl (by decide) _ l.length (l.flatMap fun p=>bC p.1) rfl (World.ownsRow.alloc C1.out _) ⟨w3.heap.size,0,none⟩ 1 1 (bC x') rfl rfl ?g1 ?g2 ?g3 ?g4 ?g5 ?_)
        | (at_builtin;refine wpList_append_own_at _ rfl _ _ 54 rfl w.heap.size 95 i0 (.agg #[.string ⟨#[]⟩,.int .i64 0]) 2 24 Tryz.underlying54 hi0 hz0 hz1 hz2 rfl (by decide) _ l.length (l.flatMap fun p=>aR p.1) rfl (World.ownsRow.alloc C1.out _) ⟨w3.heap.size,0,none⟩ 1 1 (aR x') rfl rfl ?g1 ?g2 ?g3 ?g4 ?g5 ?_))
       case g1=>
        intro i u hi
        rw [WideShapes.add_plain]
        have hlt:=(List.getElem?_eq_some_iff.1 hi).1
        rw [Nat.zero_add]
        first
         | exact ((aD.new w3 3 1 #[.int .i64 x'] rfl).cell i hlt).trans hi
         | exact ((aD.new w3 9 1 #[.string x'] rfl).cell i hlt).trans hi
         | exact ((aD.new w3 95 2 #[.string x'.nm,.int .i64 x'.k] rfl).cell i hlt).trans hi
       case g2=>intro u hu;simp [aT,bC,aR] at hu;first | (subst hu;rfl) | (rcases hu with rfl | rfl<;>rfl)
       case g3=>unfold maxLen;omega
       case g4=>omega
       case g5=>have:=HBW.out.1;have:=HBW.out.2;simp;omega
       intro v' w5 hown' hgrow _ hat
       have hO5:OW w5 v' (l++[(x',y')]):=by
        rw [HO.out,List.length_append,List.flatMap_append]
        simpa using hown'
       have hgr:w3.grownBy w5 (some bb):=by
        refine ai (aj (ae w3 _)) hgrow
       have hS5:S ts4 (acc++(l++[(x',y')]).map (·.2)) r3 w5:=by
        have:=HS.out.keep _ _ _ _ w5 (some bb) D2.out hgr (fun j hj=>by
         cases hj
         refine ⟨by have:=HBW.out.1;have:=HNB.out.1;omega,?_⟩
         rcases D3.out with h | ⟨k,h,h'⟩
         ·rw [h];exact fun e=>A4.out bb e.symm rfl
         ·rw [h];intro e;have:=sI e;have:=HBW.out.2;omega)
        simpa using this
       have hF5:=C5.out.trans (Fr.of (X:=[bb]) hgr (fun k hk=>by cases hk;simp)) (fun i hi=>by simp at hi;subst hi;right;exact HBW.out.1)
       have hv5:=Es (HO.out _ _ _▸hO5) (by simp) hat
       obtain ⟨b5,c5,rfl,hb5⟩:=hv5
       have E1:=jg hO5
       have E2:=jg hS5
       have E5:=jg hF5
       have HB5:Hid (∀ k,r3=some k->k≠b5):=fun k hk e=>by
        subst e
        rcases hb5 with h | h
        ·subst h
         rcases D3.out with h | ⟨k',h,h'⟩
         ·exact A4.out k (h▸hk) rfl
         ·rw [h] at hk;cases hk;have:=HBW.out.2;omega
        ·have:=HLT3.out.2 k hk
         omega
       have E3:Hid (r3=r\/∃ k,r3=some k/\w.heap.size<=k):=by
        rcases D3.out with h | ⟨k,h,h'⟩
        ·rw [h];exact A3.out
        ·exact .inr ⟨k,h,by have:=HBW.out.1;have:=HBW.out.2;omega⟩
       clear hown' hgrow hat hO5 hgr hS5 hF5 hb5 C1 C5 D2 D3
       go_wp2_with fail
       go_roundg n
       case measure=>omega
       case rel=>exact ⟨ts4,l++[(x',y')],r3,b5,c5,by have:=HK3.out;omega,by omega,by simp;omega,rfl,E1.out,E2.out,E3.out,HB5.out,E5.out,D6.out⟩
    ·rw [if_neg hx] at B2
     simp only [if_neg hx]
     have HX:=jg hx
     clear hx
     obtain ⟨n,rfl⟩:∃ n,gk=n+1:=⟨gk-1,by have:=HK.out;omega⟩
     have HR:Hid (bg c.line.size f sep ts=.ok (l,ts2)):=by rw [Hid,A6.out,eD,if_neg HX.out]
     clear A6 HK
     go_wp2_with fail
     go_ret
     rw [HR.out]
     exact ⟨B5.out,_,r2,rfl,B1'.out,B2.out,A3.out⟩
end Jp
end Go.Proofs.YtiiliobffnhpmaaGreatDoor
