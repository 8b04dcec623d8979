import Derived.Test.YtiiliobffnhpmaaGreatDoorGaj
set_option linter.all false
set_option maxRecDepth 100000
set_option maxHeartbeats 4000000
namespace Go.Proofs.YtiiliobffnhpmaaGreatDoor
section
open Go.RowKit
def lN:Option Nat->Int
 | some i=>i
 | none=>-1
def ap (w:World) (a:Option Addr) (l:List Co):Prop:=∀ i (h:i<l.length),∃ b off,a=some ⟨b,off,none⟩/\w.cell? ⟨b,off+i*2,none⟩=some (.string l[i].nm)/\w.cell? ⟨b,off+i*2+1,none⟩=some (.int .i64 l[i].k)
theorem ap.later {w w':World} {a:Option Addr} {l:List Co} (h:ap w a l) (hb:Below w.heap.size w w'):ap w' a l:=fun i hi=>by
 obtain ⟨b,off,h1,h2,h3⟩:=h i hi
 exact ⟨b,off,h1,af hb h2,af hb h3⟩
theorem tM (nm n2:ByteArray) (k:Int) (b:Nat) (w:World) (h:w.cell? ⟨b,0,none⟩=some (.string nm)) :
 Calls Tryz.prog 216 #[.agg #[.string n2,.int .i64 k],.pointer (some ⟨b,0,none⟩)] w fun e w'=>e=.returned (.bool (decide (n2=nm)))/\Below w.heap.size w w':=by
 have hl:=bL h
 have hl2:=hl
 have hd:(n2.toList==nm.toList)=decide (n2=nm):=by
  by_cases e:n2=nm
  ·rw [BO e,decide_eq_true e]
  ·rw [Cs e,decide_eq_false e]
 go_in
 go_wp2
 go_ret
 exact ⟨rfl,ae _ _⟩
theorem ng (nm:ByteArray) (a:Option Addr) (c:Nat) (l:List Co) (b:Nat) (w:World) (hc:ap w a l) (hm:l.length<=maxLen) (h:w.cell? ⟨b,0,none⟩=some (.string nm)) :
 Calls Tryz.prog 212 #[.slice a l.length c,.func (.func 216) #[] #[.pointer (some ⟨b,0,none⟩)]] w fun e w'=>e=.returned (.int .i64 (lN (ch l nm)))/\Below w.heap.size w w':=by
 have HC:=jg hc
 have HN:=jg h
 have hm':l.length<=9223372036854775807:=hm
 go_in
 go_wp2
 go_loopw [8] (fun i w'=>∃ j:Nat,j<=l.length/\i=.int .i64 j/\Below w.heap.size w w'/\∀ m (hm:m<l.length),m<j->l[m].nm≠nm) (fun i _=>l.length-(intOf i).toNat)
 case atStart=>exact ⟨0,Nat.zero_le _,rfl,bR,fun m _ h=>absurd h (by omega)⟩
 case round=>
  obtain ⟨j,hj,rfl,hb,hno⟩:=hrel
  have HB:=jg hb
  have HNO:=jg hno
  by_cases hlt:j<l.length
  ·have hji:(j:Int)<(l.length:Int):=by omega
   obtain ⟨bb,off,ha,e0,e1⟩:=(HC.out.later HB.out) j hlt
   subst ha
   have hF:=jg (tM nm l[j].nm l[j].k b wr (af HB.out HN.out))
   generalize hK:l[j].nm=NM at *
   generalize l[j].k=KK at *
   have HK:=jg hK
   go_wp2_with fail
   refine hF.out.mono ?_
   rintro e w2 ⟨rfl,hb2⟩
   have HB2:=jg (HB.out.trans (hb2.mono HB.out.size))
   by_cases hq:NM=nm
   ·have hix:ch l nm=some j:=by
     unfold ch
     rw [List.findIdx?_eq_some_iff_getElem]
     refine ⟨hlt,by simp [HK.out,hq],fun m hm=>by simp;exact HNO.out m (by omega) hm⟩
    have HIX:=jg hix
    rw [decide_eq_true hq]
    go_wp2_with fail
    go_ret
    rw [HIX.out]
    exact ⟨rfl,HB2.out⟩
   ·rw [decide_eq_false hq]
    have HQ:=jg hq
    go_wp2_with fail
    exact ⟨⟨j+1,by omega,by go_num,HB2.out,fun m hm hmj=>by
     rcases Nat.lt_or_ge m j with h | h
     ·exact HNO.out m hm h
     ·have:m=j:=by omega
      subst this
      rw [HK.out]
      exact HQ.out⟩,by simp [intOf];omega⟩
  ·obtain rfl:j=l.length:=by omega
   have hix:ch l nm=none:=by
    unfold ch
    rw [List.findIdx?_eq_none_iff]
    intro x hx
    obtain ⟨m,hm,rfl⟩:=List.getElem_of_mem hx
    simp
    exact HNO.out m hm hm
   have HIX:=jg hix
   go_wp2_with fail
   go_ret
   rw [HIX.out]
   exact ⟨rfl,HB.out⟩
theorem dC (nm:ByteArray) (a:Option Addr) (c:Nat) (l:List Co) (w:World) (hc:ap w a l) (hm:l.length<=maxLen) :
 Calls Tryz.prog 188 #[.slice a l.length c,.string nm] w fun e w'=>e=.returned (.int .i64 (lN (ch l nm)))/\Below w.heap.size w w':=by
 have HI:Hid (∀ W,Below w.heap.size w W->W.cell? ⟨w.heap.size,0,none⟩=some (.string nm)->Calls Tryz.prog 212 #[.slice a l.length c,.func (.func 216) #[] #[.pointer (some ⟨w.heap.size,0,none⟩)]] W fun e w'=>e=.returned (.int .i64 (lN (ch l nm)))/\Below W.heap.size W w'):=fun W hW h=>ng nm a c l w.heap.size W (hc.later hW) hm h
 have hmf:=ff
 generalize (lN (ch l nm))=N at *
 go_in
 go_wp2_with fail
 refine (HI.out _ (ae _ _) (by go_simp)).mono ?_
 rintro e w2 ⟨rfl,hb2⟩
 have HB2:=jg ((ae w _).trans (hb2.mono (by simp)))
 go_wp2_with fail
 go_ret
 exact ⟨rfl,HB2.out⟩
def jm (s:ByteArray):Bool:=match s.data.toList with
 | []=>false
 | c::r=>!eS c&&decide (bp (c::r)=(c::r).length)
def pg (s:ByteArray):Bool:=jm s&&!decide (fB s)&&decide (s.size<=12)
theorem xT {s:ByteArray} {c:UInt8} {r:List UInt8} (h:s.data.toList=c::r):jm s=(!eS c&&decide (bp s.data.toList=s.size)):=by
 have hl:s.data.toList.length=s.size:=by simp
 unfold jm
 rw [h] at hl ⊢
 simp only [hl]
theorem tg (s:ByteArray) (w:World) (hs:s.size<=140737488355328) :
 Calls Tryz.prog 173 #[.string s] w fun e w'=>e=.returned (.bool (jm s))/\w'=w:=by
 have HW:Hid (∀ W,Calls Tryz.prog 127 #[.string s] W fun e w'=>e=.returned (.int .i64 (bp s.data.toList))/\w'=W):=fun W=>kU s W hs
 have hlen:s.data.toList.length=s.size:=by simp
 by_cases h0:s.size=0
 ·have he:s=⟨#[]⟩:=by
   apply ByteArray.ext
   apply Array.toList_inj.1
   exact List.eq_nil_of_length_eq_zero (by omega)
  subst he
  have HX:Hid (jm ⟨#[]⟩=false):=rfl
  go_in
  go_wp2
  go_ret
  exact ⟨qz HX.out.symm,rfl⟩
 ·have h1:0<s.size:=by omega
  have h1i:(0:Int)<(s.size:Int):=by omega
  have hcons:s.data.toList=s[0]::s.data.toList.drop 1:=by
   have e0:s.data.toList[0]'(by omega)=s[0]:=by simp [ByteArray.getElem_eq_getElem_data]
   rw [<-e0]
   have:=List.drop_eq_getElem_cons (l:=s.data.toList) (i:=0) (by omega)
   simpa using this
  have HX:=jg (xT hcons)
  have HD:Hid (∀ W,Calls Tryz.prog 126 #[.int .u8 s[0].toNat] W fun e w'=>e=.returned (.bool (eS s[0]))/\w'=W):=fun W=>iI s[0] W
  have hem:s.toList.isEmpty=false:=by
   rw [ByteArray.toList_eq]
   cases hq:s.data.toList with
   | nil=>rw [hq] at hlen;simp at hlen;omega
   | cons=>rfl
  have hne:¬ s=⟨#[]⟩:=fun e=>by rw [e] at h1;exact absurd h1 (by decide)
  have hnl:=ni hne
  have hd2:(((bp s.data.toList:Nat):Int)==(s.size:Int))=decide (bp s.data.toList=s.size):=by rw [Bool.eq_iff_iff];simp;omega
  generalize decide (bp s.data.toList=s.size)=D at *
  generalize ((bp s.data.toList:Nat):Int)=N at *
  cases hdg:eS s[0]
  ·rw [hdg] at HX HD
   go_in
   go_wp2_with fail
   refine (HD.out _).mono ?_
   rintro e w1 ⟨rfl,h⟩
   have:=h.symm;subst this
   go_wp2_with fail
   refine (HW.out _).mono ?_
   rintro e w1 ⟨rfl,h⟩
   have:=h.symm;subst this
   go_wp2_with fail
   go_ret
   exact ⟨qz (by rw [HX.out];rfl),rfl⟩
  ·rw [hdg] at HX HD
   go_in
   go_wp2_with fail
   refine (HD.out _).mono ?_
   rintro e w1 ⟨rfl,h⟩
   have:=h.symm;subst this
   go_wp2_with fail
   go_ret
   exact ⟨qz (by rw [HX.out];rfl),rfl⟩
theorem rB (s:ByteArray) (w:World) (hs:s.size<=140737488355328) :
 Calls Tryz.prog 137 #[.string s] w fun e w'=>e=.returned (.bool (pg s))/\w'=w:=by
 have HW:Hid (∀ W,Calls Tryz.prog 173 #[.string s] W fun e w'=>e=.returned (.bool (jm s))/\w'=W):=fun W=>tg s W hs
 have HR:Hid (∀ W,Calls Tryz.prog 174 #[.string s] W fun e w'=>e=.returned (.bool (decide (fB s)))/\w'=W):=fun W=>fe s W
 have HX:Hid (pg s=(jm s&&!decide (fB s)&&decide (s.size<=12))):=rfl
 have hd2:decide ((s.size:Int)<=12)=decide (s.size<=12):=by rw [Bool.eq_iff_iff];simp;omega
 generalize hA:jm s=A at *
 generalize hB:decide (fB s)=B at *
 generalize hC:decide (s.size<=12)=C at *
 cases A
 ·go_in
  go_wp2_with fail
  refine (HW.out _).mono ?_
  rintro e w1 ⟨rfl,h⟩
  have:=h.symm;subst this
  go_wp2_with fail
  go_ret
  exact ⟨qz (by rw [HX.out];rfl),rfl⟩
 ·cases B
  all_goals
   go_in
   go_wp2_with fail
   refine (HW.out _).mono ?_
   rintro e w1 ⟨rfl,h⟩
   have:=h.symm;subst this
   go_wp2_with fail
   refine (HR.out _).mono ?_
   rintro e w1 ⟨rfl,h⟩
   have:=h.symm;subst this
   go_wp2_with fail
   go_ret
   exact ⟨qz (by rw [HX.out];rfl),rfl⟩
def nt (l:List Co) (i:Nat) (c:Co):Prop:=pg c.nm=true/\ch l c.nm=some i/\(c.k=1\/c.k=2\/c.k=3)
instance (l:List Co) (i:Nat) (c:Co):Decidable (nt l i c):=by unfold nt;infer_instance
def bP (l:List Co):Prop:=l.length<=8/\∀ i (h:i<l.length),nt l i l[i]
theorem BR (o:Option Nat) (i:Nat):(lN o==(i:Int))=decide (o=some i):=by
 cases o with
 | none=>rw [Bool.eq_iff_iff];simp [lN];try omega
 | some j=>rw [Bool.eq_iff_iff];simp [lN];try omega
def zP (w:World) (l:List Co) (e:Ending) (w':World):Prop:=(∃ r,e=.returned (.bool r)/\(r=true↔bP l))/\Below w.heap.size w w'
theorem iQ (a:Option Addr) (c:Nat) (l:List Co) (w:World) (hc:ap w a l) (hm:l.length<=maxLen) (hz:∀ x∈l,x.nm.size<=140737488355328) :
 Calls Tryz.prog 147 #[.slice a l.length c] w (zP w l):=by
 by_cases h8:8<l.length
 ·have h8i:(8:Int)<(l.length:Int):=by omega
  have FIN:Hid (false=true↔bP l):=⟨fun h=>(by cases h),fun h=>by have:=h.1;omega⟩
  go_in
  go_wp2
  go_ret
  exact ⟨⟨_,rfl,FIN.out⟩,bR⟩
 ·have h8i:¬ (8:Int)<(l.length:Int):=by omega
  have h8':l.length<=8:=by omega
  have HC:=jg hc
  have HP:Hid (∀ nm W,Below w.heap.size w W->Calls Tryz.prog 188 #[.slice a l.length c,.string nm] W fun e w'=>e=.returned (.int .i64 (lN (ch l nm)))/\Below W.heap.size W w'):=fun nm W hW=>dC nm a c l W (hc.later hW) hm
  have HN:Hid (∀ x∈l,∀ W,Calls Tryz.prog 137 #[.string x.nm] W fun e w'=>e=.returned (.bool (pg x.nm))/\w'=W):=fun x hx W=>rB x.nm W (hz x hx)
  go_in
  go_wp2
  go_loopw [10] (fun i w'=>∃ j:Nat,j<=l.length/\i=.int .i64 j/\Below w.heap.size w w'/\∀ m (hm:m<l.length),m<j->nt l m l[m]) (fun i _=>l.length-(intOf i).toNat)
  case atStart=>exact ⟨0,Nat.zero_le _,rfl,bR,fun m _ h=>absurd h (by omega)⟩
  case round=>
   obtain ⟨j,hj,rfl,hb,hno⟩:=hrel
   have HB:=jg hb
   have HNO:=jg hno
   by_cases hlt:j<l.length
   ·have hji:(j:Int)<(l.length:Int):=by omega
    obtain ⟨bb,off,ha,e0,e1⟩:=(HC.out.later HB.out) j hlt
    subst ha
    have hbbl:=bL e0
    have HN1:=jg (HN.out l[j] (List.getElem_mem hlt))
    have BAD:Hid (¬ nt l j l[j]->(false=true↔bP l)):=fun h=>⟨fun h=>(by cases h),fun h'=>absurd (h'.2 j hlt) h⟩
    have GOOD:Hid (nt l j l[j]->∀ m (hm:m<l.length),m<j+1->nt l m l[m]):=fun h m hm hmj=>by
     rcases Nat.lt_or_ge m j with h' | h'
     ·exact HNO.out m hm h'
     ·have:m=j:=by omega
      subst this
      exact h
    have HX:Hid (nt l j l[j]↔pg l[j].nm=true/\ch l l[j].nm=some j/\(l[j].k=1\/l[j].k=2\/l[j].k=3)):=Iff.rfl
    generalize l[j].nm=NM at *
    generalize l[j].k=KK at *
    generalize nt l j l[j]=CX at *
    cases hnm:pg NM
    ·have hbad:¬ CX:=fun h=>by have:=(HX.out.1 h).1;rw [hnm] at this;cases this
     have FB:=jg (BAD.out hbad)
     rw [hnm] at HN1
     go_wp2_with fail
     refine (HN1.out _).mono ?_
     rintro e w2 ⟨rfl,h⟩
     have:=h.symm;subst this
     go_wp2_with fail
     go_ret
     exact ⟨⟨_,rfl,FB.out⟩,HB.out.trans ((ae _ _).mono HB.out.size)⟩
    ·rw [hnm] at HN1
     go_wp2_with fail
     refine (HN1.out _).mono ?_
     rintro e w2 ⟨rfl,h⟩
     have:=h.symm;subst this
     go_wp2_with fail
     refine (HP.out NM _ (HB.out.trans ((ae _ _).mono HB.out.size))).mono ?_
     rintro e w3 ⟨rfl,hb3⟩
     have k0:w3.cell? ⟨wr.heap.size,0,none⟩=some (.string NM):=af hb3 (by go_simp)
     have k1:w3.cell? ⟨wr.heap.size,1,none⟩=some (.int .i64 KK):=af hb3 (by go_simp)
     have HB3:=jg ((HB.out.trans ((ae _ _).mono HB.out.size)).trans (hb3.mono (by have:=HB.out.size;simp;omega)))
     have hix:=BR (ch l NM) j
     generalize lN (ch l NM)=NI at *
     by_cases hcx:ch l NM=some j
     ·have hix2:(NI==(j:Int))=true:=by rw [hix,decide_eq_true hcx]
      have hix3:(NI != (j:Int))=false:=by rw [bne,hix2];rfl
      by_cases q1:KK=1
      ·have g1:(KK != 1)=false:=by rw [q1];rfl
       have g1':(KK==1)=true:=by rw [q1];rfl
       have FG:=jg (GOOD.out (HX.out.2 ⟨hnm,hcx,.inl q1⟩))
       go_wp2_with fail
       exact ⟨⟨j+1,by omega,by go_num,HB3.out,FG.out⟩,by simp [intOf];omega⟩
      have g1:(KK != 1)=true:=by rw [bne_iff_ne];exact q1
      have g1':(KK==1)=false:=by rw [beq_eq_false_iff_ne];exact q1
      by_cases q2:KK=2
      ·have g2:(KK != 2)=false:=by rw [q2];rfl
       have g2':(KK==2)=true:=by rw [q2];rfl
       have FG:=jg (GOOD.out (HX.out.2 ⟨hnm,hcx,.inr (.inl q2)⟩))
       go_wp2_with fail
       exact ⟨⟨j+1,by omega,by go_num,HB3.out,FG.out⟩,by simp [intOf];omega⟩
      have g2:(KK != 2)=true:=by rw [bne_iff_ne];exact q2
      have g2':(KK==2)=false:=by rw [beq_eq_false_iff_ne];exact q2
      by_cases q3:KK=3
      ·have g3:(KK != 3)=false:=by rw [q3];rfl
       have g3':(KK==3)=true:=by rw [q3];rfl
       have FG:=jg (GOOD.out (HX.out.2 ⟨hnm,hcx,.inr (.inr q3)⟩))
       go_wp2_with fail
       exact ⟨⟨j+1,by omega,by go_num,HB3.out,FG.out⟩,by simp [intOf];omega⟩
      have g3:(KK != 3)=true:=by rw [bne_iff_ne];exact q3
      have g3':(KK==3)=false:=by rw [beq_eq_false_iff_ne];exact q3
      have FB:=jg (BAD.out (fun h=>by rcases (HX.out.1 h).2.2 with h | h | h<;>contradiction))
      go_wp2_with fail
      go_ret
      exact ⟨⟨_,rfl,FB.out⟩,HB3.out⟩
     ·have hix2:(NI==(j:Int))=false:=by rw [hix,decide_eq_false hcx]
      have hix3:(NI != (j:Int))=true:=by rw [bne,hix2];rfl
      have FB:=jg (BAD.out (fun h=>hcx (HX.out.1 h).2.1))
      go_wp2_with fail
      go_ret
      exact ⟨⟨_,rfl,FB.out⟩,HB3.out⟩
   ·obtain rfl:j=l.length:=by omega
    have FG:Hid (true=true↔bP l):=⟨fun _=>⟨h8',fun m hm=>HNO.out m hm hm⟩,fun _=>rfl⟩
    go_wp2_with fail
    go_ret
    exact ⟨⟨_,rfl,⟨fun _=>FG.out.1 (by trivial),fun _=>rfl⟩⟩,HB.out⟩
end
section
open Go.RowKit Go.Maps Go.WideShapes
def gD (v:Value):Option (DataW Value × List MemPlace):=some (.held v,[])
structure fa (P:Program) (k:TypeId) (κ:Type) where
 kv:κ->Value
 kl:κ->Lit
 ok:κ->Prop
 key:∀ x,ok x->keyOf P k (kv x)=some (kl x)
 inj:∀ x y,ok x->ok y->kl x=kl y->x=y
variable {P:Program} {k:TypeId} {κ:Type} [DecidableEq κ]
def oV (kd:fa P k κ) (m:List (κ × Value)):List (Lit × DataW Value):=m.map fun p=>(kd.kl p.1,.held p.2)
def MP (w:World) (kd:fa P k κ) (b:Nat) (m:List (κ × Value)):Prop:=
 ∃ es,w.ownsMap P k gD b m.length (.map es)/\es.Perm (oV kd m)/\(∀ p∈m,kd.ok p.1)/\(m.map (·.1)).Nodup
def pU (m:List (κ × Value)) (x:κ):Option Value:=(m.find? fun p=>decide (p.1=x)).map (·.2)
def wR (m:List (κ × Value)) (x:κ):List (κ × Value):=m.filter fun p=>!decide (p.1=x)
def put (m:List (κ × Value)) (x:κ) (v:Value):List (κ × Value):=if x∈m.map (·.1) then m.map (fun p=>if p.1=x then (x,v) else p) else m++[(x,v)]
theorem yC {m:List (κ × Value)} {x:κ}:pU m x=none↔x∉m.map (·.1):=by
 simp only [pU,Option.map_eq_none_iff,List.find?_eq_none,List.mem_map,not_exists,not_and,decide_eq_true_eq]
theorem uE {m:List (κ × Value)} {x:κ} {v:Value} (h:pU m x=some v):(x,v)∈m:=by
 unfold pU at h
 obtain ⟨p,hp,rfl⟩:=Option.map_eq_some_iff.1 h
 have h1:=List.mem_of_find?_eq_some hp
 have h2:=List.find?_some hp
 simp only [decide_eq_true_eq] at h2
 rw [<-h2];exact h1
theorem pz {m:List (κ × Value)} {x:κ} {v:Value} (hn:(m.map (·.1)).Nodup) (h:(x,v)∈m):pU m x=some v:=by
 induction m with
 | nil=>cases h
 | cons p m ih=>
  simp only [List.map_cons,List.nodup_cons] at hn
  unfold pU
  rw [List.find?_cons]
  by_cases hp:p.1=x
  ·simp only [hp,decide_true,Option.map_some]
   rcases List.mem_cons.1 h with rfl | h
   ·rfl
   ·exact absurd (List.mem_map.2 ⟨_,h,rfl⟩) (hp▸hn.1)
  ·simp only [hp,decide_false]
   rcases List.mem_cons.1 h with rfl | h
   ·exact absurd rfl hp
   ·exact ih hn.2 h
theorem ml {m:List (κ × Value)} (x:κ) (v:Value) (hn:(m.map (·.1)).Nodup):(put m x v).Perm ((x,v)::wR m x):=by
 unfold put
 split
 ·rename_i h
  induction m with
  | nil=>simp at h
  | cons p m ih=>
   simp only [List.map_cons,List.nodup_cons,List.mem_cons] at hn h
   by_cases hp:p.1=x
   ·have hx:=hp▸hn.1
    have e1:m.map (fun p=>if p.1=x then (x,v) else p)=m:=by
     refine (List.map_congr_left fun q hq=>?_).trans (List.map_id m)
     exact if_neg fun e=>hx (List.mem_map.2 ⟨q,hq,e⟩)
    have e2:wR m x=m:=List.filter_eq_self.2 fun q hq=>by
     simp only [Bool.not_eq_true',decide_eq_false_iff_not]
     exact fun e=>hx (List.mem_map.2 ⟨q,hq,e⟩)
    have e3:wR (p::m) x=m:=by unfold wR;rw [List.filter_cons];simp only [hp,decide_true];exact e2
    rw [e3,List.map_cons,if_pos hp,e1]
   ·have hm:x∈m.map (·.1):=by
     rcases h with h | h
     ·exact absurd h.symm hp
     ·exact h
    have e3:wR (p::m) x=p::wR m x:=by unfold wR;rw [List.filter_cons];simp [hp]
    rw [e3,List.map_cons,if_neg hp]
    exact ((ih hn.2 hm).cons p).trans (List.Perm.swap _ _ _)
 ·rename_i h
  have e2:wR m x=m:=List.filter_eq_self.2 fun q hq=>by
   simp only [Bool.not_eq_true',decide_eq_false_iff_not]
   exact fun e=>h (List.mem_map.2 ⟨q,hq,e⟩)
  rw [e2]
  exact List.perm_append_singleton _ _
theorem vU {m:List (κ × Value)} (x:κ) (hn:(m.map (·.1)).Nodup):((wR m x).map (·.1)).Nodup:=hn.sublist ((List.filter_sublist).map _)
theorem wA {m:List (κ × Value)} (x:κ):x∉(wR m x).map (·.1):=by
 intro h
 obtain ⟨q,hq,e⟩:=List.mem_map.1 h
 have:=(List.mem_filter.1 hq).2
 simp [e] at this
theorem wj {m:List (κ × Value)} (x:κ) (v:Value) (hn:(m.map (·.1)).Nodup):((put m x v).map (·.1)).Nodup:=by
 rw [((ml x v hn).map _).nodup_iff]
 exact List.nodup_cons.2 ⟨wA x,vU x hn⟩
section
variable {kd:fa P k κ} {w:World} {b:Nat} {m:List (κ × Value)}
theorem MP.made (w:World) (kd:fa P k κ):MP (w.alloc (.map #[] 0)) kd w.heap.size []:=
 ⟨[],World.ownsMap_made w P k gD,List.Perm.refl _,(fun p hp=>by cases hp),List.nodup_nil⟩
theorem MP.kept {w':World} {row:Option Nat} (h:MP w kd b m) (hg:w.grownBy w' row) (hne:some b≠row):MP w' kd b m:=by
 obtain ⟨es,h1,h2⟩:=h
 exact ⟨es,h1.kept hg hne,h2⟩
theorem pG {es:List (Lit × DataW Value)} (K:Keyed P k) (hes:es.Perm (oV kd m)) (hok:∀ p∈m,kd.ok p.1) (hn:(m.map (·.1)).Nodup) {x:κ} (hx:kd.ok x):es.find? (fun p=>p.1.sameKey (kd.kl x))=(pU m x).map fun v=>(kd.kl x,.held v):=by
 cases hf:pU m x with
 | none=>
  refine List.find?_eq_none.2 fun p hp=>?_
  obtain ⟨q,hq,rfl⟩:=List.mem_map.1 (hes.mem_iff.1 hp)
  have hne:q.1≠x:=fun e=>yC.1 hf (List.mem_map.2 ⟨q,hq,e⟩)
  rw [sameKey_ne fun e=>hne (kd.inj _ _ (hok q hq) hx e)]
  decide
 | some v=>
  have hm:=hes.mem_iff.2 (List.mem_map.2 ⟨(x,v),uE hf,rfl⟩)
  have hs:es.find? (fun p=>p.1.sameKey (kd.kl x))≠none:=fun h=>by
   have:=List.find?_eq_none.1 h _ hm
   exact this (WideAt.sameKey_self (K.key (kd.key x hx)))
  cases hy:es.find? (fun p=>p.1.sameKey (kd.kl x)) with
  | none=>exact absurd hy hs
  | some y=>
   obtain ⟨q,hq,rfl⟩:=List.mem_map.1 (hes.mem_iff.1 (List.mem_of_find?_eq_some hy))
   have h0:=List.find?_some hy
   have h1:=WideAt.sameKey_eq h0
   have h2:=kd.inj _ _ (hok q hq) hx h1
   have h3:pU m x=some q.2:=pz hn (h2▸hq)
   rw [hf] at h3
   rw [Option.map_some,sI h3,<-h2]
theorem MP.look (h:MP w kd b m) (K:Keyed P k) {t e:TypeId} (ht:P.underlying t=some (.map k e)) {z:Value} (hz:(zeroValue e).run P w=.ok z w) (x:κ) (hx:kd.ok x) :
 (Instr.lookup t (.map (some b)) (kd.kv x) true).run P w=.ok (.tuple #[(pU m x).getD z,.bool (pU m x).isSome]) w:=by
 obtain ⟨es,h1,h2,h3,h4⟩:=h
 obtain ⟨v,ps,hrun,hv⟩:=h1.look_ok K ht hz (zd:=.held z) (zp:=[]) rfl (kd.key x hx)
 have hf:=pG K h2 h3 h4 hx
 have e1:has (DataW.map es) (kd.kl x)=(pU m x).isSome:=by
  rw [has_eq,Bool.eq_iff_iff,List.any_eq_true,<-List.find?_isSome,hf,Option.isSome_map]
 have e2:(DataW.map es).atKey (kd.kl x) (.held z)=.held ((pU m x).getD z):=by
  simp only [DataW.atKey,hf]
  cases pU m x<;>rfl
 rw [e2] at hv
 simp only [gD,Option.some.injEq,Prod.mk.injEq,DataW.held.injEq] at hv
 rw [hrun,e1,hv.1]
theorem wL (es:List (Lit × DataW Value)) (K:Keyed P k) (hes:es.Perm (oV kd m)) (hok:∀ p∈m,kd.ok p.1) {x:κ} (hx:kd.ok x):(es.filter fun p=>!p.1.sameKey (kd.kl x)).Perm (oV kd (wR m x)):=by
 refine (hes.filter _).trans ?_
 unfold oV wR
 rw [List.filter_map]
 refine (List.Perm.of_eq ?_)
 congr 1
 refine List.filter_congr fun q hq=>?_
 simp only [Function.comp]
 by_cases e:q.1=x
 ·simp [e,WideAt.sameKey_self (K.key (kd.key x hx))]
 ·simp [e,sameKey_ne fun e'=>e (kd.inj _ _ (hok q hq) hx e')]
theorem sX {n:Nat} {es:List (Lit × DataW Value)} (h:w.ownsMap P k gD b n (.map es)):w.ownsMap P k gD b es.length (.map es):=by
 obtain ⟨a,c,h1,h2,h3,h4⟩:=h
 refine ⟨a,c,h1,h2,?_,h4⟩
 injection h4 with h4
 rw [h4,length_sorted];simp
theorem MP.store (h:MP w kd b m) (K:Keyed P k) {t e:TypeId} (ht:P.underlying t=some (.map k e)) (x:κ) (hx:kd.ok x) (v:Value) (hn:m.length<maxLen) :
 ∃ w',(Instr.mapUpdate t (.map (some b)) (kd.kv x) v).run P w=.ok () w'/\MP w' kd b (put m x v)/\w.mapTurned w' b:=by
 obtain ⟨es,h1,h2,h3,h4⟩:=h
 obtain ⟨w',hrun,ho,ht'⟩:=h1.store K ht hn (kd.key x hx) (val:=v) (d:=.held v) (ps:=[]) rfl
 refine ⟨w',hrun,?_,ht'⟩
 have hp:(DataW.insert (kd.kl x,.held v) (es.filter fun p=>!p.1.sameKey (kd.kl x))).Perm (oV kd (put m x v)):=by
  refine (insert_perm _ _).trans (((wL es K h2 h3 hx).cons _).trans ?_)
  exact ((ml x v h4).map (fun p=>(kd.kl p.1,DataW.held p.2))).symm
 have ho':=sX (es:=DataW.insert (kd.kl x,.held v) (es.filter fun p=>!p.1.sameKey (kd.kl x))) ho
 refine ⟨_,?_,hp,?_,wj x v h4⟩
 ·rw [hp.length_eq] at ho';unfold oV at ho';rw [List.length_map] at ho';exact ho'
 ·intro p hp'
  rcases List.mem_cons.1 ((ml x v h4).mem_iff.1 hp') with rfl | hp'
  ·exact hx
  ·exact h3 p (List.mem_filter.1 hp').1
end
def CZ {P:Program} {k:TypeId} (hk:P.underlying k=some .string):fa P k ByteArray where
 kv s:=.string s
 kl s:=.string s.data.toList
 ok s:=s.size<=maxLen
 key s hs:=by simp [keyOf,hk,mapKey,hs]
 inj x y _ _ h:=by
  injection h with h
  cases x;cases y
  simp only at h
  congr 1
  exact Array.toList_inj.1 h
end
section
open Go
section
variable {P:Program} {md:Region.Mode} {ops:Array Oper} {C:World->Prop} {K:Nat}
def oW (K:Nat) (listed:Array Bool):Prop:=∀ i,i<K->listed.getD i true=true
def qA (md:Region.Mode) (ops:Array Oper) (listed:Array Bool):Prop:=∀ j o,ops[j]?=some o->listed.getD j false=true->∀ e∈o.after,Region.binds md e=true->listed.getD e.on false=true
open Classical in
noncomputable def wpAnyH (P:Program) (md:Region.Mode) (ops:Array Oper) (C:World->Prop) (K:Nat) (T:Array Bool->Act->Prop):Nat->Array Bool->Act->Prop
 | 0,listed,a=>oW K listed/\T listed a
 | fuel+1,listed,a=>if oW K listed then T listed a else Region.ready md ops listed≠[]/\∀ i∈Region.ready md ops listed,qOp P ops C i (wpAnyH P md ops C K T fuel (listed.setIfInBounds i true)) a
theorem lZ {Q:Exit->Act->World->Prop}:∀ (fuel:Nat) (listed:Array Bool) (a:Act) (w:World),wpAny P md ops Q fuel listed a w->wpAny P md ops Q (fuel+1) listed a w
 | 0,_,_,_,h=>⟨fun _=>h.2,fun i hi=>by rw [h.1] at hi;cases hi⟩
 | fuel+1,_,_,_,h=>⟨h.1,fun i hi=>wpOp_mono (fun a w=>lZ fuel _ a w) (h.2 i hi)⟩
theorem my {Q:Exit->Act->World->Prop} {F:Nat} {listed:Array Bool} {a:Act} {w:World} (h:wpAny P md ops Q F listed a w):∀ n,wpAny P md ops Q (n+F) listed a w
 | 0=>by rw [Nat.zero_add];exact h
 | n+1=>by rw [Nat.add_right_comm];exact lZ _ _ _ _ (my h n)
theorem js {Q:Exit->Act->World->Prop} {F:Nat}:∀ (n:Nat) (listed:Array Bool) (a:Act) (w:World),C w->
 wpAnyH P md ops C K (fun l a=>∀ w,C w->wpAny P md ops Q F l a w) n listed a->wpAny P md ops Q (n+F) listed a w
 | 0,_,_,_,hw,h=>by rw [Nat.zero_add];exact h.2 _ hw
 | n+1,listed,a,w,hw,h=>by
  unfold wpAnyH at h
  split at h
  ·exact my (h w hw) _
  ·rw [Nat.add_right_comm]
   exact ⟨fun h0=>absurd h0 h.1,fun i hi=>wpOp_of_qOp hw (fun a' w' hw' hh=>js n _ a' w' hw' hh) (h.2 i hi)⟩
theorem qA.put {listed:Array Bool} {i:Nat} (h:qA md ops listed) (hi:i∈Region.ready md ops listed):qA md ops (listed.setIfInBounds i true):=by
 intro j o ho hj e he hb
 by_cases hji:i=j
 ·subst hji
  obtain ⟨_,o',ho',hall⟩:=mem_ready.1 hi
  rw [ho] at ho'
  cases ho'
  exact getD_set_true (hall e he hb)
 ·rw [getD_set_ne false hji] at hj
  exact getD_set_true (h j o ho hj e he hb)
def sE (md:Region.Mode) (ops:Array Oper) (K:Nat):Prop:=∀ listed:Array Bool,qA md ops listed->∀ j,K<=j->j∈Region.ready md ops listed->∀ i,i<K->listed.getD i false=true
theorem mz {listed:Array Bool} {i:Nat} (h:listed.getD i true=false):listed.getD i false=false:=by
 rcases Nat.lt_or_ge i listed.size with h' | h'
 ·simp [h'] at h ⊢;exact h
 ·simp [Array.getElem?_eq_none h'] at h
theorem pC {T:Array Bool->Act->Prop} {i:Nat} {oi:Oper} {v:Value} (hi:ops[i]?=some oi) (hsel:∀ (j:Nat) (o:Oper) cs b,ops[j]?=some o->o.op≠.select cs b) (hiK:i<K) (hbl:sE md ops K) :
 ∀ (fuel:Nat) (listed:Array Bool) (a:Act),qA md ops listed->
  (∀ j oj,ops[j]?=some oj->j≠i->listed.getD j true=false->(∀ e∈oj.after,Region.binds md e=true->e.on≠i)->oi.apart ops oj=true)->
  i∈Region.ready md ops listed->YieldsIn P ops C oi v a->
  wpAnyH P md ops C K T fuel (listed.setIfInBounds i true) (a.put oi.dst v)->wpAnyH P md ops C K T (fuel+1) listed a:=by
 intro fuel
 induction fuel with
 | zero=>
  intro listed a hd _ hr hy H
  have hiu:=(mem_ready.1 hr).1
  unfold wpAnyH
  rw [if_neg (fun h=>by have:=h i hiK;rw [hiu] at this;cases this)]
  refine ⟨fun h=>(by rw [h] at hr;cases hr),fun j hj=>?_⟩
  by_cases hji:j=i
  ·subst hji;exact hy.qOp hi H
  ·have hju:=(mem_ready.1 hj).1
   rcases Nat.lt_or_ge j K with hjK | hjK
   ·have:=H.1 j hjK
    rw [getD_set_ne true (Ne.symm hji),hju] at this
    cases this
   ·have:=hbl listed hd j hjK hj i hiK
    rw [mz hiu] at this
    cases this
 | succ fuel ih=>
  intro listed a hd hfree hr hy H
  have hiu:=(mem_ready.1 hr).1
  have H0:=H
  unfold wpAnyH
  rw [if_neg (fun h=>by have:=h i hiK;rw [hiu] at this;cases this)]
  refine ⟨fun h=>(by rw [h] at hr;cases hr),fun j hj=>?_⟩
  by_cases hji:j=i
  ·subst hji;exact hy.qOp hi H0
  ·have hju:=(mem_ready.1 hj).1
   rcases Nat.lt_or_ge j K with hjK | hjK
   ·unfold wpAnyH at H
    rw [if_neg (fun h=>by have:=h j hjK;rw [getD_set_ne true (Ne.symm hji),hju] at this;cases this)] at H
    have h1:=H.2 j (ready_mono hj hji)
    obtain ⟨hjun,oj,hoj,hall⟩:=mem_ready.1 hj
    have hnot:∀ e∈oj.after,Region.binds md e=true->e.on≠i:=fun e he hb heq=>by
     have h1:=hall e he hb
     rw [heq,mz hiu] at h1
     cases h1
    have h2:=qOp_put hoj (hfree j oj hoj hji hjun hnot) (fun cs b=>hsel i oi cs b hi) (fun cs b=>hsel j oj cs b hoj) hy h1
    have hfree':∀ k ok,ops[k]?=some ok->k≠i->(listed.setIfInBounds j true).getD k true=false->
     (∀ e∈ok.after,Region.binds md e=true->e.on≠i)->oi.apart ops ok=true:=fun k ok hk hki hun hno=>by
     refine hfree k ok hk hki ?_ hno
     by_cases hjk:j=k
     ·subst hjk;exact hjun
     ·rw [getD_set_ne true hjk] at hun;exact hun
    refine qOp_mono (fun a' h3=>ih (listed.setIfInBounds j true) a' (hd.put hj) hfree' (ready_mono hr (Ne.symm hji)) h3.1 ?_) h2
    rw [Array.setIfInBounds_comm _ _ hji]
    exact h3.2
   ·have:=hbl listed hd j hjK hj i hiK
    rw [mz hiu] at this
    cases this
def lO (md:Region.Mode) (ops:Array Oper):Nat->Nat->Array Bool->Bool
 | 0,_,_=>true
 | n+1,k,listed=>(Region.ready md ops listed).contains k&&Region.free md ops listed k&&lO md ops n (k+1) (listed.setIfInBounds k true)
def gr:Nat->Nat->Array Bool->Array Bool
 | 0,_,listed=>listed
 | n+1,k,listed=>gr n (k+1) (listed.setIfInBounds k true)
theorem mg {T:Array Bool->Act->Prop} (hs:Region.noSelect ops=true) (hbl:sE md ops K):∀ (l:List Oper) (k:Nat) (listed:Array Bool) (a:Act),k+l.length=K->qA md ops listed->(∀ j,j<l.length->l[j]?=ops[k+j]?)->oW K (gr l.length k listed)->
 lO md ops l.length k listed=true->wpQuiet P ops C (fun a'=>T (gr l.length k listed) a') l a->wpAnyH P md ops C K T l.length listed a
 | [],_,listed,_,_,_,_,hall,_,h=>⟨hall,h⟩
 | o::l,k,listed,a,hk,hd,hl,hall,hB,h=>by
  have h0:ops[k]?=some o:=by simpa using (hl 0 (by simp)).symm
  simp only [List.length_cons,lO,Bool.and_eq_true] at hB
  obtain ⟨⟨hr,hf⟩,hB'⟩:=hB
  have hr':k∈Region.ready md ops listed:=by simpa using hr
  have hst:qOp P ops C k (wpQuiet P ops C (fun a'=>T (gr l.length (k+1) (listed.setIfInBounds k true)) a') l) a:=by unfold qOp;simp only [h0];exact h
  obtain ⟨v,hy,hK⟩:=yieldsIn_of_qOp h0 hst
  exact pC h0 (Region.noSelect_spec hs) (by simp only [List.length_cons] at hk;omega) hbl l.length listed a hd (Region.free_spec h0 hf) hr' hy
   (mg hs hbl l (k+1) _ _ (by simp only [List.length_cons] at hk;omega) (hd.put hr') (fun j hj=>by have:=hl (j+1) (by simp;omega);simpa [Nat.add_assoc,Nat.add_comm 1 j] using this) hall hB' hK)
def rG (md:Region.Mode) (ops:Array Oper):Nat->Nat->List Nat
 | 0,_=>[]
 | n+1,j=>match ops[j]? with
  | none=>[]
  | some o=>(o.after.toList.filter fun e=>Region.binds md e).flatMap fun e=>e.on::rG md ops n e.on
def um (md:Region.Mode) (ops:Array Oper) (K n:Nat):Bool:=(List.range ops.size).all fun j=>decide (j<K)||(List.range K).all fun i=>(rG md ops n j).contains i
theorem mw {listed:Array Bool} (hd:qA md ops listed):∀ (n j:Nat) (o:Oper),ops[j]?=some o->(∀ e∈o.after,Region.binds md e=true->listed.getD e.on false=true)->∀ i∈rG md ops n j,listed.getD i false=true
 | 0,_,_,_,_,i,hi=>by cases hi
 | n+1,j,o,ho,hall,i,hi=>by
  simp only [rG,ho,List.mem_flatMap,List.mem_filter,List.mem_cons] at hi
  obtain ⟨e,⟨he,hb⟩,hi⟩:=hi
  have h1:=hall e (by simpa using he) hb
  rcases hi with rfl | hi
  ·exact h1
  ·cases n with
   | zero=>cases hi
   | succ n=>
    cases ho':ops[e.on]? with
    | none=>simp [rG,ho'] at hi
    | some o'=>exact mw hd (n+1) e.on o' ho' (fun e' he' hb'=>hd e.on o' ho' h1 e' he' hb') i hi
theorem vl {n:Nat} (h:um md ops K n=true):sE md ops K:=fun listed hd j hj hr i hi=>by
 obtain ⟨_,o,ho,hall⟩:=mem_ready.1 hr
 have h1:=List.all_eq_true.1 h j (List.mem_range.2 (Array.getElem?_eq_some_iff.1 ho).1)
 simp only [Bool.or_eq_true,decide_eq_true_eq,List.all_eq_true,List.mem_range] at h1
 rcases h1 with h1 | h1
 ·omega
 ·exact mw hd n j o ho hall i (by simpa using h1 i hi)
theorem s5 (md:Region.Mode) (ops:Array Oper):qA md ops (Array.replicate ops.size false):=fun j o ho hj=>by
 have:=(Array.getElem?_eq_some_iff.1 ho).1
 simp [this] at hj
theorem eu {id:Nat} {Q:Exit->Act->World->Prop} {a:Act} {w:World} {l:List Oper} (n:Nat) (hm:P.follows .mixedOrders=true) (hs:Region.noSelect l.toArray=true) (hbl:um .any l.toArray K n=true) (hKl:K<=l.length)
 (hB:lO .any l.toArray K 0 (Array.replicate l.toArray.size false)=true) (hall:(List.range K).all (fun i=>(gr K 0 (Array.replicate l.toArray.size false)).getD i true)=true) (hC:C w.drew)
 (h:wpQuiet P l.toArray C (fun a'=>∀ w',C w'->wpAny P .any l.toArray Q (l.length-K) (gr K 0 (Array.replicate l.toArray.size false)) a' w') (l.take K) a):(Code.region id l.toArray true).wp P Q a w:=by
 have hlen:(l.take K).length=K:=by rw [List.length_take];omega
 have h1:=mg (K:=K) (P:=P) (C:=C) (T:=fun ls a'=>∀ w',C w'->wpAny P .any l.toArray Q (l.length-K) ls a' w') hs (vl hbl) (l.take K) 0 (Array.replicate l.toArray.size false) a (by omega) (s5 _ _)
  (fun j hj=>by rw [List.getElem?_take_of_lt (by omega)];simp) (by
   rw [hlen];intro i hi;exact List.all_eq_true.1 hall i (List.mem_range.2 hi)) (by rw [hlen];exact hB) (by rw [hlen];exact h)
 rw [hlen] at h1
 have h2:=js (Q:=Q) (F:=l.length-K) K _ a w.drew hC h1
 rw [show K+(l.length-K)=l.toArray.size by simp;omega] at h2
 exact wp_region_any hm h2
end
end
end Go.Proofs.YtiiliobffnhpmaaGreatDoor
