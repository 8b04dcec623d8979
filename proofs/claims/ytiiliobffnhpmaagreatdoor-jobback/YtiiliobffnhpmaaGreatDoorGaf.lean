import Derived.Test.YtiiliobffnhpmaaGreatDoorGae
import Derived.Maps.AppendAt
import Derived.Laws.AppendOwnNone
set_option linter.all false
set_option maxRecDepth 100000
set_option maxHeartbeats 4000000
namespace Go.Proofs.YtiiliobffnhpmaaGreatDoor
open Go.RowKit
def df (pl why:Nat):Value:=.iface 284 (.agg #[.int .i64 pl,.int .i64 why])
def px (pl why:Nat):Ending:=.panicked [{ v:=df pl why,recovered:=false }]
def eA (t:Tk):Value:=.agg #[.int .i64 t.pl,.int .i64 t.kd,.string t.tx]
theorem Bt:∀ l:List UInt8,Lib.indexByte l 39=match l.findIdx? (·==39) with | some i=>(i:Int) | none=>-1
 | []=>rfl
 | b::l=>by
  have ih:=Bt l
  rw [List.findIdx?_cons]
  unfold Lib.indexByte
  cases hb:(b==39)
  ·simp only [Bool.false_eq_true,if_false]
   rw [ih]
   cases l.findIdx? (·==39) with
   | none=>rfl
   | some i=>simp
  ·simp
theorem tokAt_cons (c:UInt8) (r:List UInt8):bJ (c::r)=if eS c then some (2,bp (c::r)) else if dZ c then some (1,bp (c::r)) else if c=39 then (r.findIdx? (·==39)).map (fun i=>(3,i+2)) else if 0<cL (c::r) then some (4,cL (c::r)) else none:=rfl
def oD (w:World) (R:List UInt8) (e:Ending) (w':World):Prop:=
 w'=w/\match bJ R with
 | none=>∃ kd:Nat,e=.returned (.tuple #[.int .i64 kd,.int .i64 0])
 | some (kd,n)=>e=.returned (.tuple #[.int .i64 kd,.int .i64 n])
theorem tp (R:ByteArray) (w:World) (r0:0<R.size) (rs:R.size<=140737488355328) :
 Calls Tryz.prog 75 #[.string R] w (oD w R.data.toList):=by
 have r0i:(0:Int)<(R.size:Int):=by omega
 have hcons:R.data.toList=R[0]::R.data.toList.drop 1:=by
  have hl2:R.data.toList.length=R.size:=by simp
  have e0:R.data.toList[0]'(by omega)=R[0]:=by simp [ByteArray.getElem_eq_getElem_data]
  rw [<-e0]
  have:=List.drop_eq_getElem_cons (l:=R.data.toList) (i:=0) (by omega)
  simpa using this
 have HW:Hid (∀ W,Calls Tryz.prog 127 #[.string R] W fun e w'=>e=.returned (.int .i64 (bp R.data.toList))/\w'=W):=fun W=>kU R W rs
 have HS:Hid (∀ W,Calls Tryz.prog 130 #[.string R] W fun e w'=>e=.returned (.int .i64 (cL R.data.toList))/\w'=W):=fun W=>rA R W r0 rs
 have HD:Hid (∀ W,Calls Tryz.prog 126 #[.int .u8 R[0].toNat] W fun e w'=>e=.returned (.bool (eS R[0]))/\w'=W):=fun W=>iI R[0] W
 have HB:Hid (∀ W,Calls Tryz.prog 128 #[.int .u8 R[0].toNat] W fun e w'=>e=.returned (.bool (dZ R[0]))/\w'=W):=fun W=>iD R[0] W
 have T:Hid (bJ R.data.toList=if eS R[0] then some (2,bp R.data.toList) else if dZ R[0] then some (1,bp R.data.toList)
  else if R[0]=39 then ((R.data.toList.drop 1).findIdx? (·==39)).map (fun i=>(3,i+2))
  else if 0<cL R.data.toList then some (4,cL R.data.toList) else none):=by
  unfold Hid
  conv=>lhs;rw [hcons,tokAt_cons]
  rw [<-hcons]
 have h1:∀ w:World,(Instr.slice 9 (.string R) (some (.int .i64 1)) none none).run Tryz.prog w=.ok (.string ⟨(R.data.toList.drop 1).toArray⟩) w:=fun w=>qg R 1 (by omega) w
 clear hcons
 unfold oD
 cases hd:eS R[0]
 ·cases hb:dZ R[0]
  ·by_cases h39:R[0]=39
   ·have hn:((R[0].toNat:Int)==39)=true:=by rw [h39];rfl
    have hT:bJ R.data.toList=((R.data.toList.drop 1).findIdx? (·==39)).map (fun i=>(3,i+2)):=by rw [T.out,hd,hb,if_neg (by decide),if_neg (by decide),if_pos h39]
    have HR9:=jg h39
    clear h39
    obtain ⟨R1,hR1⟩:∃ R1:ByteArray,R1=⟨(R.data.toList.drop 1).toArray⟩:=⟨_,rfl⟩
    have HX:Hid (∀ W,Calls Tryz.prog 129 #[.string R1,.int .u8 39] W fun e w'=>e=.returned (.int .i64 (Lib.indexByte (R.data.toList.drop 1) 39))/\w'=W):=fun W=>by rw [hR1];exact jp _ 39 W
    rw [<-hR1] at h1
    clear hR1
    have h39':=Bt (R.data.toList.drop 1)
    cases hf:(R.data.toList.drop 1).findIdx? (·==39) with
    | none=>
     rw [hf] at hT
     replace hT:bJ R.data.toList=none:=hT
     rw [hT]
     rw [hf] at h39'
     replace h39':Lib.indexByte (R.data.toList.drop 1) 39=-1:=h39'
     go_in
     go_wp2_with fail
     refine (HD.out _).mono ?_
     rintro e w1 ⟨rfl,h⟩
     have:=h.symm;subst this
     rw [hd]
     go_wp2_with fail
     refine (HB.out _).mono ?_
     rintro e w1 ⟨rfl,h⟩
     have:=h.symm;subst this
     rw [hb]
     go_wp2_with fail
     refine (HX.out _).mono ?_
     rintro e w1 ⟨rfl,h⟩
     have:=h.symm;subst this
     rw [h39']
     go_wp2_with fail
     exact bodyPost_ret (v:=.tuple #[.int .i64 ((3:Nat):Int),.int .i64 0]) (by simp [results,Tryz.results75,go_sem]) rfl ⟨rfl,3,rfl⟩
    | some i=>
     rw [hf] at hT
     replace hT:bJ R.data.toList=some (3,i+2):=hT
     rw [hT]
     rw [hf] at h39'
     replace h39':Lib.indexByte (R.data.toList.drop 1) 39=(i:Int):=h39'
     have hi:=(List.findIdx?_eq_some_iff_findIdx_eq.1 hf).1
     rw [List.length_drop] at hi
     have hl2:R.data.toList.length=R.size:=by simp
     have hi0:(0:Int)<=(i:Int):=by omega
     have hi2:i+2<=140737488355328:=by omega
     clear hl2 hi hf
     go_in
     go_wp2_with fail
     refine (HD.out _).mono ?_
     rintro e w1 ⟨rfl,h⟩
     have:=h.symm;subst this
     rw [hd]
     go_wp2_with fail
     refine (HB.out _).mono ?_
     rintro e w1 ⟨rfl,h⟩
     have:=h.symm;subst this
     rw [hb]
     go_wp2_with fail
     refine (HX.out _).mono ?_
     rintro e w1 ⟨rfl,h⟩
     have:=h.symm;subst this
     rw [h39']
     go_wp2_with fail
     exact bodyPost_ret (v:=.tuple #[.int .i64 ((3:Nat):Int),.int .i64 ((i+2:Nat):Int)]) (by simp [results,Tryz.results75,go_sem]) rfl ⟨rfl,rfl⟩
   ·have hn:((R[0].toNat:Int)==39)=false:=by
     rw [beq_eq_false_iff_ne]
     intro h
     apply h39
     apply UInt8.toNat_inj.1
     show R[0].toNat=39
     omega
    have hT:bJ R.data.toList=if 0<cL R.data.toList then some (4,cL R.data.toList) else none:=by rw [T.out,hd,hb,if_neg (by decide),if_neg (by decide),if_neg h39]
    clear h39
    by_cases hs0:0<cL R.data.toList
    ·rw [if_pos hs0] at hT
     rw [hT]
     clear hT hs0
     go_in
     go_wp2_with fail
     refine (HD.out _).mono ?_
     rintro e w1 ⟨rfl,h⟩
     have:=h.symm;subst this
     rw [hd]
     go_wp2_with fail
     refine (HB.out _).mono ?_
     rintro e w1 ⟨rfl,h⟩
     have:=h.symm;subst this
     rw [hb]
     go_wp2_with fail
     refine (HS.out _).mono ?_
     rintro e w1 ⟨rfl,h⟩
     have:=h.symm;subst this
     go_wp2_with fail
     exact bodyPost_ret (v:=.tuple #[.int .i64 ((4:Nat):Int),.int .i64 (cL R.data.toList)]) (by simp [results,Tryz.results75,go_sem]) rfl ⟨rfl,rfl⟩
    ·rw [if_neg hs0] at hT
     rw [hT]
     have HSZ:Hid (cL R.data.toList=0):=by unfold Hid;omega
     clear hT hs0
     go_in
     go_wp2_with fail
     refine (HD.out _).mono ?_
     rintro e w1 ⟨rfl,h⟩
     have:=h.symm;subst this
     rw [hd]
     go_wp2_with fail
     refine (HB.out _).mono ?_
     rintro e w1 ⟨rfl,h⟩
     have:=h.symm;subst this
     rw [hb]
     go_wp2_with fail
     refine (HS.out _).mono ?_
     rintro e w1 ⟨rfl,h⟩
     have:=h.symm;subst this
     go_wp2_with fail
     exact bodyPost_ret (v:=.tuple #[.int .i64 ((4:Nat):Int),.int .i64 (cL R.data.toList)]) (by simp [results,Tryz.results75,go_sem]) rfl ⟨rfl,4,by rw [HSZ.out];rfl⟩
  ·have hT:bJ R.data.toList=some (1,bp R.data.toList):=by rw [T.out,hd,hb,if_neg (by decide),if_pos rfl]
   rw [hT]
   go_in
   go_wp2_with fail
   refine (HD.out _).mono ?_
   rintro e w1 ⟨rfl,h⟩
   have:=h.symm;subst this
   rw [hd]
   go_wp2_with fail
   refine (HB.out _).mono ?_
   rintro e w1 ⟨rfl,h⟩
   have:=h.symm;subst this
   rw [hb]
   go_wp2_with fail
   refine (HW.out _).mono ?_
   rintro e w1 ⟨rfl,h⟩
   have:=h.symm;subst this
   go_wp2_with fail
   exact bodyPost_ret (v:=.tuple #[.int .i64 ((1:Nat):Int),.int .i64 (bp R.data.toList)]) (by simp [results,Tryz.results75,go_sem]) rfl ⟨rfl,rfl⟩
 ·have hT:bJ R.data.toList=some (2,bp R.data.toList):=by rw [T.out,hd,if_pos rfl]
  rw [hT]
  go_in
  go_wp2_with fail
  refine (HD.out _).mono ?_
  rintro e w1 ⟨rfl,h⟩
  have:=h.symm;subst this
  rw [hd]
  go_wp2_with fail
  refine (HW.out _).mono ?_
  rintro e w1 ⟨rfl,h⟩
  have:=h.symm;subst this
  go_wp2_with fail
  exact bodyPost_ret (v:=.tuple #[.int .i64 ((2:Nat):Int),.int .i64 (bp R.data.toList)]) (by simp [results,Tryz.results75,go_sem]) rfl ⟨rfl,rfl⟩
theorem aO {w w':World} {B e size n:Nat} {v:Value} {xs:List Value} (h:w.ownsRow B e size v n xs) (hb:Below w.heap.size w w'):w'.ownsRow B e size v n xs:=by
 refine ⟨h.1,?_⟩
 rcases h.2 with h2 | ⟨g,cap,cur,h1,h2,h3,h4⟩
 ·exact .inl h2
 ·refine .inr ⟨g,cap,cur,h1,h2,?_,h4⟩
  have hlt:g<w.heap.size:=by
   rcases Nat.lt_or_ge g w.heap.size with h | h
   ·exact h
   ·rw [Array.getElem?_eq_none h] at h3;cases h3
  rw [hb.block g hlt];exact h3
theorem aI {w w':World} {B e size n:Nat} {v:Value} {xs:List Value} {r:Option Nat} (h:w.ownsRow B e size v n xs) (hg:w.grownBy w' r) (hne:∀ g,v.ownBlock=some g->some g≠r):w'.ownsRow B e size v n xs:=by
 refine ⟨h.1,?_⟩
 rcases h.2 with h2 | ⟨g,cap,cur,h1,h2,h3,h4⟩
 ·exact .inl h2
 ·refine .inr ⟨g,cap,cur,h1,h2,?_,h4⟩
  have hlt:g<w.heap.size:=by
   rcases Nat.lt_or_ge g w.heap.size with h | h
   ·exact h
   ·rw [Array.getElem?_eq_none h] at h3;cases h3
  rw [hg.block g hlt (hne g (by rw [h1];rfl))];exact h3
theorem ai {a b c:World} {r:Option Nat} (h:a.grownBy b r) (k:b.grownBy c r):a.grownBy c r:=
 ⟨k.os.trans h.os,k.tape.trans h.tape,k.output.trans h.output,Nat.le_trans h.size k.size,fun i hi hr=>(k.block i (lL hi h.size) hr).trans (h.block i hi hr)⟩
theorem aj {a b:World} {r:Option Nat} (h:Below a.heap.size a b):a.grownBy b r:=
 ⟨h.os,h.tape,h.output,h.size,fun i hi _=>h.block i hi⟩
theorem aK (w:World) (a:Addr) (u:Value):w.grownBy (w.setCell a u) (some a.block):=
 ⟨rfl,rfl,rfl,by simp,fun k _ hk=>heap_setCell_other w a k u (fun e=>hk (by simp [e]))⟩
theorem bv {a b c:World} {r r':Option Nat} (h:a.grownBy b r) (k:b.grownBy c r') (hr:∀ n,r'=some n->a.heap.size<=n):a.grownBy c r:=
 ⟨k.os.trans h.os,k.tape.trans h.tape,k.output.trans h.output,Nat.le_trans h.size k.size,fun i hi hne=>(k.block i (lL hi h.size) (fun e=>by have:=hr i e.symm;omega)).trans (h.block i hi hne)⟩
theorem eE {a b c:World} {r':Option Nat} (h:Below a.heap.size a b) (k:b.grownBy c r') (hr:∀ n,r'=some n->a.heap.size<=n):Below a.heap.size a c:=
 ⟨k.os.trans h.os,k.tape.trans h.tape,k.output.trans h.output,Nat.le_trans h.size k.size,fun i hi=>(k.block i (lL hi h.size) (fun e=>by have:=hr i e.symm;omega)).trans (h.block i hi)⟩
theorem eH {α β:Type} (f:α->List β) (m:Nat) (hf:∀ a,(f a).length=m):∀ (l:List α) (i j:Nat) (hi:i<l.length),j<m->(l.flatMap f)[i*m+j]?=(f l[i])[j]?
 | a::l,0,j,_,hj=>by
  rw [List.flatMap_cons,Nat.zero_mul,Nat.zero_add,List.getElem?_append_left (by rw [hf];exact hj)];rfl
 | a::l,i+1,j,hi,hj=>by
  have ih:=eH f m hf l i j (by simpa using hi) hj
  rw [List.flatMap_cons,List.getElem?_append_right (by rw [hf,Nat.add_mul];omega),hf,show (i+1)*m+j-m=i*m+j by rw [Nat.add_mul];omega,ih]
  rfl
def dU (t:Tk):List Value:=[.int .i64 t.pl,.int .i64 t.kd,.string t.tx]
def OT (w:World) (B:Nat) (x:Value) (ts:List Tk):Prop:=w.ownsRow B 136 3 x ts.length (ts.flatMap dU)
theorem Cw:(Tryz.prog.info? 136).map (fun i=>(i.zero,i.size,i.bytes))=some (some (.agg #[.int .i64 0,.int .i64 0,.string ⟨#[]⟩]),3,32):=by kernel_rfl
def mp (w:World) (s:ByteArray) (e:Ending) (w':World):Prop:=Below w.heap.size w w'/\
 match tok s.size 0 s.data.toList with
 | .error p=>e=px p 1
 | .ok l=>∃ x,e=.returned x/\OT w' w.heap.size x (l++[⟨s.size,0,⟨#[]⟩⟩])
theorem kL {m pl:Nat} {c:UInt8} {r:List UInt8} (h:eO c=true):tok (m+1) pl (c::r)=tok m (pl+1) r:=by rw [tok,if_pos h]
theorem mh {m pl:Nat} {c:UInt8} {r:List UInt8} (h:eO c=false) (ht:bJ (c::r)=none):tok (m+1) pl (c::r)=.error pl:=by rw [tok,if_neg (by rw [h];decide),ht]
theorem mQ {m pl kd n:Nat} {c:UInt8} {r:List UInt8} (h:eO c=false) (ht:bJ (c::r)=some (kd,n)):tok (m+1) pl (c::r)=(tok m (pl+n) ((c::r).drop n)).map fun l=>⟨pl,kd,⟨((c::r).take n).toArray⟩⟩::l:=by rw [tok,if_neg (by rw [h];decide),ht]
theorem mJ (s:ByteArray) (k n:Nat) (h:k+n<=s.size) (w:World) :
 (Instr.slice 9 (.string s) (some (.int .i64 k)) (some (.int .i64 ((k:Int)+n))) none).run Tryz.prog w=.ok (.string ⟨((s.data.toList.drop k).take n).toArray⟩) w:=by
 rw [run_slice_string w 9 s .i64 .i64 k ((k:Int)+n) Tryz.underlying9 (by omega) (by omega) (by omega)]
 rw [Int.toNat_natCast,show ((k:Int)+n).toNat=k+n by omega]
 congr 2
 apply ByteArray.ext
 apply Array.toList_inj.1
 rw [ByteArray.data_extract,Array.toList_extract]
 simp [List.extract]
def pi (w:World) (s:ByteArray) (e:Ending) (w':World):Prop:=Below w.heap.size w w'/\
 match tok s.size 0 s.data.toList with
 | .error p=>e=.returned (.tuple #[.slice none 0 0,.int .i64 p,.bool false])
 | .ok l=>∃ x,e=.returned (.tuple #[x,.int .i64 0,.bool true])/\OT w' w.heap.size x (l++[⟨s.size,0,⟨#[]⟩⟩])
theorem ux (s:ByteArray) (w:World) (hs:s.size<=1048576) :
 Calls Tryz.prog 31 #[.string s] w (pi w s):=by
 obtain ⟨i0,hi0,hz0,hz1,hz2⟩:=info_parts Cw
 have hlen:s.data.toList.length=s.size:=by simp
 have HT:Hid (∀ (k:Nat) (W:World),k<s.size->Calls Tryz.prog 75 #[.string ⟨(s.data.toList.drop k).toArray⟩] W (oD W (s.data.toList.drop k))):=fun k W hk=>by
  have hz:(⟨(s.data.toList.drop k).toArray⟩:ByteArray).size=s.size-k:=by show ((s.data.toList.drop k).toArray).size=_;simp
  exact tp ⟨(s.data.toList.drop k).toArray⟩ W (by omega) (by omega)
 have HI:=jg qq
 go_in
 go_wp2
 go_loopw [5,6] (fun l i w'=>∃ (k m:Nat) (acc:List Tk),k<=s.size/\i=.int .i64 k/\s.size-k<=m/\tok s.size 0 s.data.toList=(tok m k (s.data.toList.drop k)).map (acc++·)/\OT w' w.heap.size l acc/\Below w.heap.size w w'/\acc.length<=k) (fun _ i _=>s.size-(intOf i).toNat)
 case atStart=>
  refine ⟨0,s.size,[],Nat.zero_le _,rfl,by omega,?_,World.ownsRow_nil _ _ _ _,bR,lR⟩
  rw [List.drop_zero]
  cases tok s.size 0 s.data.toList<;>rfl
 case round=>
  obtain ⟨k,m,acc,hk,rfl,hm,htok,hOT,hB,hacc⟩:=hrel
  by_cases hlt:k<s.size
  ·have hki:(k:Int)<(s.size:Int):=by omega
   have hk2:k<s.data.toList.length:=by omega
   have he:s.data.toList[k]=s[k]:=by simp [ByteArray.getElem_eq_getElem_data]
   go_wp2_with fail
   refine (HI.out _ _).mono ?_
   rintro e w1 ⟨rfl,h⟩
   have:=h.symm;subst this
   cases hb:eO s[k]
   ·have hne:s.data.toList.drop k=s[k]::s.data.toList.drop (k+1):=by rw [List.drop_eq_getElem_cons hk2,he]
    obtain ⟨m',rfl⟩:∃ m',m=m'+1:=⟨m-1,by omega⟩
    have HTK:=jg htok
    have HO:=jg hOT
    have HB:=jg hB
    have HNE:=jg hne
    have HSP:=jg hb
    have hsl:=fun w=>qg s k (by omega) w
    clear htok hOT hB hne
    go_wp2_with fail
    refine (HT.out k wr hlt).mono ?_
    rintro e w1 ⟨h,hp⟩
    have:=h.symm;subst this
    cases ht:bJ (s.data.toList.drop k) with
    | none=>
     rw [ht] at hp
     obtain ⟨kd,rfl⟩:=hp
     have hT:tok s.size 0 s.data.toList=.error k:=by rw [HTK.out,HNE.out,mh HSP.out (by rw [<-HNE.out];exact ht)];rfl
     go_wp2_with fail
     refine bodyPost_ret (v:=.tuple #[.slice none 0 0,.int .i64 k,.bool false]) (by simp [results,Tryz.results31,go_sem]) rfl ?_
     unfold pi
     rw [hT]
     exact ⟨HB.out,rfl⟩
    | some p=>
     obtain ⟨kd,n⟩:=p
     rw [ht] at hp
     subst hp
     obtain ⟨hn0,hn1⟩:=fh ht
     rw [List.length_drop] at hn1
     have hT:tok s.size 0 s.data.toList=(tok m' (k+n) (s.data.toList.drop (k+n))).map ((acc++[⟨k,kd,⟨((s.data.toList.drop k).take n).toArray⟩⟩])++·):=by
      rw [HTK.out,HNE.out,mQ HSP.out (by rw [<-HNE.out];exact ht),<-HNE.out,List.drop_drop]
      cases tok m' (k+n) (s.data.toList.drop (k+n))<;>simp [Except.map]
     have HT2:=jg hT
     obtain ⟨X,hX⟩:∃ X:ByteArray,X=⟨((s.data.toList.drop k).take n).toArray⟩:=⟨_,rfl⟩
     have hsb:=fun w=>mJ s k n (by omega) w
     rw [<-hX] at HT2 hsb
     have hn0':((n:Int)==0)=false:=by rw [beq_eq_false_iff_ne];omega
     have hkn:k+n<=1048576:=by omega
     clear hT hX HTK ht HNE hsl
     go_wp2_with (first
      | (at_builtin;refine wpList_append_own_at _ rfl _ _ 78 rfl w.heap.size 136 i0 (.agg #[.int .i64 0,.int .i64 0,.string ⟨#[]⟩]) 3 32 Tryz.underlying78 hi0 hz0 hz1 hz2 rfl (by decide) _ acc.length (acc.flatMap dU) rfl (World.ownsRow.alloc HO.out _) ⟨wr.heap.size,0,none⟩ 1 1 (dU ⟨k,kd,X⟩) rfl rfl ?c1 ?c2 ?c3 ?c4 ?c5 ?_))
     case c1=>
      intro j u hj
      match j,hj with
      | 0,hj=>simp [dU] at hj;subst hj;simp [Addr.add]
      | 1,hj=>simp [dU] at hj;subst hj;simp [Addr.add]
      | 2,hj=>simp [dU] at hj;subst hj;simp [Addr.add]
     case c2=>intro u hu;simp [dU] at hu;rcases hu with rfl | rfl | rfl<;>rfl
     case c3=>unfold maxLen;omega
     case c4=>omega
     case c5=>have:=HB.out.size;simp;omega
     ·intro v' w5 hown' hgrow _ hat
      have hne:∀ g,u5.ownBlock=some g->w.heap.size<=g:=fun g hg=>(World.ownsRow.lt HO.out g hg).1
      have hb2:Below wr.heap.size wr (wr.alloc (.cells #[.int .i64 k,.int .i64 kd,.string X] 136)):=ae _ _
      have HB5:=jg (eE (HB.out.trans (hb2.mono HB.out.size)) hgrow hne)
      have HO5:Hid (OT w5 w.heap.size v' (acc++[⟨k,kd,X⟩])):=by
       unfold Hid OT
       rw [List.length_append,List.flatMap_append]
       simpa using hown'
      clear hown' hgrow hat hne hb2 HB HO hsb
      go_wp2
      go_roundw
      case rel=>exact ⟨k+n,m',acc++[⟨k,kd,X⟩],by omega,by go_num,by omega,HT2.out,HO5.out,HB5.out,by simp;omega⟩
      case measure=>simp [intOf];omega
   ·have hne:s.data.toList.drop k=s[k]::s.data.toList.drop (k+1):=by rw [List.drop_eq_getElem_cons hk2,he]
    obtain ⟨m',rfl⟩:∃ m',m=m'+1:=⟨m-1,by omega⟩
    have hT:tok s.size 0 s.data.toList=(tok m' (k+1) (s.data.toList.drop (k+1))).map (acc++·):=by rw [htok,hne,kL hb]
    have HT2:=jg hT
    have HO:=jg hOT
    have HB:=jg hB
    clear htok hOT hB hne hT
    go_wp2
    exact ⟨⟨k+1,m',acc,by omega,by go_num,by omega,HT2.out,HO.out,HB.out,by omega⟩,by simp [intOf];omega⟩
  ·obtain rfl:k=s.size:=by omega
   have hT:tok s.size 0 s.data.toList=.ok acc:=by
    rw [htok,List.drop_eq_nil_of_le (by omega)]
    unfold tok
    simp [Except.map]
   have HT2:=jg hT
   have HO:=jg hOT
   have HB:=jg hB
   clear htok hOT hB hT
   go_wp2_with (first
    | (at_builtin;refine wpList_append_own_at _ rfl _ _ 78 rfl w.heap.size 136 i0 (.agg #[.int .i64 0,.int .i64 0,.string ⟨#[]⟩]) 3 32 Tryz.underlying78 hi0 hz0 hz1 hz2 rfl (by decide) _ acc.length (acc.flatMap dU) rfl (World.ownsRow.alloc HO.out _) ⟨wr.heap.size,0,none⟩ 1 1 (dU ⟨s.size,0,⟨#[]⟩⟩) rfl rfl ?c1 ?c2 ?c3 ?c4 ?c5 ?_))
   case c1=>
    intro j u hj
    match j,hj with
    | 0,hj=>simp [dU] at hj;subst hj;simp [Addr.add]
    | 1,hj=>simp [dU] at hj;subst hj;simp [Addr.add]
    | 2,hj=>simp [dU] at hj;subst hj;simp [Addr.add]
   case c2=>intro u hu;simp [dU] at hu;rcases hu with rfl | rfl | rfl<;>rfl
   case c3=>unfold maxLen;omega
   case c4=>omega
   case c5=>have:=HB.out.size;simp;omega
   ·intro v' w5 hown' hgrow _ hat
    have hne:∀ g,u5.ownBlock=some g->w.heap.size<=g:=fun g hg=>(World.ownsRow.lt HO.out g hg).1
    have HB5:=jg (eE (HB.out.trans ((ae _ _).mono HB.out.size)) hgrow hne)
    have HO5:Hid (OT w5 w.heap.size v' (acc++[⟨s.size,0,⟨#[]⟩⟩])):=by
     unfold Hid OT
     rw [List.length_append,List.flatMap_append]
     simpa using hown'
    clear hown' hgrow hat hne HB HO
    go_wp2
    refine bodyPost_ret (v:=.tuple #[v',.int .i64 0,.bool true]) (by simp [results,Tryz.results31,go_sem]) rfl ?_
    unfold pi
    rw [HT2.out]
    exact ⟨HB5.out,v',rfl,HO5.out⟩
theorem tI (s:ByteArray) (w:World) (hs:s.size<=200) :
 Calls Tryz.prog 246 #[.string s] w (mp w s):=by
 have HC:=jg (ux s w (by omega))
 go_in
 go_wp2_with fail
 refine HC.out.mono ?_
 rintro e w1 ⟨hb,hp⟩
 have HB:=jg hb
 clear hb
 cases ht:tok s.size 0 s.data.toList with
 | error p=>
  rw [ht] at hp
  subst hp
  go_wp2_with fail
  refine ⟨rfl,?_⟩
  unfold mp
  rw [ht]
  exact ⟨HB.out,rfl⟩
 | ok l=>
  rw [ht] at hp
  obtain ⟨x,rfl,ho⟩:=hp
  have HO:=jg ho
  clear ho
  go_wp2_with fail
  go_ret
  unfold mp
  rw [ht]
  exact ⟨HB.out,x,rfl,HO.out⟩
def jG (w:World) (b off:Nat) (l:List Tk):Prop:=∀ i (h:i<l.length),w.cell? ⟨b,off+i*3,none⟩=some (.int .i64 l[i].pl)/\w.cell? ⟨b,off+i*3+1,none⟩=some (.int .i64 l[i].kd)/\w.cell? ⟨b,off+i*3+2,none⟩=some (.string l[i].tx)
theorem jG.grown {w w':World} {b off:Nat} {l:List Tk} {r:Option Nat} (h:jG w b off l) (hg:w.grownBy w' r) (hne:some b≠r):jG w' b off l:=fun i hi=>
 have ⟨h1,h2,h3⟩:=h i hi
 ⟨hg.cell h1 hne,hg.cell h2 hne,hg.cell h3 hne⟩
theorem jG.tail {w:World} {b off:Nat} {t:Tk} {l:List Tk} (h:jG w b off (t::l)):jG w b (off+3) l:=fun i hi=>by
 have:=h (i+1) (by simp;omega)
 rw [show off+(i+1)*3=off+3+i*3 by omega] at this
 exact this
theorem OT.at {w:World} {B g n c:Nat} {ts:List Tk} (h:OT w B (.slice (some ⟨g,0,none⟩) n c) ts):jG w g 0 ts:=fun i hi=>by
 have hn:n=ts.length:=by
  rcases h.2 with ⟨h1,_⟩ | ⟨g',c',cur,h1,_⟩
  ·cases h1
  ·cases h1;rfl
 subst hn
 have key:∀ j,j<3->w.cell? ⟨g,i*3+j,none⟩=(dU ts[i])[j]?:=fun j hj=>by
  rw [World.ownsRow.cellAt h (i*3+j) (by omega),eH dU 3 (fun _=>rfl) ts i j hi hj]
 rw [Nat.zero_add]
 exact ⟨key 0 (by decide),key 1 (by decide),key 2 (by decide)⟩
def aD (w:World) (g t n:Nat) (xs:List Value):Prop:=w.ownsRow g t n (.slice (some ⟨g,0,none⟩) 1 1) 1 xs
theorem aD.grown {w w':World} {g t n:Nat} {xs:List Value} {r:Option Nat} (h:aD w g t n xs) (hg:w.grownBy w' r) (hne:some g≠r):aD w' g t n xs:=
 aI h hg fun k hk=>by cases hk;exact hne
theorem aD.later {w w':World} {g t n:Nat} {xs:List Value} (h:aD w g t n xs) (hb:Below w.heap.size w w'):aD w' g t n xs:=aO h hb
theorem aD.lt {w:World} {g t n:Nat} {xs:List Value} (h:aD w g t n xs):g<w.heap.size:=(World.ownsRow.lt h g rfl).2
theorem aD.cell {w:World} {g t n:Nat} {xs:List Value} (h:aD w g t n xs) (j:Nat) (hj:j<n):w.cell? ⟨g,j,none⟩=xs[j]?:=World.ownsRow.cellAt h j (by omega)
theorem aD.c {w:World} {g t n:Nat} {xs:List Value} (h:aD w g t n xs) (j:Nat) {v:Value} (e:xs[j]?=some v):w.cell? ⟨g,j,none⟩=some v:=by
 rw [World.ownsRow.cellAt h j (by rw [<-h.1];exact (List.getElem?_eq_some_iff.1 e).1),e]
theorem aD.soft {w:World} {g t n:Nat} {xs:List Value} (h:aD w g t n xs) (j:Nat):w.frozen? ⟨g,j,none⟩=false:=World.ownsRow.frozenAt h j
theorem aD.put {w:World} {g t n:Nat} {xs:List Value} (h:aD w g t n xs) (j:Nat) (u:Value):aD (w.setCell ⟨g,j,none⟩ u) g t n (xs.set j u)/\w.grownBy (w.setCell ⟨g,j,none⟩ u) (some g):=World.ownsRow.stored h j u
theorem aD.new (w:World) (t n:Nat) (cs:Array Value) (hs:cs.size=n):aD (w.alloc (.cells cs t)) w.heap.size t n cs.toList:=
 World.ownsRow_lit (base:=w.heap.size) (e:=t) (size:=n) w cs 1 lR (by decide) (by omega)
def PS (w:World) (g E:Nat) (ts:List Tk) (lev:Nat):Prop:=∃ b off cap,aD w g 306 2 [.slice (some ⟨b,off,none⟩) (ts.length+1) cap,.int .i64 lev]/\b<g/\ts.length+1<=cap/\cap<=maxLen/\jG w b off (ts++[⟨E,0,⟨#[]⟩⟩])/\(∀ t∈ts,t.kd≠0/\t.tx.size≠0)/\ts.length<=200/\lev<=12
theorem PS.grown {w w':World} {g E:Nat} {ts:List Tk} {lev:Nat} {r:Option Nat} (h:PS w g E ts lev) (hg:w.grownBy w' r) (hr:∀ k,r=some k->g<k):PS w' g E ts lev:=by
 obtain ⟨b,off,cap,h1,h2,h3,h4,h5,h6⟩:=h
 exact ⟨b,off,cap,h1.grown hg (fun e=>by have:=hr g e.symm;omega),h2,h3,h4,h5.grown hg (fun e=>by have:=hr b e.symm;omega),h6⟩
theorem PS.later {w w':World} {g E:Nat} {ts:List Tk} {lev:Nat} (h:PS w g E ts lev) (hb:Below w.heap.size w w'):PS w' g E ts lev:=h.grown (r:=none) (aj hb) (fun k hk=>by cases hk)
theorem PS.lt {w:World} {g E:Nat} {ts:List Tk} {lev:Nat} (h:PS w g E ts lev):g<w.heap.size:=by obtain ⟨b,off,cap,h1,_⟩:=h;exact h1.lt
theorem Bn {w:World} {b off E:Nat} {ts:List Tk} (h:jG w b off (ts++[⟨E,0,⟨#[]⟩⟩])):w.cell? ⟨b,off,none⟩=some (.int .i64 (hd E ts).pl)/\w.cell? ⟨b,off+1,none⟩=some (.int .i64 (hd E ts).kd)/\w.cell? ⟨b,off+2,none⟩=some (.string (hd E ts).tx):=by
 have:=h 0 (by simp)
 cases ts with
 | nil=>simpa [hd] using this
 | cons t ts=>simpa [hd] using this
theorem kO (b o len cap:Nat) (h1:1<=len) (h2:cap≠1) (W:World) :
 (Instr.slice 78 (.slice (some ⟨b,o,none⟩) len cap) (some (.int .i64 1)) none none).run Tryz.prog W=.ok (.slice (some ⟨b,o+3,none⟩) (len-1) (cap-1)) W:=by
 rw [run_slice_l (P:=Tryz.prog) W 78 (some ⟨b,o,none⟩) len cap (Tryz.underlying78.trans (by kernel_rfl)) .i64 _ (by omega) (by omega)]
 have hs:(sizeOf (Tryz.prog.elem 78)).run Tryz.prog W=.ok 3 W:=by
  rw [show Tryz.prog.elem 78=136 by kernel_rfl];exact Tryz.sizeOf136 W
 rw [hs]
 simp only [Result.andThen,sliced,Option.map]
 rw [show ((1:Int).toNat)=1 by rfl,if_neg h2,show ∀ j,(Addr.mk b o none).add j=Addr.mk b (o+j) none from fun j=>WideShapes.add_plain ..]
theorem kX (b o len cap:Nat) (h1:1<=len) (h2:cap≠1) (W:World) :
 (Instr.sliceAt 78 (.slice (some ⟨b,o,none⟩) len cap) (some (.int .i64 1)) none none).run Tryz.prog W=.ok (.slice (some ⟨b,o+3,none⟩) (len-1) (cap-1)) W:=by
 rw [run_sliceAt_slice W 78 _ _ _ _ (Tryz.underlying78.trans (by kernel_rfl))]
 exact kO b o len cap h1 h2 W
theorem bK (g E lev:Nat) (ts:List Tk) (w:World) (h:PS w g E ts lev) :
 Calls Tryz.prog 282 #[.pointer (some ⟨g,0,none⟩)] w fun e w'=>e=.returned (eA (hd E ts))/\Below w.heap.size w w':=by
 obtain ⟨b,off,cap,h1,h2,h3,h4,h5,h6⟩:=h
 have c0:w.cell? ⟨g,0,none⟩=some (.slice (some ⟨b,off,none⟩) (ts.length+1) cap):=h1.c 0 rfl
 obtain ⟨d0,d1,d2⟩:=Bn h5
 have hgl:=h1.lt
 have hbl:b<w.heap.size:=by omega
 have hl:(0:Int)<(ts.length:Int)+1:=by omega
 clear h1 h5 h6
 go_in
 go_wp2
 exact bodyPost_ret (v:=eA (hd E ts)) (by simp [results,Tryz.results282,go_sem];rfl) rfl ⟨rfl,ae _ _⟩
def mS (w:World) (g E lev:Nat) (ts:List Tk) (e:Ending) (w':World):Prop:=e=.returned (eA (hd E ts))/\w.grownBy w' (some g)/\PS w' g E ts.tail lev
theorem bt (g E lev:Nat) (ts:List Tk) (w:World) (h:PS w g E ts lev) :
 Calls Tryz.prog 271 #[.pointer (some ⟨g,0,none⟩)] w (mS w g E lev ts):=by
 have HP:=jg h
 have hgl:=h.lt
 clear h
 go_in
 go_wp2_with fail
 refine (bK g E lev ts _ (HP.out.later (ae _ _))).mono ?_
 rintro e w1 ⟨rfl,hb⟩
 have hB:=(ae w _).trans (hb.mono (by simp))
 have hP1:=HP.out.later hB
 have HP1:=jg hP1
 have HB:=jg hB
 have hR:=(aD.new w 136 3 #[.int .i64 0,.int .i64 0,.string ⟨#[]⟩] rfl).later hb
 have q0:w1.cell? ⟨w.heap.size,0,none⟩=some (.int .i64 0):=hR.c 0 rfl
 have q1:w1.cell? ⟨w.heap.size,1,none⟩=some (.int .i64 0):=hR.c 1 rfl
 have q2:w1.cell? ⟨w.heap.size,2,none⟩=some (.string ⟨#[]⟩):=hR.c 2 rfl
 have f0:=hR.soft 0
 have f1:=hR.soft 1
 have f2:=hR.soft 2
 have hwl:=hR.lt
 clear hb hB HP hR
 cases ts with
 | nil=>
  simp only [hd,eA]
  go_wp2_with fail
  refine bodyPost_ret (v:=eA (hd E [])) (by simp [results,Tryz.results271,go_sem,q0,q1,q2,hwl];rfl) rfl ⟨rfl,?_,?_⟩
  ·refine bv (r':=none) ?_ (aj (ae _ _)) (fun k hk=>by cases hk)
   repeat (first | exact aj HB.out | refine bv ?_ (aK _ _ _) (fun k hk=>by cases hk;exact lR))
  ·refine PS.later ?_ (ae _ _)
   repeat (first | exact HP1.out | refine PS.grown ?_ (aK _ _ _) (fun k hk=>by cases hk;exact hgl))
 | cons t ts=>
  obtain ⟨b,off,cap,h1,h2,h3,h4,h5,h6⟩:=hP1
  have ht:=(h6.1 t (by simp)).1
  have HO:=jg h1
  have H5:=jg h5
  have H6:=jg h6
  have c0:w1.cell? ⟨g,0,none⟩=some (.slice (some ⟨b,off,none⟩) (ts.length+2) cap):=h1.c 0 rfl
  have fg:=h1.soft 0
  simp only [hd,eA]
  have hk:((t.kd:Int)==0)=false:=by rw [beq_eq_false_iff_ne];omega
  have hk2:((t.kd:Int) != 0)=true:=by rw [bne,hk];rfl
  have hsl:=kO b off (ts.length+2) cap (by omega) (by simp at h3;omega)
  have hsl2:=kX b off (ts.length+2) cap (by omega) (by simp at h3;omega)
  have hg1:g<w1.heap.size:=by omega
  have hb1:b<w1.heap.size:=by omega
  clear h1 h5 h6 HP1 ht
  go_wp2_with fail
  obtain ⟨hOp,hgp⟩:=HO.out.put 0 (.slice (some ⟨b,off+3,none⟩) (ts.length+1) (cap-1))
  have hPS:PS (w1.setCell ⟨g,0,none⟩ (.slice (some ⟨b,off+3,none⟩) (ts.length+1) (cap-1))) g E ts lev:=by
   refine ⟨b,off+3,cap-1,hOp,h2,by simp at h3;omega,by omega,(jG.tail H5.out).grown hgp (nS (by omega)),fun t ht=>H6.out.1 t (by simp [ht]),?_,H6.out.2.2⟩
   have:=H6.out.2.1
   simp at this
   omega
  refine bodyPost_ret (v:=eA t) (by simp [results,Tryz.results271,go_sem,q0,q1,q2,hwl,Nat.ne_of_lt hgl];rfl) rfl ⟨rfl,?_,?_⟩
  ·refine bv (r':=none) ?_ (aj (ae _ _)) (fun k hk=>by cases hk)
   repeat (first | exact ai (aj HB.out) hgp | refine bv ?_ (aK _ _ _) (fun k hk=>by cases hk;exact lR))
  ·refine PS.later ?_ (ae _ _)
   repeat (first | exact hPS | refine PS.grown ?_ (aK _ _ _) (fun k hk=>by cases hk;exact hgl))
def mD (w:World) (g E lev:Nat) (ts:List Tk) (x:ByteArray) (e:Ending) (w':World):Prop:=w.grownBy w' (some g)/\
 if (hd E ts).tx=x then e=.returned (.tuple #[])/\PS w' g E ts.tail lev else e=px (hd E ts).pl 1
theorem gt (g E lev:Nat) (ts:List Tk) (x:ByteArray) (w:World) (h:PS w g E ts lev) :
 Calls Tryz.prog 248 #[.pointer (some ⟨g,0,none⟩),.string x] w (mD w g E lev ts x):=by
 have HP:=jg h
 have hgl:=h.lt
 clear h
 generalize hT:hd E ts=T at *
 go_in
 go_wp2_with fail
 refine (bt g E lev ts _ HP.out).mono ?_
 rintro e w1 ⟨rfl,hg,hp⟩
 have HG:=jg hg
 have HP1:=jg hp
 have HT:=jg hT
 rw [hT]
 clear hg hp hT HP
 simp only [eA]
 by_cases hx:T.tx=x
 ·have hq:=BO hx
  have HX:=jg hx
  clear hx
  go_wp2_with fail
  go_end0
  unfold mD
  rw [HT.out,if_pos HX.out]
  exact ⟨bv (r':=none) HG.out (aj (ae _ _)) (fun k hk=>by cases hk),rfl,HP1.out.later (ae _ _)⟩
 ·have hq:=Cs hx
  have HX:=jg hx
  clear hx
  go_wp2_with fail
  refine ⟨rfl,?_⟩
  unfold mD
  rw [HT.out,if_neg HX.out]
  exact ⟨bv (r':=none) HG.out (aj (ae _ _)) (fun k hk=>by cases hk),rfl⟩
def iZ (w:World) (g E lev:Nat) (ts:List Tk) (pl:Nat) (e:Ending) (w':World):Prop:=w.grownBy w' (some g)/\
 if lev=12 then e=px pl 4 else e=.returned (.tuple #[])/\PS w' g E ts (lev+1)
theorem ku (g E lev:Nat) (ts:List Tk) (t:Tk) (w:World) (h:PS w g E ts lev) :
 Calls Tryz.prog 312 #[.pointer (some ⟨g,0,none⟩),eA t] w (iZ w g E lev ts t.pl):=by
 have hgl:=h.lt
 obtain ⟨b,off,cap,h1,h2,h3,h4,h5,h6⟩:=h
 have HO:=jg h1
 have H5:=jg h5
 have H6:=jg h6
 have c1:w.cell? ⟨g,1,none⟩=some (.int .i64 lev):=h1.c 1 rfl
 have fg:=h1.soft 1
 have hlev:=h6.2.2
 clear h1 h5 h6
 unfold eA
 by_cases hl:lev=12
 ·subst hl
  go_in
  go_wp2_with fail
  refine ⟨rfl,?_⟩
  unfold iZ
  rw [if_pos rfl]
  exact ⟨aj (by first | exact ae _ _ | exact bR),rfl⟩
 ·have hne:((lev:Int)==12)=false:=by rw [beq_eq_false_iff_ne];omega
  have HL:=jg hl
  have hw:IntKind.i64.wrap ((lev:Int)+1)=((lev+1:Nat):Int):=by rw [IntKind.wrap_i64];omega
  clear hl
  go_in
  go_wp2_with fail
  go_end0
  obtain ⟨hOp,hgp⟩:=HO.out.put 1 (.int .i64 ((lev:Int)+1))
  unfold iZ
  rw [if_neg HL.out]
  refine ⟨bv (r':=none) hgp (aj (ae _ _)) (fun k hk=>by cases hk),rfl,PS.later ⟨b,off,cap,hOp,h2,h3,h4,H5.out.grown hgp (nS (by omega)),H6.out.1,H6.out.2.1,?_⟩ (ae _ _)⟩
  have h1:=H6.out.2.2
  have h2:=HL.out
  omega
theorem gA (g E lev:Nat) (ts:List Tk) (w:World) (h:PS w g E ts (lev+1)) :
 Calls Tryz.prog 314 #[.pointer (some ⟨g,0,none⟩)] w fun e w'=>e=.returned (.tuple #[])/\w.grownBy w' (some g)/\PS w' g E ts lev:=by
 have hgl:=h.lt
 obtain ⟨b,off,cap,h1,h2,h3,h4,h5,h6⟩:=h
 have HO:=jg h1
 have H5:=jg h5
 have H6:=jg h6
 obtain ⟨n,hn⟩:∃ n:Int,n=((lev+1:Nat):Int):=⟨_,rfl⟩
 have hw:n-1=(lev:Int):=by omega
 have hn0:1<=n:=by omega
 have hn1:n<=12:=by omega
 have c1:w.cell? ⟨g,1,none⟩=some (.int .i64 n):=by rw [h1.cell 1 (by decide),hn];rfl
 have fg:=h1.soft 1
 have HW:=jg hw
 clear h1 h5 h6 hn hw
 go_in
 go_wp2_with fail
 go_end0
 rw [HW.out]
 obtain ⟨hOp,hgp⟩:=HO.out.put 1 (.int .i64 (lev:Int))
 have h6:=H6.out
 exact ⟨rfl,hgp,b,off,cap,hOp,h2,h3,h4,H5.out.grown hgp (nS (by omega)),h6.1,h6.2.1,by omega⟩
theorem gF (t:ByteArray) (w:World):Calls Tryz.prog 281 #[.string t] w fun e w'=>e=.returned (.int .i64 (bW t))/\w'=w:=by
 go_in
 go_wp2
 all_goals go_ret
 all_goals simp_all [xl,bW,kr,vy,zg,xj,za,yw,yx,yF,jq,bh,mf,nh,nv,pw]
end Go.Proofs.YtiiliobffnhpmaaGreatDoor
