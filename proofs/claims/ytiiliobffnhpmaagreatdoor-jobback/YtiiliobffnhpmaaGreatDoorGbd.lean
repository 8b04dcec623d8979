import Derived.Test.YtiiliobffnhpmaaGreatDoorGbc
set_option linter.all false
set_option maxRecDepth 100000
set_option maxHeartbeats 4000000
namespace Go.Proofs.YtiiliobffnhpmaaGreatDoor
namespace Vl
theorem toList_inj {s t:ByteArray} (h:s.toList=t.toList):s=t:=by
 rw [ByteArray.toList_eq,ByteArray.toList_eq] at h
 apply ByteArray.ext
 exact Array.toList_inj.1 h
theorem mm {s:ByteArray} (h:(s.toList==[])=true):s=⟨#[]⟩:=by
 apply toList_inj
 rw [jB]
 simpa using h
theorem valid_form {k n:Int} {s:ByteArray} (h:validB k n s=true) :
 (k=0/\n=0/\s=⟨#[]⟩)\/(k=1/\s=⟨#[]⟩)\/(k=2/\n=1/\s=⟨#[]⟩)\/(k=2/\n=0/\s=⟨#[]⟩)\/(k=3/\n=0/\s.size<=60):=by
 unfold validB at h
 by_cases h0:k=0
 ·rw [if_pos h0] at h
  simp only [Bool.and_eq_true,beq_iff_eq] at h
  exact .inl ⟨h0,h.1,mm (by simpa using h.2)⟩
 by_cases h1:k=1
 ·rw [if_neg h0,if_pos h1] at h
  exact .inr (.inl ⟨h1,mm h⟩)
 rw [if_neg h0,if_neg h1] at h
 by_cases h2:k=2
 ·rw [if_pos h2] at h
  simp only [Bool.and_eq_true,Bool.or_eq_true,beq_iff_eq] at h
  have hs:=mm (s:=s) (by simpa using h.1)
  rcases h.2 with e | e
  ·exact .inr (.inr (.inr (.inl ⟨h2,e,hs⟩)))
  ·exact .inr (.inr (.inl ⟨h2,e,hs⟩))
 rw [if_neg h2] at h
 by_cases h3:k=3
 ·rw [if_pos h3] at h
  simp at h
  exact .inr (.inr (.inr (.inr ⟨h3,h.1,by omega⟩)))
 rw [if_neg h3] at h
 cases h
theorem io {k n:Int} {s:ByteArray} (h:validB k n s=true):showB k n s=(if k=1 then ⟨(Lib.itoa n).toArray⟩ else if k=2 then (if n=1 then ⟨#[116,114,117,101]⟩ else ⟨#[102,97,108,115,101]⟩) else if k=3 then ⟨(39::av s.data.toList++[39]).toArray⟩ else ⟨#[110,117,108,108]⟩):=by
 unfold showB;rw [if_pos h]
def BV (k n:Int) (c:UInt8):Prop:=(k=0->c.toNat=110)/\(k=1->c.toNat=45\/(48<=c.toNat/\c.toNat<=57))/\(k=2->(n=1->c.toNat=116)/\(n=0->c.toNat=102))/\(k=3->c.toNat=39)
theorem sd (n:Int):∃ c X,Lib.itoa n=c::X/\(c.toNat=45\/(48<=c.toNat/\c.toNat<=57)):=by
 by_cases hn:n<0
 ·exact ⟨45,Lib.decDigits n.natAbs,by unfold Lib.itoa;rw [if_pos hn],.inl rfl⟩
 ·obtain ⟨c,r,e,h1,h2⟩:=kj n.toNat
  exact ⟨c,r,by unfold Lib.itoa;rw [if_neg hn,e],.inr ⟨h1,h2⟩⟩
theorem nX {k n:Int} {s:ByteArray} (h:validB k n s=true):∃ c X,(showB k n s).toList=c::X/\BV k n c:=by
 rw [io h,ByteArray.toList_eq]
 rcases valid_form h with ⟨rfl,rfl,rfl⟩ | ⟨rfl,rfl⟩ | ⟨rfl,rfl,rfl⟩ | ⟨rfl,rfl,rfl⟩ | ⟨rfl,rfl,hs⟩
 ·exact ⟨110,[117,108,108],rfl,by unfold BV;simp⟩
 ·obtain ⟨c,X,e,hc⟩:=sd n
  exact ⟨c,X,by simp [e],by unfold BV;simp;exact hc⟩
 ·exact ⟨116,[114,117,101],rfl,by unfold BV;simp⟩
 ·exact ⟨102,[97,108,115,101],rfl,by unfold BV;simp⟩
 ·exact ⟨39,av s.data.toList++[39],by simp,by unfold BV;simp⟩
theorem show_inj {k1 n1:Int} {s1:ByteArray} {k2 n2:Int} {s2:ByteArray} (h1:validB k1 n1 s1=true) (h2:validB k2 n2 s2=true)
 (a0:-9223372036854775808<=n1) (a1:n1<=9223372036854775807) (b0:-9223372036854775808<=n2) (b1:n2<=9223372036854775807) (h:showB k1 n1 s1=showB k2 n2 s2) :
 k1=k2/\n1=n2/\s1=s2:=by
 obtain ⟨c,X,e1,t1⟩:=nX h1
 obtain ⟨d,Y,e2,t2⟩:=nX h2
 rw [h,e2] at e1
 have hcd:=(List.cons.inj e1).1
 subst hcd
 have v1:=io h1
 have v2:=io h2
 unfold BV at t1 t2
 rcases valid_form h1 with ⟨rfl,rfl,rfl⟩ | ⟨rfl,rfl⟩ | ⟨rfl,rfl,rfl⟩ | ⟨rfl,rfl,rfl⟩ | ⟨rfl,rfl,hs1⟩ <;>
 rcases valid_form h2 with ⟨rfl,rfl,rfl⟩ | ⟨rfl,rfl⟩ | ⟨rfl,rfl,rfl⟩ | ⟨rfl,rfl,rfl⟩ | ⟨rfl,rfl,hs2⟩ <;>
 first
  | exact ⟨rfl,rfl,rfl⟩
  | (exfalso;simp at t1 t2;omega)
  | skip
 ·rw [h,v2] at v1
  simp at v1
  have p1:=jH n1 a0 a1
  have p2:=jH n2 b0 b1
  rw [<-v1,p2] at p1
  exact ⟨rfl,(by injection p1 with e;exact e.symm),rfl⟩
 ·rw [h,v2] at v1
  simp at v1
  have:=iB _ _ v1
  exact ⟨rfl,rfl,(by apply ByteArray.ext;exact (Array.toList_inj.1 this).symm)⟩
theorem uU {k n:Int} {s:ByteArray} (h:validB k n s=false):showB k n s=⟨#[]⟩:=by
 unfold showB;rw [if_neg (by simp [h])]
end Vl
namespace Vl
open Go.RowKit
def ub (c:UInt8):Value:=.int .u8 (c.toNat:Int)
theorem Du:(Tryz.prog.info? 5).map (fun i=>(i.zero,i.size,i.bytes))=some (some (.int .u8 0),1,1):=by kernel_rfl
def OB (w:World) (B:Nat) (v:Value) (l:List UInt8):Prop:=w.ownsRow B 5 1 v l.length (l.map ub)
theorem OB.conv {w:World} {B:Nat} {v:Value} {l:List UInt8} (h:OB w B v l):∃ a c,v=.slice a l.length c/\(convert 64 9 v).run Tryz.prog w=.ok (.string ⟨l.toArray⟩) w:=by
 rcases h.2 with ⟨h1,h2⟩ | ⟨g,c,cur,h1,h2,h3,h4,h5,h6,h7⟩
 ·have hl:=List.eq_nil_of_length_eq_zero h2
  subst hl h1
  exact ⟨none,0,rfl,run_convert_bytes_nil (P:=Tryz.prog) w 64 5 Tryz.underlying64 Tryz.underlying5 0 0 9 Tryz.underlying9⟩
 ·subst h1
  refine ⟨_,c,rfl,?_⟩
  have:=run_convert_bytes_back (P:=Tryz.prog) w 64 9 5 ⟨g,0,none⟩ c l Tryz.underlying64 Tryz.underlying5 Tryz.underlying9 (by
   intro j hj
   rw [WideShapes.add_plain,Nat.zero_add,World.ownsRow.cellAt h j (by omega)]
   simp [ub,hj])
  exact this
theorem DE {s:ByteArray} {p:Nat} (h:p<s.size) (X Y:List UInt8) (c:UInt8) (hs:s.data.toList=X++c::Y) (hp:p=X.length):s[p]=c:=by
  subst hp
  have h1:s.data.toList[X.length]?=some c:=by rw [hs];simp
  have h2:s.data[X.length]?=some c:=by simpa using h1
  have h3:s.data[X.length]'(by simpa using h)=c:=by
    have:=Array.getElem?_eq_getElem (xs:=s.data) (i:=X.length) (by simpa using h)
    rw [this] at h2
    exact sI h2
  exact h3
theorem og (s:ByteArray) (p:Nat) (X Y:List UInt8) (a b c:UInt8) (hs:s.data.toList=X++c::a::b::Y) (hp:p=X.length) (w:World) :
    (Instr.slice 9 (.string s) (some (.int .i64 ((p:Int)+1))) (some (.int .i64 ((p:Int)+3))) none).run Tryz.prog w=.ok (.string ⟨#[a,b]⟩) w:=by
  have hsz:s.size=X.length+(Y.length+3):=by
    have:s.data.toList.length=s.size:=by simp
    rw [<-this,hs];simp
  rw [run_slice_string w 9 s .i64 .i64 ((p:Int)+1) ((p:Int)+3) Tryz.underlying9 (by omega) (by omega) (by omega)]
  rw [show ((p:Int)+1).toNat=p+1 by omega,show ((p:Int)+3).toNat=p+3 by omega]
  congr 2
  apply ByteArray.ext
  apply Array.toList_inj.1
  rw [ByteArray.data_extract,Array.toList_extract,hs,hp]
  simp [List.extract]
theorem mP {w w2:World} {base:Nat} {e:TypeId} {size:Nat} {v:Value} {n:Nat} {xs:List Value} (h:w.ownsRow base e size v n xs) (hb:Below w.heap.size w w2):w2.ownsRow base e size v n xs:=by
  refine ⟨h.1,?_⟩
  rcases h.2 with h1 | ⟨g,cap,cur,h1,h2,h3,h4⟩
  · exact .inl h1
  · refine .inr ⟨g,cap,cur,h1,h2,?_,h4⟩
    have hlt:g<w.heap.size:=by
      rcases Nat.lt_or_ge g w.heap.size with h | h
      · exact h
      · rw [Array.getElem?_eq_none h] at h3;cases h3
    rw [hb.block g hlt];exact h3
theorem pK (x:List UInt8) (c:UInt8) (y:List UInt8):av (x++c::y)=av x++(nH c++av y):=by simp [av]
theorem nw (l:List UInt8) (w:World) (hl:l.length<=60) :
    Calls Tryz.prog 234 #[.string ⟨(av l).toArray⟩] w fun e w'=>e=.returned (.string ⟨l.toArray⟩)/\Below w.heap.size w w':=by
  obtain ⟨i0,hi0,hz0,hz1,hz2⟩:=info_parts Bl
  have hX:=fo l
  obtain ⟨s,hs⟩:∃ s:ByteArray,s=⟨(av l).toArray⟩:=⟨_,rfl⟩
  have HD:Hid (s.data.toList=av l):=by unfold Hid;rw [hs]
  have hsz:s.size<=180:=by
    have h1:s.data.toList.length=s.size:=by simp
    rw [<-h1,HD.out]
    omega
  rw [<-hs]
  clear hs hX
  go_in
  go_wp2
  go_loopw [3,4] (fun v i w'=>∃ k:Nat,k<=l.length/\i=.int .i64 ((av (l.take k)).length:Int)/\w'.ownsRow w.heap.size 5 1 v k ((l.take k).map lB)/\Below w.heap.size w w') (fun _ i _=>s.size-(intOf i).toNat)
  case atStart=>exact ⟨0,Nat.zero_le _,rfl,World.ownsRow_nil _ _ _ _,bR⟩
  case round=>
    obtain ⟨k,hk,rfl,hown,hb⟩:=hrel
    have hbs:=hb.size
    by_cases hlt:k<l.length
    · have hspl:l=l.take k++l[k]::l.drop (k+1):=by simp
      have HT:Hid (l.take (k+1)=l.take k++[l[k]]):=by unfold Hid;rw [List.take_succ_eq_append_getElem hlt]
      have HE:Hid (s.data.toList=av (l.take k)++(nH l[k]++av (l.drop (k+1)))):=by
        unfold Hid
        have h1:=congrArg av hspl
        rw [pK] at h1
        rw [HD.out]
        exact h1
      have HL:Hid ((av (l.take (k+1))).length=(av (l.take k)).length+(nH l[k]).length):=by unfold Hid;rw [HT.out,lh];simp
      generalize av (l.drop (k+1))=Y at *
      generalize hXX:av (l.take k)=X at *
      clear hspl hXX
      have t1:(0:Int)<=(l[k].toNat:Int):=by omega
      have t2:(l[k].toNat:Int)<=255:=by have:=UInt8.toNat_lt l[k];omega
      have hsl:s.size=X.length+((nH l[k]).length+Y.length):=by
        have h1:s.data.toList.length=s.size:=by simp
        rw [<-h1,HE.out];simp
      have HO:=jg hown
      clear hown
      cases hbr:gz l[k] with
      | true=>
        have he:nH l[k]=[l[k]]:=by unfold nH;rw [if_pos hbr]
        rw [he] at HE HL hsl
        have hlen:X.length<s.size:=by simp at hsl;omega
        have hg:=DE hlen X Y l[k] (by rw [HE.out];rfl) rfl
        have hn:((l[k].toNat:Int)==92)=false:=by
          have:=pL _ hbr
          simp
          intro h
          exact this (UInt8.toNat_inj.1 (by have h':l[k].toNat=92:=by omega
                                            rw [h'];rfl))
        have HSL:=jg hsl
        clear hsl he
        go_wp2_with (first
          | (at_builtin;refine wpList_append_own _ rfl _ _ 64 rfl w.heap.size 5 i0 (.int .u8 0) 1 1 Tryz.underlying64 hi0 hz0 hz1 hz2 rfl (by decide) _ _ _ rfl (HO.out.alloc _) ⟨wr.heap.size,0,none⟩ 1 1 [lB l[k]] rfl rfl ?c1 ?c2 ?c3 ?c4 ?c5 ?_))
        case c1=>
          intro j u hj
          match j,hj with
          | 0,hj=>simp at hj;subst hj;simp [Addr.add,lB]
        case c2=>intro u hu;simp at hu;subst hu;rfl
        case c3=>unfold maxLen;omega
        case c4=>omega
        case c5=>simp;omega
        · intro v' w1 hown' hgrow _
          have hB:=(hb.alloc hbs _).grown hgrow (by simp;omega) (fun j hj=>(HO.out.lt j hj).1)
          have HO':Hid (w1.ownsRow w.heap.size 5 1 v' (k+1) ((l.take (k+1)).map lB)):=by unfold Hid;rw [HT.out,List.map_append,List.map_take];exact hown'
          clear hown' hgrow HO hb
          go_wp2
          go_roundw
          case rel=>exact ⟨k+1,by omega,by rw [HL.out];go_num,HO'.out,hB⟩
          case measure=>simp [intOf];omega
      | false=>
        have he:nH l[k]=[92,db (l[k].toNat / 16),db (l[k].toNat % 16)]:=by unfold nH;rw [if_neg (by simp [hbr])]
        rw [he] at HE HL hsl
        have hlen:X.length<s.size:=by simp at hsl;omega
        have hlen2:X.length+2<s.size:=by simp at hsl;omega
        have hg:=DE hlen X _ 92 (by rw [HE.out];rfl) rfl
        have hs2:=og s X.length X Y (db (l[k].toNat / 16)) (db (l[k].toNat % 16)) 92 (by rw [HE.out];rfl) rfl
        have HSL:Hid (s.size=X.length+(3+Y.length)):=hsl
        have e16:((16*(l[k].toNat / 16)+l[k].toNat % 16:Nat):Int)=(l[k].toNat:Int):=by omega
        clear hsl he
        go_wp2_with fail
        refine (p7 (l[k].toNat / 16) (l[k].toNat % 16) (by have:=UInt8.toNat_lt l[k];omega) (by omega) wr).mono ?_
        rintro e w2 ⟨rfl,hb2⟩
        have HO2:=jg (mP HO.out hb2)
        have hB2:=hb.trans (hb2.mono hbs)
        have hbs2:=hB2.size
        rw [e16]
        clear hb2 hb HO hbs e16
        go_wp2_with (first
          | (at_builtin;refine wpList_append_own _ rfl _ _ 64 rfl w.heap.size 5 i0 (.int .u8 0) 1 1 Tryz.underlying64 hi0 hz0 hz1 hz2 rfl (by decide) _ _ _ rfl (HO2.out.alloc _) ⟨w2.heap.size,0,none⟩ 1 1 [lB l[k]] rfl rfl ?c1 ?c2 ?c3 ?c4 ?c5 ?_))
        case c1=>
          intro j u hj
          match j,hj with
          | 0,hj=>simp at hj;subst hj;simp [Addr.add,lB]
        case c2=>intro u hu;simp at hu;subst hu;rfl
        case c3=>unfold maxLen;omega
        case c4=>omega
        case c5=>simp;omega
        · intro v' w1 hown' hgrow _
          have hB:=(hB2.alloc hbs2 _).grown hgrow (by simp;omega) (fun j hj=>(HO2.out.lt j hj).1)
          have HO':Hid (w1.ownsRow w.heap.size 5 1 v' (k+1) ((l.take (k+1)).map lB)):=by unfold Hid;rw [HT.out,List.map_append,List.map_take];exact hown'
          clear hown' hgrow HO2 hB2
          go_wp2
          go_roundw
          case rel=>exact ⟨k+1,by omega,by rw [HL.out];go_num,HO'.out,hB⟩
          case measure=>simp [intOf];omega
    · have hkl:k=l.length:=by omega
      have HT:Hid (l.take k=l):=by unfold Hid;rw [List.take_of_length_le (by omega)]
      have hlen:(av (l.take k)).length=s.size:=by
        have h1:s.data.toList.length=s.size:=by simp
        rw [HT.out,<-h1,HD.out]
      have hc1:¬ (((av (l.take k)).length:Int)<(s.size:Int)):=by omega
      have hcv:∀ W,W=wr->(convert 64 9 u3).run Tryz.prog W=.ok (.string ⟨l.toArray⟩) W:=by
        rintro W rfl
        rw [HT.out] at hown
        rcases hown.2 with ⟨rfl,h0⟩ | ⟨g,cap,cur,rfl,_⟩
        · have:l=[]:=List.length_eq_zero_iff.1 (by omega)
          subst this
          show Sem.run Tryz.prog _ _=_
          kernel_rfl
        · exact qE l hown
      have hcv':=hcv wr rfl
      clear hcv hown
      generalize (av (l.take k)).length=p at *
      go_wp2
      go_ret
      exact ⟨rfl,hb⟩
theorem am {w wx:World} {a:Addr} (hb:Below w.heap.size w wx) (ha:a.block<w.heap.size) (h:w.frozen? a=false):wx.frozen? a=false:=(hb.frozen ha).trans h
theorem yv (X:List UInt8):Lib.trimPrefix (39::X) [39]=X/\Lib.hasPrefix (39::X) [39]=true:=by
 unfold Lib.trimPrefix Lib.hasPrefix
 simp [List.isPrefixOf]
theorem uZ (X:List UInt8):Lib.trimSuffix (X++[39]) [39]=X:=by
 unfold Lib.trimSuffix Lib.hasSuffix
 have:List.isSuffixOf [39] (X++[39])=true:=by
  rw [List.isSuffixOf_iff_suffix];exact List.suffix_append X [39]
 simp [this]
theorem td (l:List UInt8) (w:World) (hl:l.length<=60) :
 Calls Tryz.prog 206 #[.string ⟨(39::av l++[39]).toArray⟩] w fun e w'=>e=.returned (.agg #[.int .i64 3,.int .i64 0,.string ⟨l.toArray⟩])/\Below w.heap.size w w':=by
 have hX:=fo l
 have h1:=yv (av l++[39])
 have h2:=uZ (av l)
 have h3:(⟨(39::av l++[39]).toArray⟩:ByteArray).data.toList=39::(av l++[39]):=by simp
 have h4:(⟨(av l++[39]).toArray⟩:ByteArray).data.toList=av l++[39]:=by simp
 have HC:∀ W,Calls Tryz.prog 232 #[.string ⟨(39::av l++[39]).toArray⟩,.string ⟨#[39]⟩] W fun e w'=>e=.returned (.tuple #[.string ⟨(av l++[39]).toArray⟩,.bool true])/\w'=W:=by
  intro W
  have:=Tryz.strings_CutPrefix ⟨(39::av l++[39]).toArray⟩ ⟨#[39]⟩ W
  rw [h3,show (⟨#[39]⟩:ByteArray).data.toList=[39] from rfl,h1.1,h1.2] at this
  exact this
 have HT:∀ W,Calls Tryz.prog 235 #[.string ⟨(av l++[39]).toArray⟩,.string ⟨#[39]⟩] W fun e w'=>e=.returned (.string ⟨(av l).toArray⟩)/\w'=W:=by
  intro W
  have:=Tryz.strings_TrimSuffix ⟨(av l++[39]).toArray⟩ ⟨#[39]⟩ W (by show (av l++[39]).toArray.size<=_;simp;omega)
  rw [h4,show (⟨#[39]⟩:ByteArray).data.toList=[39] from rfl,h2] at this
  exact this
 have HC':Hid _:=HC
 have HT':Hid _:=HT
 clear HC HT h1 h2 h3 h4 hX
 generalize (⟨(39::av l++[39]).toArray⟩:ByteArray)=s at *
 generalize (⟨(av l++[39]).toArray⟩:ByteArray)=s2 at *
 go_in
 go_wp2_with fail
 refine (HC'.out _).mono ?_
 rintro e w1 ⟨rfl,rfl⟩
 go_wp2_with fail
 refine (HT'.out _).mono ?_
 rintro e w1 ⟨rfl,rfl⟩
 go_wp2_with fail
 refine (nw l _ hl).mono ?_
 rintro e w1 ⟨rfl,hb1⟩
 have hf0:=am (a:=⟨w.heap.size,0,none⟩) hb1 (by simp) (by simp)
 have hf1:=am (a:=⟨w.heap.size,1,none⟩) hb1 (by simp) (by simp)
 have hf2:=am (a:=⟨w.heap.size,2,none⟩) hb1 (by simp) (by simp)
 have hc0:=al (a:=⟨w.heap.size,0,none⟩) (v:=.int .i64 0) hb1 (by go_simp)
 have hc1:=al (a:=⟨w.heap.size,1,none⟩) (v:=.int .i64 0) hb1 (by go_simp)
 have hc2:=al (a:=⟨w.heap.size,2,none⟩) (v:=.string ⟨#[]⟩) hb1 (by go_simp)
 have hB1:=(dI w _).trans (hb1.mono (by simp))
 clear hb1
 go_wp2_with fail
 refine (ky _ _).mono ?_
 rintro e w2 ⟨rfl,hb2⟩
 have hlt:w.heap.size<w1.heap.size:=bL hc0
 replace hf0:=am hb2 hlt hf0
 replace hf1:=am hb2 hlt hf1
 replace hf2:=am hb2 hlt hf2
 replace hc0:=al hb2 hc0
 replace hc1:=al hb2 hc1
 replace hc2:=al hb2 hc2
 have hB2:=hB1.trans (hb2.mono hB1.size)
 clear hb2 hB1 hlt HC' HT'
 go_wp2
 exact bodyPost_ret (v:=.agg #[.int .i64 3,.int .i64 0,.string ⟨l.toArray⟩]) (by simp [results,Tryz.results206,go_sem,hc0,hc1,hc2]) rfl ⟨rfl,((hB2.setCell lR _).setCell lR _).setCell lR _⟩
theorem uV (c:UInt8) (X:List UInt8) (h:c≠39):Lib.trimPrefix (c::X) [39]=c::X/\Lib.hasPrefix (c::X) [39]=false:=by
 have:Lib.hasPrefix (c::X) [39]=false:=by
  unfold Lib.hasPrefix
  simp [List.isPrefixOf]
  exact fun e=>h e.symm
 unfold Lib.trimPrefix
 rw [this]
 exact ⟨rfl,rfl⟩
theorem dR (s:ByteArray) (c:UInt8) (X:List UInt8) (hs:s.data.toList=c::X) (h:c≠39) (W:World) :
 Calls Tryz.prog 232 #[.string s,.string ⟨#[39]⟩] W fun e w'=>e=.returned (.tuple #[.string s,.bool false])/\w'=W:=by
 have h1:=uV c X h
 have:=Tryz.strings_CutPrefix s ⟨#[39]⟩ W
 rw [hs,show (⟨#[39]⟩:ByteArray).data.toList=[39] from rfl,h1.1,h1.2,<-hs] at this
 exact this
theorem mu (w:World) :
 Calls Tryz.prog 206 #[.string ⟨#[116,114,117,101]⟩] w fun e w'=>e=.returned (.agg #[.int .i64 2,.int .i64 1,.string ⟨#[]⟩])/\Below w.heap.size w w':=by
 go_in
 go_wp2_with fail
 refine (dR _ 116 [114,117,101] rfl (by decide) _).mono ?_
 rintro e w1 ⟨rfl,rfl⟩
 go_wp2_with fail
 refine (mC _).mono ?_
 rintro e w1 ⟨rfl,hb1⟩
 have hf0:=am (a:=⟨w.heap.size,0,none⟩) hb1 (by simp) (by simp)
 have hf1:=am (a:=⟨w.heap.size,1,none⟩) hb1 (by simp) (by simp)
 have hf2:=am (a:=⟨w.heap.size,2,none⟩) hb1 (by simp) (by simp)
 have hc0:=al (a:=⟨w.heap.size,0,none⟩) (v:=.int .i64 0) hb1 (by go_simp)
 have hc1:=al (a:=⟨w.heap.size,1,none⟩) (v:=.int .i64 0) hb1 (by go_simp)
 have hc2:=al (a:=⟨w.heap.size,2,none⟩) (v:=.string ⟨#[]⟩) hb1 (by go_simp)
 have hB1:=(dI w _).trans (hb1.mono (by simp))
 clear hb1
 go_wp2
 exact bodyPost_ret (v:=.agg #[.int .i64 2,.int .i64 1,.string ⟨#[]⟩]) (by simp [results,Tryz.results206,go_sem,hc0,hc1,hc2]) rfl ⟨rfl,((hB1.setCell lR _).setCell lR _).setCell lR _⟩
theorem ld (w:World) :
 Calls Tryz.prog 206 #[.string ⟨#[102,97,108,115,101]⟩] w fun e w'=>e=.returned (.agg #[.int .i64 2,.int .i64 0,.string ⟨#[]⟩])/\Below w.heap.size w w':=by
 go_in
 go_wp2_with fail
 refine (dR _ 102 [97,108,115,101] rfl (by decide) _).mono ?_
 rintro e w1 ⟨rfl,rfl⟩
 go_wp2_with fail
 refine (kY _).mono ?_
 rintro e w1 ⟨rfl,hb1⟩
 have hf0:=am (a:=⟨w.heap.size,0,none⟩) hb1 (by simp) (by simp)
 have hf1:=am (a:=⟨w.heap.size,1,none⟩) hb1 (by simp) (by simp)
 have hf2:=am (a:=⟨w.heap.size,2,none⟩) hb1 (by simp) (by simp)
 have hc0:=al (a:=⟨w.heap.size,0,none⟩) (v:=.int .i64 0) hb1 (by go_simp)
 have hc1:=al (a:=⟨w.heap.size,1,none⟩) (v:=.int .i64 0) hb1 (by go_simp)
 have hc2:=al (a:=⟨w.heap.size,2,none⟩) (v:=.string ⟨#[]⟩) hb1 (by go_simp)
 have hB1:=(dI w _).trans (hb1.mono (by simp))
 clear hb1
 go_wp2
 exact bodyPost_ret (v:=.agg #[.int .i64 2,.int .i64 0,.string ⟨#[]⟩]) (by simp [results,Tryz.results206,go_sem,hc0,hc1,hc2]) rfl ⟨rfl,((hB1.setCell lR _).setCell lR _).setCell lR _⟩
theorem uN (n:Int):∃ c X,Lib.itoa n=c::X/\(c.toNat=45\/(48<=c.toNat/\c.toNat<=57)):=by
 by_cases hn:n<0
 ·exact ⟨45,Lib.decDigits n.natAbs,by unfold Lib.itoa;rw [if_pos hn],.inl rfl⟩
 ·obtain ⟨c,r,e,h1,h2⟩:=kj n.toNat
  exact ⟨c,r,by unfold Lib.itoa;rw [if_neg hn,e],.inr ⟨h1,h2⟩⟩
theorem vc (n:Int) (w:World) (h0:-9223372036854775808<=n) (h1:n<=9223372036854775807) :
 Calls Tryz.prog 206 #[.string ⟨(Lib.itoa n).toArray⟩] w fun e w'=>e=.returned (.agg #[.int .i64 1,.int .i64 n,.string ⟨#[]⟩])/\Below w.heap.size w w':=by
 have hp:=jH n h0 h1
 have hlen:=Lib.itoa_length_le n h0 h1
 obtain ⟨c,X,e,hc⟩:=uN n
 obtain ⟨s,hs⟩:∃ s:ByteArray,s=⟨(Lib.itoa n).toArray⟩:=⟨_,rfl⟩
 have hd:s.data.toList=Lib.itoa n:=by rw [hs]
 rw [<-hs]
 have hl:s.toList=c::X:=by rw [ByteArray.toList_eq];rw [hd,e]
 have HC:Hid (∀ W,Calls Tryz.prog 232 #[.string s,.string ⟨#[39]⟩] W fun e w'=>e=.returned (.tuple #[.string s,.bool false])/\w'=W):=
  dR s c X (by rw [hd,e]) (by rintro rfl;simp at hc)
 have q1:(s.toList==[116,114,117,101])=false:=by rw [hl];simp;rintro rfl;simp at hc
 have q2:(s.toList==[102,97,108,115,101])=false:=by rw [hl];simp;rintro rfl;simp at hc
 have hsz:s.size<=9223372036854775806:=by
  have h3:s.data.toList.length=s.size:=by simp
  rw [<-h3,hd];omega
 have HP:Hid (∀ W,Calls Tryz.prog 237 #[.string s,.int .i64 10,.int .i64 64] W fun e w'=>e=.returned (.tuple #[.int .i64 n,.nilIface])/\Below W.heap.size W w'):=by
  intro W
  refine (Tryz.strconv_ParseInt_10_at64_ok s hsz n (by rw [hd];exact hp) W).mono ?_
  rintro e w' ⟨rfl,hw⟩
  refine ⟨rfl,?_⟩
  rcases hw with rfl | ⟨t,rfl⟩
  ·exact bR
  ·exact fW _ _ _
 clear hp hlen e hc hs hd hl hsz h0 h1
 go_in
 go_wp2_with fail
 refine (HC.out _).mono ?_
 rintro e w1 ⟨rfl,rfl⟩
 go_wp2_with fail
 refine (HP.out _).mono ?_
 rintro e w1 ⟨rfl,hb1⟩
 have hf0:=am (a:=⟨w.heap.size,0,none⟩) hb1 (by simp) (by simp)
 have hf1:=am (a:=⟨w.heap.size,1,none⟩) hb1 (by simp) (by simp)
 have hf2:=am (a:=⟨w.heap.size,2,none⟩) hb1 (by simp) (by simp)
 have hc0:=al (a:=⟨w.heap.size,0,none⟩) (v:=.int .i64 0) hb1 (by go_simp)
 have hc1:=al (a:=⟨w.heap.size,1,none⟩) (v:=.int .i64 0) hb1 (by go_simp)
 have hc2:=al (a:=⟨w.heap.size,2,none⟩) (v:=.string ⟨#[]⟩) hb1 (by go_simp)
 have hB1:=(dI w _).trans (hb1.mono (by simp))
 clear hb1
 go_wp2_with fail
 refine (s4 _ _).mono ?_
 rintro e w2 ⟨rfl,hb2⟩
 have hlt:w.heap.size<w1.heap.size:=bL hc0
 replace hf0:=am hb2 hlt hf0
 replace hf1:=am hb2 hlt hf1
 replace hf2:=am hb2 hlt hf2
 replace hc0:=al hb2 hc0
 replace hc1:=al hb2 hc1
 replace hc2:=al hb2 hc2
 have hB2:=hB1.trans (hb2.mono hB1.size)
 clear hb2 hB1 hlt HC HP
 go_wp2
 exact bodyPost_ret (v:=.agg #[.int .i64 1,.int .i64 n,.string ⟨#[]⟩]) (by simp [results,Tryz.results206,go_sem,hc0,hc1,hc2]) rfl ⟨rfl,((hB2.setCell lR _).setCell lR _).setCell lR _⟩
theorem sM (w:World) (ev:Value) (hv:w.cell? ⟨7,0,none⟩=some ev) (hev:ev=.nilIface\/∃ te pe,ev=.iface te pe) :
 Calls Tryz.prog 206 #[.string ⟨#[110,117,108,108]⟩] w fun e w'=>e=.returned (.agg #[.int .i64 0,.int .i64 0,.string ⟨#[]⟩])/\Below w.heap.size w w':=by
 have HV:Hid (w.cell? ⟨7,0,none⟩=some ev):=hv
 have HP:Hid (∀ W,W.cell? ⟨7,0,none⟩=some ev->Calls Tryz.prog 237 #[.string ⟨#[110,117,108,108]⟩,.int .i64 10,.int .i64 64] W fun e w'=>∃ N,e=.returned (.tuple #[.int .i64 0,.iface 328 (.pointer (some ⟨N,0,none⟩))])/\Below W.heap.size W w'):=by
  intro W hW
  refine (Any.strconv_ParseInt_10_at64_syntax Tryz.laysC174 ⟨#[110,117,108,108]⟩ (by decide) (by decide) ev W hW hev).mono ?_
  rintro e w' ⟨N,rfl,_,_,hb⟩
  exact ⟨N,rfl,hb⟩
 clear hv hev
 go_in
 go_wp2_with fail
 refine (dR _ 110 [117,108,108] rfl (by decide) _).mono ?_
 rintro e w1 ⟨rfl,rfl⟩
 go_wp2_with fail
 refine (HP.out _ (al (dI w _) HV.out)).mono ?_
 rintro e w1 ⟨N,rfl,hb1⟩
 have hf0:=am (a:=⟨w.heap.size,0,none⟩) hb1 (by simp) (by simp)
 have hf1:=am (a:=⟨w.heap.size,1,none⟩) hb1 (by simp) (by simp)
 have hf2:=am (a:=⟨w.heap.size,2,none⟩) hb1 (by simp) (by simp)
 have hc0:=al (a:=⟨w.heap.size,0,none⟩) (v:=.int .i64 0) hb1 (by go_simp)
 have hc1:=al (a:=⟨w.heap.size,1,none⟩) (v:=.int .i64 0) hb1 (by go_simp)
 have hc2:=al (a:=⟨w.heap.size,2,none⟩) (v:=.string ⟨#[]⟩) hb1 (by go_simp)
 have hB1:=(dI w _).trans (hb1.mono (by simp))
 clear hb1 HP HV
 go_wp2
 exact bodyPost_ret (v:=.agg #[.int .i64 0,.int .i64 0,.string ⟨#[]⟩]) (by simp [results,Tryz.results206,go_sem,hc0,hc1,hc2]) rfl ⟨rfl,((hB1.setCell lR _).setCell lR _).setCell lR _⟩
attribute [local go_sem ↓] uo uA
attribute [local go_sem] lG
def Sen (w:World):Prop:=∃ ev,w.cell? ⟨7,0,none⟩=some ev/\(ev=.nilIface\/∃ te pe,ev=.iface te pe)
theorem Sen.later {w w':World} (h:Sen w) (hb:Below w.heap.size w w'):Sen w':=by
 obtain ⟨ev,h1,h2⟩:=h
 exact ⟨ev,al hb h1,h2⟩
theorem tr (k n:Int) (s:ByteArray) (w:World) (hv:validB k n s=true) (h0:-9223372036854775808<=n) (h1:n<=9223372036854775807) (hs:Sen w) :
 Calls Tryz.prog 206 #[.string (showB k n s)] w fun e w'=>e=.returned (.agg #[.int .i64 k,.int .i64 n,.string s])/\Below w.heap.size w w':=by
 rw [io hv]
 rcases valid_form hv with ⟨rfl,rfl,rfl⟩ | ⟨rfl,rfl⟩ | ⟨rfl,rfl,rfl⟩ | ⟨rfl,rfl,rfl⟩ | ⟨rfl,rfl,hs1⟩
 ·obtain ⟨ev,e1,e2⟩:=hs
  exact sM w ev e1 e2
 ·exact vc n w h0 h1
 ·exact mu w
 ·exact ld w
 ·have:=td s.data.toList w (by simpa using hs1)
  rw [show (⟨s.data.toList.toArray⟩:ByteArray)=s by apply ByteArray.ext;simp] at this
  exact this
theorem uY (k n:Int) (s:ByteArray) (w:World) (hv:validB k n s=true) (hsz:s.size<=maxLen) (h0:-9223372036854775808<=n) (h1:n<=9223372036854775807) (hs:Sen w) (ht:Tab w) :
 Calls Tryz.prog 172 #[.string (showB k n s)] w fun e w'=>e=.returned (.tuple #[.agg #[.int .i64 k,.int .i64 n,.string s],.nilIface])/\Below w.heap.size w w':=by
 have HG:Hid (∀ W,Below w.heap.size w W->Calls Tryz.prog 206 #[.string (showB k n s)] W fun e w'=>e=.returned (.agg #[.int .i64 k,.int .i64 n,.string s])/\Below W.heap.size W w'):=
  fun W hW=>tr k n s W hv h0 h1 (hs.later hW)
 have HS:Hid (∀ W,Below w.heap.size w W->Calls Tryz.prog 207 #[.agg #[.int .i64 k,.int .i64 n,.string s]] W fun e w'=>e=.returned (.string (showB k n s))/\Below W.heap.size W w'):=
  fun W hW=>show_any k n s W hsz h0 h1 (ht.later hW)
 generalize showB k n s=S at *
 go_in
 go_wp2_with fail
 refine (HG.out _ (dI w _)).mono ?_
 rintro e w1 ⟨rfl,hb1⟩
 have hf0:=am (a:=⟨w.heap.size,0,none⟩) hb1 (by simp) (by simp)
 have hf1:=am (a:=⟨w.heap.size,1,none⟩) hb1 (by simp) (by simp)
 have hf2:=am (a:=⟨w.heap.size,2,none⟩) hb1 (by simp) (by simp)
 have hc0:=al (a:=⟨w.heap.size,0,none⟩) (v:=.int .i64 0) hb1 (by go_simp)
 have hc1:=al (a:=⟨w.heap.size,1,none⟩) (v:=.int .i64 0) hb1 (by go_simp)
 have hc2:=al (a:=⟨w.heap.size,2,none⟩) (v:=.string ⟨#[]⟩) hb1 (by go_simp)
 have hB1:=(dI w _).trans (hb1.mono (by simp))
 have hlt:w.heap.size<w1.heap.size:=bL hc0
 go_wp2_with fail
 have hA:=dI w1 (.cells #[.int .i64 k,.int .i64 n,.string s] 148)
 replace hf0:=am hA hlt hf0
 replace hf1:=am hA hlt hf1
 replace hf2:=am hA hlt hf2
 replace hc0:=al hA hc0
 replace hc1:=al hA hc1
 replace hc2:=al hA hc2
 have d0:(w1.alloc (.cells #[.int .i64 k,.int .i64 n,.string s] 148)).cell? ⟨w1.heap.size,0,none⟩=some (.int .i64 k):=by go_simp
 have d1:(w1.alloc (.cells #[.int .i64 k,.int .i64 n,.string s] 148)).cell? ⟨w1.heap.size,1,none⟩=some (.int .i64 n):=by go_simp
 have d2:(w1.alloc (.cells #[.int .i64 k,.int .i64 n,.string s] 148)).cell? ⟨w1.heap.size,2,none⟩=some (.string s):=by go_simp
 replace hB1:=hB1.trans (hA.mono hB1.size)
 have hlt2:w.heap.size<(w1.alloc (.cells #[.int .i64 k,.int .i64 n,.string s] 148)).heap.size:=bL hc0
 generalize hW:w1.alloc (.cells #[.int .i64 k,.int .i64 n,.string s] 148)=W at *
 refine (HS.out W hB1).mono ?_
 rintro e w2 ⟨rfl,hb2⟩
 replace hf0:=am hb2 hlt2 hf0
 replace hf1:=am hb2 hlt2 hf1
 replace hf2:=am hb2 hlt2 hf2
 replace hc0:=al hb2 hc0
 replace hc1:=al hb2 hc1
 replace hc2:=al hb2 hc2
 replace d0:=al hb2 d0
 replace d1:=al hb2 d1
 replace d2:=al hb2 d2
 replace hB1:=hB1.trans (hb2.mono hB1.size)
 have hne:¬ w1.heap.size=w.heap.size:=by omega
 have hne':¬ w.heap.size=w1.heap.size:=by omega
 go_wp2
 exact bodyPost_ret (v:=.tuple #[.agg #[.int .i64 k,.int .i64 n,.string s],.nilIface]) (by simp [results,Tryz.results172,go_sem,hc0,hc1,hc2]) rfl ⟨rfl,((hB1.setCell lR _).setCell lR _).setCell lR _⟩
end Vl
namespace Vl
open Go.RowKit
theorem qZ (x y:UInt8) (w:World) :
 Calls Tryz.prog 275 #[.string ⟨#[x,y]⟩,.int .i64 16,.int .i64 8] w (CP (Lib.bytesWorld w 5 ⟨#[x,y]⟩)):=by
 have hx:=UInt8.toNat_lt x
 have hy:=UInt8.toNat_lt y
 have lx:bits .or .u8 (x.toNat:Int) 32=((x.toNat ||| 32:Nat):Int):=u8_or_nat x.toNat 32 hx (by decide)
 have ly:bits .or .u8 (y.toNat:Int) 32=((y.toNat ||| 32:Nat):Int):=u8_or_nat y.toNat 32 hy (by decide)
 have bx:x.toNat ||| 32<256:=Nat.or_lt_two_pow (n:=8) (by omega) (by decide)
 have by_:y.toNat ||| 32<256:=Nat.or_lt_two_pow (n:=8) (by omega) (by decide)
 have hcv:=Lib.run_convert_string_bytes w 9 64 5 ⟨#[x,y]⟩ Tryz.underlying9 Tryz.underlying64 Tryz.underlying5
 have c0:=Lib.bytesWorld_cell w 5 ⟨#[x,y]⟩ 0 (by show (0:Nat)<2;omega)
 have c1:=Lib.bytesWorld_cell w 5 ⟨#[x,y]⟩ 1 (by show (1:Nat)<2;omega)
 rcases xE x.toNat hx with h1 | h1
 ·rcases xE y.toNat hy with h2 | h2
  ·exact tD ⟨#[x,y]⟩ x.toNat y.toNat _ _ _ w _ rfl (by simp) hcv c0 c1 hx hy lx ly bx by_ h1 h2
  ·exact qr ⟨#[x,y]⟩ x.toNat y.toNat _ _ _ w _ rfl (by simp) hcv c0 c1 hx hy lx ly bx by_ h1 h2
 ·exact rD ⟨#[x,y]⟩ x.toNat y.toNat _ _ w _ rfl (by simp) hcv c0 c1 hx lx bx h1
def PU (w:World) (e:Ending) (w':World):Prop:=Below w.heap.size w w'/\((∃ v:Nat,v<256/\e=.returned (.tuple #[.int .u64 (v:Int),.nilIface]))\/∃ N,e=.returned (.tuple #[.int .u64 0,.iface 328 (.pointer (some ⟨N,0,none⟩))]))
theorem ns (x y:UInt8) (w:World) (hs:Sen w) :
 Calls Tryz.prog 262 #[.string ⟨#[x,y]⟩,.int .i64 16,.int .i64 8] w (PU w):=by
 have HS:=jg hs
 clear hs
 obtain ⟨s,hse⟩:∃ s:ByteArray,s=⟨#[x,y]⟩:=⟨_,rfl⟩
 have hsz:s.size=2:=by rw [hse];rfl
 have HP:=qZ x y w
 rw [<-hse] at HP ⊢
 have HP':=jg HP
 clear HP hse
 go_in
 go_wp2_with fail
 refine HP'.out.mono ?_
 rintro e w1 ⟨rfl,hc⟩
 have hb:=fW w 5 s
 rcases hc with ⟨v,hv,rfl⟩ | rfl
 ·have FIN:Hid (PU w (.returned (.tuple #[.int .u64 (v:Int),.nilIface])) (Lib.bytesWorld w 5 s)):=⟨hb,.inl ⟨v,hv,rfl⟩⟩
  clear hb
  generalize Lib.bytesWorld w 5 s=w1 at *
  go_wp2
  go_ret2
  exact FIN.out
 ·obtain ⟨ev,hev1,hev2⟩:=HS.out.later hb
  have HB:=jg hb
  clear hb
  generalize Lib.bytesWorld w 5 s=w1 at *
  have HT:Hid (Calls Tryz.prog 265 #[.string ⟨#[80,97,114,115,101,85,105,110,116]⟩,.string s,.int .i64 16,.int .i64 8,.iface 327 (.int .i64 2)] w1 fun e w'=>∃ N,e=.returned (.iface 328 (.pointer (some ⟨N,0,none⟩)))/\Below w1.heap.size w1 w'):=by
   refine (Any.strconv_toError_syntax (ρ:=Tryz.laysC174_ren) { Tryz.laysC174 with } ⟨#[80,97,114,115,101,85,105,110,116]⟩ s 16 8 ev w1 (by omega) hev1 hev2).mono ?_
   rintro e w' ⟨N,rfl,_,_,hb⟩
   exact ⟨N,rfl,hb⟩
  go_wp2_with fail
  refine HT.out.mono ?_
  rintro e w2 ⟨N,rfl,hb2⟩
  have FIN:Hid (PU w (.returned (.tuple #[.int .u64 0,.iface 328 (.pointer (some ⟨N,0,none⟩))])) w2):=⟨HB.out.trans (hb2.mono HB.out.size),.inr ⟨N,rfl⟩⟩
  clear hb2
  go_wp2
  go_ret2
  exact FIN.out
theorem sR (s:ByteArray) (k:Nat) (h:k+2<s.size) (w:World) :
 (Instr.slice 9 (.string s) (some (.int .i64 ((k:Int)+1))) (some (.int .i64 ((k:Int)+3))) none).run Tryz.prog w=.ok (.string ⟨#[s[k+1],s[k+2]]⟩) w:=by
 have hlen:s.data.toList.length=s.size:=by simp
 have g:∀ i (hi:i<s.size),s.data.toList[i]'(by omega)=s[i]:=fun i hi=>by simp [ByteArray.getElem_eq_getElem_data]
 have e:s.data.toList=s.data.toList.take k++s[k]::s[k+1]::s[k+2]::s.data.toList.drop (k+3):=by
  conv=>lhs;rw [<-List.take_append_drop k s.data.toList,List.drop_eq_getElem_cons (by omega),List.drop_eq_getElem_cons (by omega),List.drop_eq_getElem_cons (by omega)]
  rw [g k (by omega),g (k+1) (by omega),g (k+2) (by omega)]
 exact og s k _ _ _ _ _ e (by rw [List.length_take];omega) w
def zE (w:World) (s:ByteArray) (e:Ending) (w':World):Prop:=∃ t:ByteArray,e=.returned (.string t)/\t.size<=s.size/\Below w.heap.size w w'
def xS (w:World) (s:ByteArray) (b i:Value) (w':World):Prop:=∃ (k:Nat) (d:List UInt8),k<=s.size/\i=.int .i64 k/\OB w' w.heap.size b d/\d.length<=k/\Below w.heap.size w w'
theorem nu (s:ByteArray) (w:World) (hs:s.size<=140737488355327) (hsen:Sen w) :
 Calls Tryz.prog 234 #[.string s] w (zE w s):=by
 obtain ⟨i0,hi0,hz0,hz1,hz2⟩:=info_parts Du
 have HSN:=jg hsen
 go_in
 go_wp2
 go_loopw [3,4] (fun b i w'=>xS w s b i w') (fun _ i _=>s.size-(intOf i).toNat)
 case atStart=>exact ⟨0,[],Nat.zero_le _,rfl,World.ownsRow_nil _ _ _ _,Nat.zero_le _,bR⟩
 case round=>
  obtain ⟨k,d,hk,rfl,ho,hdk,hb⟩:=hrel
  have HO:=jg ho
  have HB:=jg hb
  have hsz:=hb.size
  by_cases hlt:k<s.size
  ·have hki:(k:Int)<(s.size:Int):=by omega
   have hc2:=UInt8.toNat_lt s[k]
   by_cases hA:s[k].toNat=92/\k+2<s.size
   ·obtain ⟨h92,hk2⟩:=hA
    have hb92:((s[k].toNat:Int)==92)=true:=by rw [beq_iff_eq];omega
    have h2i:(k:Int)+2<(s.size:Int):=by omega
    have hsl:=sR s k hk2
    have HPU:Hid (Calls Tryz.prog 262 #[.string ⟨#[s[k+1],s[k+2]]⟩,.int .i64 16,.int .i64 8] wr (PU wr)):=ns _ _ wr (HSN.out.later HB.out)
    generalize (⟨#[s[k+1],s[k+2]]⟩:ByteArray)=P at *
    go_wp2_with fail
    refine HPU.out.mono ?_
    rintro e w2 ⟨hb2,hcase⟩
    have HO2:Hid (OB w2 w.heap.size u3 d):=mP HO.out hb2
    have HB2:=jg (HB.out.trans (hb2.mono hsz))
    have hsz2:=HB2.out.size
    rcases hcase with ⟨v,hv,rfl⟩ | ⟨N,rfl⟩
    ·have hwu:IntKind.u8.wrap (v:Int)=(v:Int):=by rw [IntKind.wrap_u8'];omega
     obtain ⟨c0,hc0⟩:∃ c0:UInt8,(c0.toNat:Int)=(v:Int):=⟨UInt8.ofNat v,by rw [UInt8.toNat_ofNat'];omega⟩
     have HC0:=jg hc0
     go_wp2_with (first
      | (at_builtin;refine wpList_append_own_at _ rfl _ _ 64 rfl w.heap.size 5 i0 (.int .u8 0) 1 1 Tryz.underlying64 hi0 hz0 hz1 hz2 rfl (by decide) _ d.length (d.map ub) rfl (World.ownsRow.alloc HO2.out _) ⟨w2.heap.size,0,none⟩ 1 1 [ub c0] rfl rfl ?c1 ?c2 ?c3 ?c4 ?c5 ?_))
     case c1=>
      intro j u hj
      match j,hj with
      | 0,hj=>simp at hj;subst hj;simp [Addr.add,ub,HC0.out]
     case c2=>first | rfl | (intro u hu;simp at hu;subst hu;rfl)
     case c3=>unfold maxLen;omega
     case c4=>omega
     case c5=>first | omega | (simp;omega)
     ·intro v' w5 hown' hgrow _ hat
      have hb5:=(HB2.out.alloc hsz2 _).grown hgrow (by simp;omega) (fun j hj=>(World.ownsRow.lt HO2.out j hj).1)
      have hO5:OB w5 w.heap.size v' (d++[c0]):=by unfold OB;rw [List.length_append,List.map_append];exact hown'
      have HR':Hid (xS w s v' (.int .i64 ((k:Int)+3)) w5):=⟨k+3,d++[c0],by omega,by go_num,hO5,by simp;omega,hb5⟩
      go_wp2
      go_roundw
      case rel=>(first | exact HR'.out | (have h:=HR'.out;rw [show (k:Int)+3=(k:Int)+2+1 by omega] at h;exact h))
      case measure=>simp [intOf];omega
    ·go_wp2_with (first
      | (at_builtin;refine wpList_append_own_at _ rfl _ _ 64 rfl w.heap.size 5 i0 (.int .u8 0) 1 1 Tryz.underlying64 hi0 hz0 hz1 hz2 rfl (by decide) _ d.length (d.map ub) rfl (World.ownsRow.alloc HO2.out _) ⟨w2.heap.size,0,none⟩ 1 1 [ub 92] rfl rfl ?c1 ?c2 ?c3 ?c4 ?c5 ?_))
     case c1=>
      intro j u hj
      match j,hj with
      | 0,hj=>simp at hj;subst hj;simp [Addr.add,ub]
     case c2=>first | rfl | (intro u hu;simp at hu;subst hu;rfl)
     case c3=>unfold maxLen;omega
     case c4=>omega
     case c5=>first | omega | (simp;omega)
     ·intro v' w5 hown' hgrow _ hat
      have hb5:=(HB2.out.alloc hsz2 _).grown hgrow (by simp;omega) (fun j hj=>(World.ownsRow.lt HO2.out j hj).1)
      have hO5:OB w5 w.heap.size v' (d++[92]):=by unfold OB;rw [List.length_append,List.map_append];exact hown'
      have HR':Hid (xS w s v' (.int .i64 ((k:Int)+1)) w5):=⟨k+1,d++[92],by omega,by go_num,hO5,by simp;omega,hb5⟩
      go_wp2
      go_roundw
      case rel=>exact HR'.out
      case measure=>simp [intOf];omega
   ·obtain ⟨X,hX⟩:∃ X:Nat,X=s[k].toNat:=⟨_,rfl⟩
    have hor:(¬ X=92)\/(X=92/\¬ k+2<s.size):=by
     by_cases h:X=92
     ·exact .inr ⟨h,fun h2=>hA ⟨by omega,h2⟩⟩
     ·exact .inl h
    rcases hor with h | ⟨h,h2⟩
    ·have hb92:((s[k].toNat:Int)==92)=false:=by rw [beq_eq_false_iff_ne];omega
     go_wp2_with (first
      | (at_builtin;refine wpList_append_own_at _ rfl _ _ 64 rfl w.heap.size 5 i0 (.int .u8 0) 1 1 Tryz.underlying64 hi0 hz0 hz1 hz2 rfl (by decide) _ d.length (d.map ub) rfl (World.ownsRow.alloc HO.out _) ⟨wr.heap.size,0,none⟩ 1 1 [ub s[k]] rfl rfl ?c1 ?c2 ?c3 ?c4 ?c5 ?_))
     case c1=>
      intro j u hj
      match j,hj with
      | 0,hj=>simp at hj;subst hj;simp [Addr.add,ub]
     case c2=>first | rfl | (intro u hu;simp at hu;subst hu;rfl)
     case c3=>unfold maxLen;omega
     case c4=>omega
     case c5=>first | omega | (simp;omega)
     ·intro v' w5 hown' hgrow _ hat
      have hb5:=(HB.out.alloc hsz _).grown hgrow (by simp;omega) (fun j hj=>(World.ownsRow.lt HO.out j hj).1)
      have hO5:OB w5 w.heap.size v' (d++[s[k]]):=by unfold OB;rw [List.length_append,List.map_append];exact hown'
      have HR':Hid (xS w s v' (.int .i64 ((k:Int)+1)) w5):=⟨k+1,d++[s[k]],by omega,by go_num,hO5,by simp;omega,hb5⟩
      go_wp2
      go_roundw
      case rel=>exact HR'.out
      case measure=>simp [intOf];omega
    ·have hb92:((s[k].toNat:Int)==92)=true:=by rw [beq_iff_eq];omega
     have h2i:¬ (k:Int)+2<(s.size:Int):=by omega
     go_wp2_with (first
      | (at_builtin;refine wpList_append_own_at _ rfl _ _ 64 rfl w.heap.size 5 i0 (.int .u8 0) 1 1 Tryz.underlying64 hi0 hz0 hz1 hz2 rfl (by decide) _ d.length (d.map ub) rfl (World.ownsRow.alloc HO.out _) ⟨wr.heap.size,0,none⟩ 1 1 [ub s[k]] rfl rfl ?c1 ?c2 ?c3 ?c4 ?c5 ?_))
     case c1=>
      intro j u hj
      match j,hj with
      | 0,hj=>simp at hj;subst hj;simp [ub]
     case c2=>first | rfl | (intro u hu;simp at hu;subst hu;rfl)
     case c3=>unfold maxLen;omega
     case c4=>omega
     case c5=>first | omega | (simp;omega)
     ·intro v' w5 hown' hgrow _ hat
      have hb5:=(HB.out.alloc hsz _).grown hgrow (by simp;omega) (fun j hj=>(World.ownsRow.lt HO.out j hj).1)
      have hO5:OB w5 w.heap.size v' (d++[s[k]]):=by unfold OB;rw [List.length_append,List.map_append];exact hown'
      have HR':Hid (xS w s v' (.int .i64 ((k:Int)+1)) w5):=⟨k+1,d++[s[k]],by omega,by go_num,hO5,by simp;omega,hb5⟩
      go_wp2
      go_roundw
      case rel=>exact HR'.out
      case measure=>simp [intOf];omega
  ·obtain rfl:k=s.size:=by omega
   obtain ⟨a,c,rfl,hcv⟩:=HO.out.conv
   have FIN:Hid (zE w s (.returned (.string ⟨d.toArray⟩)) wr):=⟨_,rfl,by show d.toArray.size<=_;rw [List.size_toArray];exact hdk,HB.out⟩
   go_wp2
   go_ret
   exact FIN.out
end Vl
end Go.Proofs.YtiiliobffnhpmaaGreatDoor
