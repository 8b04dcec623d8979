import Derived.Test.YtiiliobffnhpmaaGreatDoorGbd
set_option linter.all false
set_option maxRecDepth 100000
set_option maxHeartbeats 4000000
namespace Go.Proofs.YtiiliobffnhpmaaGreatDoor.Vl
open Go.RowKit
def Sen3 (w:World):Prop:=∃ ev,w.cell? ⟨8,0,none⟩=some ev/\(ev=.nilIface\/∃ te pe,ev=.iface te pe)
theorem Sen3.later {w w':World} (h:Sen3 w) (hb:Below w.heap.size w w'):Sen3 w':=by
 obtain ⟨ev,h1,h2⟩:=h
 exact ⟨ev,al hb h1,h2⟩
def xe (w:World) (s:ByteArray) (e:Ending) (w':World):Prop:=Below w.heap.size w w'/\((∃ v:Int,-9223372036854775808<=v/\v<=9223372036854775807/\s.size≠0/\e=.returned (.tuple #[.int .i64 v,.nilIface]))\/∃ (v:Int) (N:Nat),e=.returned (.tuple #[.int .i64 v,.iface 328 (.pointer (some ⟨N,0,none⟩))]))
theorem oU (s:ByteArray) (w:World) (hs:s.size<=140737488355327) (h2:Sen w) (h3:Sen3 w) :
 Calls Tryz.prog 237 #[.string s,.int .i64 10,.int .i64 64] w (xe w s):=by
 obtain ⟨ev2,c2,e2⟩:=h2
 obtain ⟨ev3,c3,e3⟩:=h3
 cases hp:Lib.parseIntB 64 s.data.toList with
 | ok v=>
  have hb:=Lib.parseIntB_bounds hp
  have hne:s.size≠0:=fun h=>by
   have:s.data.toList=[]:=List.eq_nil_of_length_eq_zero (by simpa using h)
   rw [this] at hp
   cases hp
  refine (Tryz.strconv_ParseInt_10_at64_ok s (by omega) v hp w).mono ?_
  rintro e w' ⟨rfl,hw⟩
  refine ⟨?_,.inl ⟨v,by have:=hb.1;simp at this;omega,by have:=hb.2;simp at this;omega,hne,rfl⟩⟩
  rcases hw with rfl | ⟨t,rfl⟩
  ·exact bR
  ·exact fW _ _ _
 | «syntax»=>
  refine (Any.strconv_ParseInt_10_at64_syntax Tryz.laysC174 s (by omega) hp ev2 w c2 e2).mono ?_
  rintro e w' ⟨N,rfl,_,_,hb⟩
  exact ⟨hb,.inr ⟨_,N,rfl⟩⟩
 | range=>
  refine (Any.strconv_ParseInt_10_at64_range Tryz.laysC174 s (by omega) hp ev3 w c3 e3).mono ?_
  rintro e w' ⟨N,rfl,_,_,hb⟩
  exact ⟨hb,.inr ⟨_,N,rfl⟩⟩
def qe (w:World) (s:ByteArray) (e:Ending) (w':World):Prop:=∃ (k n:Int) (t:ByteArray),e=.returned (.agg #[.int .i64 k,.int .i64 n,.string t])/\Below w.heap.size w w'/\t.size<=maxLen/\-9223372036854775808<=n/\n<=9223372036854775807/\(s.size=0->validB k n t=true)
theorem AA (l:List UInt8):(Lib.trimPrefix l [39]).length<=l.length:=by
 unfold Lib.trimPrefix
 split
 ·rw [List.length_drop];omega
 ·exact lR
theorem xb (l:List UInt8):(Lib.trimSuffix l [39]).length<=l.length:=by
 unfold Lib.trimSuffix
 split
 ·rw [List.length_take];omega
 ·exact lR
theorem B7:validB 0 0 ⟨#[]⟩=true:=by unfold validB;simp
theorem vG (s:ByteArray) (w:World) (hs:s.size<=140737488355327) (h2:Sen w) (h3:Sen3 w) :
 Calls Tryz.prog 206 #[.string s] w (qe w s):=by
 have H2:Hid (Sen w):=h2
 have H3:Hid (Sen3 w):=h3
 clear h2 h3
 have hlen:s.data.toList.length=s.size:=by simp
 have HC:=Tryz.strings_CutPrefix s ⟨#[39]⟩
 rw [show (⟨#[39]⟩:ByteArray).data.toList=[39] from rfl] at HC
 have hc:=AA s.data.toList
 obtain ⟨I,hI⟩:∃ I:ByteArray,I=⟨(Lib.trimPrefix s.data.toList [39]).toArray⟩:=⟨_,rfl⟩
 have hIz:I.size<=s.size:=by rw [hI];show (Lib.trimPrefix s.data.toList [39]).toArray.size<=_;rw [List.size_toArray];omega
 have HC1:Hid (∀ W,Calls Tryz.prog 232 #[.string s,.string ⟨#[39]⟩] W fun e w'=>e=.returned (.tuple #[.string I,.bool (Lib.hasPrefix s.data.toList [39])])/\w'=W):=by rw [hI];exact HC
 have hE:Lib.hasPrefix s.data.toList [39]=true->s.size≠0:=fun h h0=>by
  have:s.data.toList=[]:=List.eq_nil_of_length_eq_zero (by omega)
  rw [this] at h
  simp [Lib.hasPrefix,List.isPrefixOf] at h
 clear HC hI hc
 cases hpre:Lib.hasPrefix s.data.toList [39] with
 | true=>
  rw [hpre] at HC1
  have hne:=hE hpre
  have hlenI:I.data.toList.length=I.size:=by simp
  have HT:=fun W=>Tryz.strings_TrimSuffix I ⟨#[39]⟩ W (by omega)
  rw [show (⟨#[39]⟩:ByteArray).data.toList=[39] from rfl] at HT
  have ht:=xb I.data.toList
  obtain ⟨T,hT⟩:∃ T:ByteArray,T=⟨(Lib.trimSuffix I.data.toList [39]).toArray⟩:=⟨_,rfl⟩
  have hTz:T.size<=I.size:=by rw [hT];show (Lib.trimSuffix I.data.toList [39]).toArray.size<=_;rw [List.size_toArray];omega
  have HT1:Hid (∀ W,Calls Tryz.prog 235 #[.string I,.string ⟨#[39]⟩] W fun e w'=>e=.returned (.string T)/\w'=W):=by rw [hT];exact HT
  have HU:Hid (∀ W,Below w.heap.size w W->Calls Tryz.prog 234 #[.string T] W (zE W T)):=fun W hW=>nu T W (by omega) (H2.out.later hW)
  clear HT hT ht hlenI hE hpre
  go_in
  go_wp2_with fail
  refine (HC1.out _).mono ?_
  rintro e w1 ⟨rfl,rfl⟩
  go_wp2_with fail
  refine (HT1.out _).mono ?_
  rintro e w1 ⟨rfl,rfl⟩
  go_wp2_with fail
  refine (HU.out _ (dI w _)).mono ?_
  rintro e w1 ⟨t,rfl,htz,hb1⟩
  have hf0:=am (a:=⟨w.heap.size,0,none⟩) hb1 (by simp) (by simp)
  have hf1:=am (a:=⟨w.heap.size,1,none⟩) hb1 (by simp) (by simp)
  have hf2:=am (a:=⟨w.heap.size,2,none⟩) hb1 (by simp) (by simp)
  have hc0:=al (a:=⟨w.heap.size,0,none⟩) (v:=.int .i64 0) hb1 (by go_simp)
  have hc1:=al (a:=⟨w.heap.size,1,none⟩) (v:=.int .i64 0) hb1 (by go_simp)
  have hc2:=al (a:=⟨w.heap.size,2,none⟩) (v:=.string ⟨#[]⟩) hb1 (by go_simp)
  have hB1:=(dI w _).trans (hb1.mono (by simp))
  clear hb1
  go_wp2_with fail
  refine (ky _ _).mono ?_
  rintro e w2 ⟨rfl,hb2⟩
  have hlt:w.heap.size<w1.heap.size:=bL hc0
  replace hf0:=am hb2 hlt hf0
  replace hf1:=am hb2 hlt hf1
  replace hf2:=am hb2 hlt hf2
  replace hc0:=al hb2 hc0
  replace hc1:=al hb2 hc1
  replace hc2:=al hb2 hc2
  have hB2:=hB1.trans (hb2.mono hB1.size)
  have FIN:Hid (∀ w6,Below w.heap.size w w6->qe w s (.returned (.agg #[.int .i64 3,.int .i64 0,.string t])) w6):=fun w6 h6=>⟨3,0,t,rfl,h6,by unfold maxLen;omega,by omega,by omega,fun h=>absurd h hne⟩
  clear hb2 hB1 hlt HC1 HT1 HU H2 H3
  go_wp2
  exact bodyPost_ret (v:=.agg #[.int .i64 3,.int .i64 0,.string t]) (by simp [results,Tryz.results206,go_sem,hc0,hc1,hc2]) rfl (FIN.out _ (((hB2.setCell lR _).setCell lR _).setCell lR _))
 | false=>
  rw [hpre] at HC1
  by_cases q1:s=⟨#[116,114,117,101]⟩
  ·subst q1
   refine (mu w).mono ?_
   rintro e w' ⟨rfl,hb⟩
   exact ⟨2,1,⟨#[]⟩,rfl,hb,Nat.zero_le _,by omega,by omega,fun h=>by cases h⟩
  by_cases q2:s=⟨#[102,97,108,115,101]⟩
  ·subst q2
   refine (ld w).mono ?_
   rintro e w' ⟨rfl,hb⟩
   exact ⟨2,0,⟨#[]⟩,rfl,hb,Nat.zero_le _,by omega,by omega,fun h=>by cases h⟩
  have r1:(s.toList==[116,114,117,101])=false:=by
   rw [beq_eq_false_iff_ne];intro h;exact q1 (toList_inj (by rw [h,ByteArray.toList_eq]))
  have r2:(s.toList==[102,97,108,115,101])=false:=by
   rw [beq_eq_false_iff_ne];intro h;exact q2 (toList_inj (by rw [h,ByteArray.toList_eq]))
  have HP:Hid (∀ W,Below w.heap.size w W->Calls Tryz.prog 237 #[.string s,.int .i64 10,.int .i64 64] W (xe W s)):=fun W hW=>oU s W hs (H2.out.later hW) (H3.out.later hW)
  clear q1 q2 hE hpre hIz H2 H3
  go_in
  go_wp2_with fail
  refine (HC1.out _).mono ?_
  rintro e w1 ⟨rfl,rfl⟩
  go_wp2_with fail
  refine (HP.out _ (dI w _)).mono ?_
  rintro e w1 ⟨hb1,hcase⟩
  have hf0:=am (a:=⟨w.heap.size,0,none⟩) hb1 (by simp) (by simp)
  have hf1:=am (a:=⟨w.heap.size,1,none⟩) hb1 (by simp) (by simp)
  have hf2:=am (a:=⟨w.heap.size,2,none⟩) hb1 (by simp) (by simp)
  have hc0:=al (a:=⟨w.heap.size,0,none⟩) (v:=.int .i64 0) hb1 (by go_simp)
  have hc1:=al (a:=⟨w.heap.size,1,none⟩) (v:=.int .i64 0) hb1 (by go_simp)
  have hc2:=al (a:=⟨w.heap.size,2,none⟩) (v:=.string ⟨#[]⟩) hb1 (by go_simp)
  have hB1:=(dI w _).trans (hb1.mono (by simp))
  clear hb1 HP HC1
  rcases hcase with ⟨v,hv0,hv1,hne,rfl⟩ | ⟨v,N,rfl⟩
  ·go_wp2_with fail
   refine (s4 _ _).mono ?_
   rintro e w2 ⟨rfl,hb2⟩
   have hlt:w.heap.size<w1.heap.size:=bL hc0
   replace hf0:=am hb2 hlt hf0
   replace hf1:=am hb2 hlt hf1
   replace hf2:=am hb2 hlt hf2
   replace hc0:=al hb2 hc0
   replace hc1:=al hb2 hc1
   replace hc2:=al hb2 hc2
   have hB2:=hB1.trans (hb2.mono hB1.size)
   have FIN:Hid (∀ w6,Below w.heap.size w w6->qe w s (.returned (.agg #[.int .i64 1,.int .i64 v,.string ⟨#[]⟩])) w6):=fun w6 h6=>⟨1,v,⟨#[]⟩,rfl,h6,Nat.zero_le _,hv0,hv1,fun h=>absurd h hne⟩
   clear hb2 hB1 hlt
   go_wp2
   exact bodyPost_ret (v:=.agg #[.int .i64 1,.int .i64 v,.string ⟨#[]⟩]) (by simp [results,Tryz.results206,go_sem,hc0,hc1,hc2]) rfl (FIN.out _ (((hB2.setCell lR _).setCell lR _).setCell lR _))
  ·have FIN:Hid (∀ w6,Below w.heap.size w w6->qe w s (.returned (.agg #[.int .i64 0,.int .i64 0,.string ⟨#[]⟩])) w6):=fun w6 h6=>⟨0,0,⟨#[]⟩,rfl,h6,Nat.zero_le _,by omega,by omega,fun h=>B7⟩
   go_wp2
   exact bodyPost_ret (v:=.agg #[.int .i64 0,.int .i64 0,.string ⟨#[]⟩]) (by simp [results,Tryz.results206,go_sem,hc0,hc1,hc2]) rfl (FIN.out _ (((hB1.setCell lR _).setCell lR _).setCell lR _))
attribute [local go_sem ↓] uo uA
attribute [local go_sem] lG
def BH (w:World) (s:ByteArray) (e:Ending) (w':World):Prop:=Below w.heap.size w w'/\
 ((∃ (k n:Int) (t:ByteArray),validB k n t=true/\-9223372036854775808<=n/\n<=9223372036854775807/\showB k n t=s/\e=.returned (.tuple #[.agg #[.int .i64 k,.int .i64 n,.string t],.nilIface]))\/
  ((∀ k n t,-9223372036854775808<=n->n<=9223372036854775807->validB k n t=true->showB k n t≠s)/\e=.returned (.tuple #[.agg #[.int .i64 0,.int .i64 0,.string ⟨#[]⟩],.iface 37 (.int .i64 1)])))
theorem read_tot (s:ByteArray) (w:World) (hs:s.size<=140737488355327) (h2:Sen w) (h3:Sen3 w) (ht:Tab w) :
 Calls Tryz.prog 172 #[.string s] w (BH w s):=by
 by_cases hA:∃ (k n:Int) (t:ByteArray),validB k n t=true/\-9223372036854775808<=n/\n<=9223372036854775807/\showB k n t=s
 ·obtain ⟨k,n,t,hv,hn0,hn1,rfl⟩:=hA
  have htz:t.size<=maxLen:=by
   rcases valid_form hv with ⟨_,_,rfl⟩ | ⟨_,rfl⟩ | ⟨_,_,rfl⟩ | ⟨_,_,rfl⟩ | ⟨_,_,h⟩
   ·exact Nat.zero_le _
   ·exact Nat.zero_le _
   ·exact Nat.zero_le _
   ·exact Nat.zero_le _
   ·unfold maxLen;omega
  refine (uY k n t w hv htz hn0 hn1 h2 ht).mono ?_
  rintro e w' ⟨rfl,hb⟩
  exact ⟨hb,.inl ⟨k,n,t,hv,hn0,hn1,rfl,rfl⟩⟩
 ·have HN:Hid (∀ k n t,-9223372036854775808<=n->n<=9223372036854775807->validB k n t=true->showB k n t≠s):=fun k n t a b c d=>hA ⟨k,n,t,c,a,b,d⟩
  have HG:Hid (∀ W,Below w.heap.size w W->Calls Tryz.prog 206 #[.string s] W (qe W s)):=fun W hW=>vG s W hs (h2.later hW) (h3.later hW)
  have HT:Hid (Tab w):=ht
  go_in
  go_wp2_with fail
  refine (HG.out _ (dI w _)).mono ?_
  rintro e w1 ⟨k,n,t,rfl,hb1,htz,hn0,hn1,hval⟩
  have HS:Hid (∀ W,Below w.heap.size w W->Calls Tryz.prog 207 #[.agg #[.int .i64 k,.int .i64 n,.string t]] W fun e w'=>e=.returned (.string (showB k n t))/\Below W.heap.size W w'):=
   fun W hW=>show_any k n t W htz hn0 hn1 (HT.out.later hW)
  have hne:((showB k n t).toList==s.toList)=false:=by
   rw [beq_eq_false_iff_ne]
   intro h
   have h':=toList_inj h
   cases hv:validB k n t
   ·have he:=uU hv
    rw [he] at h'
    have:=hval (by rw [<-h'];rfl)
    rw [hv] at this
    cases this
   ·exact HN.out k n t hn0 hn1 hv h'
  have hf0:=am (a:=⟨w.heap.size,0,none⟩) hb1 (by simp) (by simp)
  have hf1:=am (a:=⟨w.heap.size,1,none⟩) hb1 (by simp) (by simp)
  have hf2:=am (a:=⟨w.heap.size,2,none⟩) hb1 (by simp) (by simp)
  have hc0:=al (a:=⟨w.heap.size,0,none⟩) (v:=.int .i64 0) hb1 (by go_simp)
  have hc1:=al (a:=⟨w.heap.size,1,none⟩) (v:=.int .i64 0) hb1 (by go_simp)
  have hc2:=al (a:=⟨w.heap.size,2,none⟩) (v:=.string ⟨#[]⟩) hb1 (by go_simp)
  have hB1:=(dI w _).trans (hb1.mono (by simp))
  have hlt:w.heap.size<w1.heap.size:=bL hc0
  generalize showB k n t=S at *
  go_wp2_with fail
  have hA:=dI w1 (.cells #[.int .i64 k,.int .i64 n,.string t] 148)
  replace hf0:=am hA hlt hf0
  replace hf1:=am hA hlt hf1
  replace hf2:=am hA hlt hf2
  replace hc0:=al hA hc0
  replace hc1:=al hA hc1
  replace hc2:=al hA hc2
  replace hB1:=hB1.trans (hA.mono hB1.size)
  have hlt2:w.heap.size<(w1.alloc (.cells #[.int .i64 k,.int .i64 n,.string t] 148)).heap.size:=bL hc0
  generalize hW:w1.alloc (.cells #[.int .i64 k,.int .i64 n,.string t] 148)=W at *
  refine (HS.out W hB1).mono ?_
  rintro e w2 ⟨rfl,hb2⟩
  replace hf0:=am hb2 hlt2 hf0
  replace hf1:=am hb2 hlt2 hf1
  replace hf2:=am hb2 hlt2 hf2
  replace hc0:=al hb2 hc0
  replace hc1:=al hb2 hc1
  replace hc2:=al hb2 hc2
  replace hB1:=hB1.trans (hb2.mono hB1.size)
  have FIN:Hid (∀ w6,Below w.heap.size w w6->BH w s (.returned (.tuple #[.agg #[.int .i64 0,.int .i64 0,.string ⟨#[]⟩],.iface 37 (.int .i64 1)])) w6):=fun w6 h6=>⟨h6,.inr ⟨HN.out,rfl⟩⟩
  go_wp2
  exact bodyPost_ret (v:=.tuple #[.agg #[.int .i64 0,.int .i64 0,.string ⟨#[]⟩],.iface 37 (.int .i64 1)]) (by simp [results,Tryz.results172,go_sem,hc0,hc1,hc2]) rfl (FIN.out _ (((hB1.setCell lR _).setCell lR _).setCell lR _))
end Go.Proofs.YtiiliobffnhpmaaGreatDoor.Vl
