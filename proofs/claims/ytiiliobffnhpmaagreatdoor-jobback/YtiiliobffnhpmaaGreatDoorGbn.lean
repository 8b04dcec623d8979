import Derived.Test.YtiiliobffnhpmaaGreatDoorGbm
set_option linter.all false
set_option maxRecDepth 100000
set_option maxHeartbeats 4000000
namespace Go.Proofs.YtiiliobffnhpmaaGreatDoor.Jp
open Go.RowKit Oo
theorem nM {M:Nat} (sep:List UInt8):∀ l:List (List UInt8),(∀ x∈l,x.length<=M)->(Lib.joinTail sep l).length<=l.length*(M+sep.length)
 | [],_=>by simp [Lib.joinTail]
 | x::l,h=>by
  have ih:=nM sep l (fun y hy=>h y (by simp [hy]))
  have hx:=h x (by simp)
  have e:Lib.joinTail sep (x::l)=sep++x++Lib.joinTail sep l:=by simp [Lib.joinTail]
  rw [e,List.length_append,List.length_append,List.length_cons,Nat.add_mul]
  omega
theorem dP {M:Nat} (sep:ByteArray) (l:List ByteArray) (h:∀ x∈l,x.size<=M):(jn sep l).size<=l.length*(M+sep.size):=by
 have e:(jn sep l).size=(Lib.join (l.map (·.data.toList)) sep.data.toList).length:=by
  unfold jn
  show (Lib.join _ _).toArray.size=_
  rw [List.size_toArray]
 have hs:sep.data.toList.length=sep.size:=by simp
 rw [e]
 cases l with
 | nil=>simp [Lib.join_nil]
 | cons x l=>
  have hx:=h x (by simp)
  have hxl:x.data.toList.length=x.size:=by simp
  have:=nM (M:=M) sep.data.toList (l.map (·.data.toList)) (fun y hy=>by
   obtain ⟨z,hz,rfl⟩:=List.mem_map.1 hy
   have:=h z (by simp [hz])
   simpa using this)
  rw [List.map_cons,Lib.join_cons,List.length_append,List.length_cons,Nat.add_mul]
  rw [List.length_map,hs] at this
  omega
theorem aV {M:Nat} (l:List ByteArray) (h:∀ x∈l,x.size<=M):(aE l).size<=l.length*(M+1):=by
 have h1:=dP (M:=M) DO (l.filter fun s=>decide (s≠eB)) (fun x hx=>h x (List.mem_filter.1 hx).1)
 have h2:(l.filter fun s=>decide (s≠eB)).length<=l.length:=List.length_filter_le _ _
 have h3:DO.size=1:=rfl
 rw [h3] at h1
 exact Nat.le_trans h1 (Nat.mul_le_mul_right _ h2)
theorem gB {n:Int} (h:-9223372036854775808<=n/\n<=9223372036854775807):(gy n).size<=21:=by
 have:=Lib.itoa_length_le n h.1 h.2
 show (Lib.itoa n).toArray.size<=21
 rw [List.size_toArray];exact this
theorem dT {ws:List (ByteArray × Int)} (h:∀ p∈ws,p.1.size<=8) (k:Int):(aL ws k).size<=8:=by
 unfold aL
 cases hf:ws.find? fun p=>decide (p.2=k) with
 | none=>decide
 | some p=>exact h p (List.mem_of_find?_eq_some hf)
theorem pA (n:Int) (h:-9223372036854775808<=n/\n<=9223372036854775807) (w:World) (ht:Vl.Tab w) :
 Calls Tryz.prog 108 #[.int .i64 n] w fun e w'=>e=.returned (.string (gy n))/\Below w.heap.size w w':=by
 have HF:=jg (Tryz.strconv_FormatInt_10 n h.1 h.2 w ht)
 clear ht
 go_in
 go_wp2_with fail
 refine HF.out.mono ?_
 rintro e w1 ⟨rfl,k,os,hw⟩
 have HB:Hid (Below w.heap.size w w1):=by rw [hw];exact Vl.below_grow w k os
 clear hw
 go_wp2_with fail
 go_ret
 exact ⟨rfl,HB.out⟩
theorem vS (n:Int) (h:-9223372036854775808<=n/\n<=9223372036854775807) (w:World) (ht:Vl.Tab w) :
 Calls Tryz.prog 54 #[.int .i64 n] w fun e w'=>e=.returned (.string (cC n))/\Below w.heap.size w w':=by
 by_cases h0:n=0
 ·subst h0
  go_in
  go_wp2_with fail
  go_ret
  exact ⟨rfl,bR⟩
 ·have h0b:(n==0)=false:=by simp [h0]
  have HE:Hid (cC n=aE [dJ,gy n]):=by unfold Hid cC;rw [if_neg h0]
  have HN:=jg (pA n h w ht)
  have hz:(aE [dJ,gy n]).size<=140737488355328:=by
   have h9:=aV (M:=100) [dJ,gy n] (fun x hx=>by
    have:=gB h
    have hL:dJ.size=4:=rfl
    simp at hx;rcases hx with rfl | rfl<;>omega)
   simp at h9;omega
  have HS:=jg (fun W=>bq [dJ,gy n] (show 2<=4096 by decide) hz W)
  clear hz
  rw [HE.out]
  generalize aE [dJ,gy n]=R at *
  unfold dJ at HS
  generalize gy n=X at *
  clear ht h0 HE
  go_in
  go_wp2_with fail
  refine HN.out.mono ?_
  rintro e w1 ⟨rfl,hb⟩
  have HB:=jg hb
  clear hb
  go_wp2_with fail
  refine (HS.out w1).mono ?_
  rintro e w2 ⟨rfl,hb⟩
  have HB2:=jg (HB.out.trans (hb.mono HB.out.size))
  clear hb
  go_wp2_with fail
  go_ret
  exact ⟨rfl,HB2.out⟩
theorem uX (b:Bool) (w:World):Calls Tryz.prog 61 #[.bool b] w fun e w'=>e=.returned (.string (dF b))/\Below w.heap.size w w':=by
 cases b <;>
 ·go_in
  go_wp2_with fail
  go_ret
  exact ⟨rfl,bR⟩
theorem rv {k:Int} (h:k=1\/k=2\/k=3):(aL bF k,k)∈bF/\∀ p∈bF,p.2=k->p.1=aL bF k:=by
 rcases h with rfl | rfl | rfl<;>exact ⟨by simp [aL,bF],fun p hp e=>by simp [bF] at hp;rcases hp with rfl | rfl | rfl<;>simp [aL,bF] at e ⊢⟩
theorem rS {k:Int} (h:k=1\/k=2\/k=3\/k=4):(aL bE k,k)∈bE/\∀ p∈bE,p.2=k->p.1=aL bE k:=by
 rcases h with rfl | rfl | rfl | rfl<;>exact ⟨by simp [aL,bE],fun p hp e=>by simp [bE] at hp;rcases hp with rfl | rfl | rfl | rfl<;>simp [aL,bE] at e ⊢⟩
theorem qM {k:Int} (h:1<=k/\k<=7):(aL dh k,k)∈dh/\∀ p∈dh,p.2=k->p.1=aL dh k:=by
 have:k=1\/k=2\/k=3\/k=4\/k=5\/k=6\/k=7:=by omega
 rcases this with rfl | rfl | rfl | rfl | rfl | rfl | rfl<;>exact ⟨by simp [aL,dh],fun p hp e=>by simp [dh] at hp;rcases hp with rfl | rfl | rfl | rfl | rfl | rfl | rfl<;>simp [aL,dh] at e ⊢⟩
theorem tu (x:Co) (hk:x.k=1\/x.k=2\/x.k=3) (hn:x.nm.size<=4096) (w:World) :
 Calls Tryz.prog 105 #[.agg #[.string x.nm,.int .i64 x.k]] w fun e w'=>e=.returned (.string (aE [x.nm,aL bF x.k]))/\Below w.heap.size w w':=by
 obtain ⟨nm,k⟩:=x
 simp only at hk hn ⊢
 have hz:(aE [nm,aL bF k]).size<=140737488355328:=by
  have:=aV (M:=4096) [nm,aL bF k] (fun y hy=>by
   have:=dT (ws:=bF) (by decide) k
   simp at hy;rcases hy with rfl | rfl<;>omega)
  simp at this;omega
 have HCK:=jg gl
 have HWF:Hid (∀ b W,WM W b bF->Calls Tryz.prog 106 #[.map (some b),.int .i64 k] W fun e w'=>e=.returned (.string (aL bF k))/\Below W.heap.size W w'):=fun b W h=>wb bF b k _ W h (rv hk).1 (rv hk).2 (by decide)
 generalize aL bF k=WD at *
 have HO:=jg (aD.new w 95 2 #[.string nm,.int .i64 k] rfl)
 have HB:=jg (ae w (.cells #[.string nm,.int .i64 k] 95))
 clear hk
 go_in
 go_upto_region 1 with fail
 generalize w.alloc (.cells #[.string nm,.int .i64 k] 95)=wU at *
 have c0:=HO.out.c 0 rfl
 have c1:=HO.out.c 1 rfl
 have hwl:=HO.out.lt
 have HBz0:Hid (Below wU.heap.size wU wU.drew):=aA
 refine Go.wp_region_held (S:=fun W=>Below wU.heap.size wU W) (by kernel_rfl) ?_
 change Go.wpAnyH _ _ _ _ _ _ _ _ (World.drew _)
 refine tk 0 (.pointer (some ⟨w.heap.size,0,none⟩)) rfl (by kernel_rfl) (by rfl) (fun _ _ _ h=>h) HBz0.out (fun W hW=>?_) ?_
 ·have hwl2:=lL hwl hW.size
  go_simp
 refine tk 1 (.string nm) rfl (by kernel_rfl) (by rfl) (fun _ _ _ h=>h) HBz0.out (fun W hW=>?_) ?_
 ·have d:=af hW c0
  go_simp
 refine tk 3 (.pointer (some ⟨w.heap.size,1,none⟩)) rfl (by kernel_rfl) (by rfl) (fun _ _ _ h=>h) HBz0.out (fun W hW=>?_) ?_
 ·have hwl2:=lL hwl hW.size
  go_simp
 refine tk 4 (.int .i64 k) rfl (by kernel_rfl) (by rfl) (fun _ _ _ h=>h) HBz0.out (fun W hW=>?_) ?_
 ·have d:=af hW c1
  go_simp
 refine bH 2 (by kernel_rfl) rfl (fun K hK=>?_)
 go_simp
 refine (HCK.out _).mono ?_
 rintro e wz1 ⟨rfl,hwm,hb⟩
 have HBz1:=jg (HBz0.out.trans (hb.mono HBz0.out.size))
 have HWM:=jg hwm
 clear hwm
 refine hK _ _ ⟨HBz1.out,?_⟩
 clear hK K hb
 refine bH 5 (by kernel_rfl) rfl (fun K hK=>?_)
 go_simp
 refine (HWF.out _ _ HWM.out).mono ?_
 rintro e wz2 ⟨rfl,hb⟩
 have HBz2:=jg (HBz1.out.trans (hb.mono HBz1.out.size))
 refine hK _ _ ⟨HBz2.out,?_⟩
 clear hK K hb
 refine bH 6 (by kernel_rfl) rfl (fun K hK=>?_)
 go_simp
 have HBz3:Hid (Below wU.heap.size wU (wz2.alloc (.cells #[.string nm,.string WD] 9))):=HBz2.out.trans ((ae wz2 _).mono HBz2.out.size)
 refine hK _ _ ⟨HBz3.out,?_⟩
 clear hK K
 refine bH 7 (by kernel_rfl) rfl (fun K hK=>?_)
 go_simp
 refine (bq [nm,WD] (show 2<=4096 by decide) (hz) wz2).mono ?_
 rintro e wz4 ⟨rfl,hb⟩
 have HBz4:=jg (HBz2.out.trans (hb.mono HBz2.out.size))
 refine hK _ _ ⟨HBz4.out,?_⟩
 clear hK K hb
 refine bH 8 (by kernel_rfl) rfl (fun K hK=>?_)
 go_simp
 refine hK _ _ ⟨HBz4.out,?_⟩
 clear hK K
 refine Go.wpAnyH_done (by kernel_rfl) ?_ _
 go_wp2_with fail
 go_ret
 exact ⟨rfl,HB.out.trans (HBz4.out.mono HB.out.size)⟩
theorem zb (a:Array Value) (W:World):(callFunc 105 a).run Tryz.prog W=.ok (.enter 105 a) W:=eP Tryz.func105 (by kernel_rfl) (by rfl) a W
theorem sy (l:List Co) (a:Option Addr) (c:Nat) (w:World) (hl:ap w a l) (hn:l.length<=4096) (hk:∀ x∈l,(x.k=1\/x.k=2\/x.k=3)/\x.nm.size<=12) :
 Calls Tryz.prog 53 #[.slice a l.length c] w fun e w'=>e=.returned (.string (cy l))/\Below w.heap.size w w':=by
 have hC:=sK 105 #[] zb (fun c=>aE [c.nm,aL bF c.k]) l a c w hl hn (fun x hx W hW=>tu x (hk x hx).1 (by have:=(hk x hx).2;omega) W) ?_
 ·have HC:Hid (Calls Tryz.prog 104 #[.slice a l.length c,.func (.func 105) #[] #[]] w fun e w'=>e=.returned (.string (cy l))/\Below w.heap.size w w'):=hC
  generalize cy l=R at *
  clear hC hl hk
  go_in
  go_wp2_with fail
  refine HC.out.mono ?_
  rintro e w1 ⟨rfl,hb⟩
  have HB:=jg hb
  clear hb
  go_wp2_with fail
  go_ret
  exact ⟨rfl,HB.out⟩
 ·have:=dP (M:=100) eL (l.map fun c=>aE [c.nm,aL bF c.k]) (fun y hy=>by
   obtain ⟨x,hx,rfl⟩:=List.mem_map.1 hy
   have h1:=(hk x hx).2
   have h2:=dT (ws:=bF) (by decide) x.k
   have:=aV (M:=12) [x.nm,aL bF x.k] (fun z hz=>by simp at hz;rcases hz with rfl | rfl<;>omega)
   simp at this;omega)
  have h2:eL.size=2:=rfl
  rw [List.length_map,h2] at this
  have:l.length*102<=4096*102:=Nat.mul_le_mul_right _ hn
  omega
theorem OS.strs {w:World} {B:Nat} {v:Value} {l:List ByteArray} (h:OS w B v l):∃ a c,v=.slice a l.length c/\bu w a l:=by
 obtain ⟨a,c,rfl,_,h0 | ⟨b,rfl,_,hc⟩⟩:=h.form
 ·exact ⟨a,c,rfl,fun i hi=>absurd hi (by simp [h0])⟩
 ·exact ⟨_,c,rfl,fun i hi=>⟨b,0,rfl,hc i _ (List.getElem?_eq_getElem hi)⟩⟩
theorem mc (l:List (ByteArray × ByteArray)) (a1 a2:Option Addr) (c1 c2:Nat) (w:World) (h1:bu w a1 (l.map (·.1))) (h2:bu w a2 (l.map (·.2))) (hn:l.length<=4096) (hs:∀ p∈l,p.1.size<=300/\p.2.size<=300) :
 Calls Tryz.prog 55 #[.slice a1 l.length c1,.slice a2 l.length c2] w fun e w'=>e=.returned (.string (cE l))/\Below w.heap.size w w':=by
 obtain ⟨i0,hi0,hz0,hz1,hz2⟩:=info_parts rI
 have H1:=jg h1
 have H2:=jg h2
 have HSZ:=jg hs
 have HJ:Hid (∀ v w1,OS w1 w.heap.size v (l.map fun p:ByteArray × ByteArray=>aE [p.1,Jp.bAs,p.2])->Calls Tryz.prog 101 #[v,.string ⟨#[44,32]⟩] w1 fun e w'=>e=.returned (.string (cE l))/\Below w1.heap.size w1 w'):=fun v w1 h=>j9 eL (l.map fun p:ByteArray × ByteArray=>aE [p.1,Jp.bAs,p.2]) w.heap.size v w1 h (by simp;omega) (by
  have:=dP (M:=1000) eL (l.map fun p:ByteArray × ByteArray=>aE [p.1,Jp.bAs,p.2]) (fun y hy=>by
   obtain ⟨p,hp,rfl⟩:=List.mem_map.1 hy
   obtain ⟨q1,q2⟩:=hs p hp
   have q3:Jp.bAs.size=2:=rfl
   have:=aV (M:=300) [p.1,bAs,p.2] (fun z hz=>by simp at hz;rcases hz with rfl | rfl | rfl<;>omega)
   simp at this;omega)
  have h2:eL.size=2:=rfl
  rw [List.length_map,h2] at this
  have:l.length*1002<=4096*1002:=Nat.mul_le_mul_right _ hn
  omega)
 generalize cE l=R at *
 go_in
 go_wp2_with fail
 go_loopg [5,10] l.length (fun gk s i wr=>∃ j:Nat,gk+j=l.length/\i=.int .i64 j/\OS wr w.heap.size s ((l.take j).map fun p:ByteArray × ByteArray=>aE [p.1,Jp.bAs,p.2])/\Below w.heap.size w wr)
 case atStart=>exact ⟨0,by omega,rfl,World.ownsRow_nil _ _ _ _,bR⟩
 case round=>
  obtain ⟨j,hgk,rfl,hos,hbr⟩:=hrel
  have hjl:j<=l.length:=by omega
  have hlj:((l.take j).map fun p:ByteArray × ByteArray=>aE [p.1,Jp.bAs,p.2]).length=j:=by rw [List.length_map,List.length_take];omega
  obtain ⟨sa,sc,rfl,-⟩:=hos.form
  have HOS:Hid (wr.ownsRow w.heap.size 9 1 (.slice sa j sc) j (((l.take j).map fun p:ByteArray × ByteArray=>aE [p.1,Jp.bAs,p.2]).map Value.string)):=by
   have h:=hos
   unfold OS at h
   rw [hlj] at h
   exact h
  have HBR:=jg hbr
  rw [hlj]
  by_cases hlt:j<l.length
  ·have hji:(j:Int)<(l.length:Int):=by omega
   have HTK:Hid ((l.take (j+1)).map (fun p:ByteArray × ByteArray=>aE [p.1,Jp.bAs,p.2])=(l.take j).map (fun p:ByteArray × ByteArray=>aE [p.1,Jp.bAs,p.2])++[aE [l[j].1,bAs,l[j].2]]):=by rw [Hid,List.take_succ_eq_append_getElem hlt,List.map_append];rfl
   obtain ⟨b1,o1,rfl,d1⟩:=(H1.out.later HBR.out) j (by simpa using hlt)
   obtain ⟨b2,o2,rfl,d2⟩:=(H2.out.later HBR.out) j (by simpa using hlt)
   rw [List.getElem_map] at d1 d2
   obtain ⟨q1,q2⟩:=HSZ.out l[j] (List.getElem_mem hlt)
   have HSP:Hid (∀ W,Calls Tryz.prog 52 #[.slice (some ⟨W.heap.size,0,none⟩) 3 3] (W.alloc (.cells #[.string l[j].1,.string ⟨#[97,115]⟩,.string l[j].2] 9)) fun e w'=>e=.returned (.string (aE [l[j].1,bAs,l[j].2]))/\Below W.heap.size W w'):=fun W=>bq [l[j].1,bAs,l[j].2] (show 3<=4096 by decide) (by
    have q3:Jp.bAs.size=2:=rfl
    have:=aV (M:=300) [l[j].1,bAs,l[j].2] (fun z hz=>by simp at hz;rcases hz with rfl | rfl | rfl<;>omega)
    simp at this;omega) W
   generalize aE [l[j].1,bAs,l[j].2]=X at *
   generalize hx1:l[j].1=X1 at *
   generalize hx2:l[j].2=X2 at *
   generalize hACC:((l.take j).map fun p:ByteArray × ByteArray=>aE [p.1,Jp.bAs,p.2])=acc at *
   have hal:=hlj
   go_wp2_with fail
   refine (HSP.out _).mono ?_
   rintro e w2 ⟨rfl,b2⟩
   have HB2:=jg (HBR.out.trans (b2.mono HBR.out.size))
   have HOS2:=jg (aO HOS.out b2)
   have hz2':=HB2.out.size
   go_wp2_with (first
    | (at_builtin;refine wpList_append_own_at _ rfl _ _ 40 rfl w.heap.size 9 i0 (.string ⟨#[]⟩) 1 16 Tryz.underlying40 hi0 hz0 hz1 hz2 rfl (by decide) _ j (acc.map Value.string) rfl (World.ownsRow.alloc HOS2.out _) ⟨w2.heap.size,0,none⟩ 1 1 [.string X] rfl rfl ?g1 ?g2 ?g3 ?g4 ?g5 ?_))
   case g1=>
    intro i u hi
    match i,hi with
    | 0,hi=>simp at hi;subst hi;simp [Addr.add]
   case g2=>intro u hu;simp at hu;subst hu;rfl
   case g3=>unfold maxLen;omega
   case g4=>omega
   case g5=>simp;omega
   intro v' w5 hown' hgrow _ hat
   have HOS5:Hid (OS w5 w.heap.size v' (acc++[X])):=by
    unfold Hid OS
    rw [List.length_append,List.map_append,hal]
    exact hown'
   have HW5:=jg ((HB2.out.alloc HB2.out.size _).grown hgrow (by simp;omega) (fun k hk=>(World.ownsRow.lt HOS2.out k hk).1))
   obtain ⟨a5,c5',hv5,-⟩:=HOS5.out.form
   rw [List.length_append,hal] at hv5
   subst hv5
   go_wp2_with fail
   go_roundg (gk-1)
   case measure=>omega
   case rel=>exact ⟨j+1,by omega,by go_num,by rw [HTK.out];exact HOS5.out,HW5.out⟩
  ·obtain rfl:j=l.length:=by omega
   have hji:¬ ((l.length:Nat):Int)<(l.length:Int):=by omega
   have HJ1:=jg (HJ.out (.slice sa l.length sc) wr (by
    have h:=HOS.out
    rw [List.take_of_length_le lR] at h
    unfold OS
    rw [List.length_map]
    exact h))
   go_wp2_with fail
   refine HJ1.out.mono ?_
   rintro e w2 ⟨rfl,hb⟩
   have HB2:=jg (HBR.out.trans (hb.mono HBR.out.size))
   go_wp2_with fail
   go_ret
   exact ⟨rfl,HB2.out⟩
def xM (n:Nat) (i:Int):Prop:=∃ j:Nat,i=(j:Int)/\j<n
theorem uR (c:List Co) (ca:Option Addr) (cc ob:Nat) (i:Int) (hi:xM c.length i) (hn:c.length<=4096) (W:World) (h3:W.cell? ⟨ob,3,none⟩=some (.slice ca c.length cc)) (hc:ap W ca c) :
 Calls Tryz.prog 109 #[.int .i64 i,.pointer (some ⟨ob,0,none⟩)] W fun e w'=>e=.returned (.string (dO c i))/\Below W.heap.size W w':=by
 obtain ⟨j,rfl,hj⟩:=hi
 obtain ⟨b,off,rfl,d0,-⟩:=hc j hj
 have hji:(j:Int)<(c.length:Int):=by omega
 have hob:=bL h3
 have hbl:=bL d0
 have HC:Hid (dO c (j:Int)=c[j].nm):=by unfold Hid dO;rw [Int.toNat_natCast,List.getElem?_eq_getElem hj];rfl
 rw [HC.out]
 generalize c[j].nm=X at *
 go_in
 go_wp2_with fail
 go_ret
 exact ⟨rfl,bR⟩
theorem vQ (a:Array Value) (W:World):(callFunc 109 a).run Tryz.prog W=.ok (.enter 109 a) W:=eP Tryz.func109 (by kernel_rfl) (by rfl) a W
theorem dL {c:List Co} (h:∀ x∈c,x.nm.size<=12) (i:Int):(dO c i).size<=12:=by
 unfold dO
 cases hh:c[i.toNat]? with
 | none=>decide
 | some x=>exact h x (List.mem_of_getElem? hh)
theorem yl (o:eJ) (p:mY) (w:World) (ho:iw w o p) (hk:∀ i∈o.ks,xM o.c.length i) (hn:o.c.length<=4096) (hks:o.ks.length<=4096) (hs:∀ x∈o.c,x.nm.size<=12) :
 Calls Tryz.prog 56 #[.agg #[.int .i64 o.k,.slice p.ea o.ex.length p.ec,.slice p.na o.nm.length p.nc,.slice p.ca o.c.length p.cc,.slice p.ra o.r.length p.rc,.slice p.ka o.ks.length p.kc,.slice p.oa o.os.length p.oc,.int .i64 o.wk,.int .i64 o.ws,.int .i64 o.wt,.slice p.ga o.ag.length p.gc,.bool o.ou]] w fun e w'=>e=.returned (.string (co o.c o.ks))/\Below w.heap.size w w':=by
 have HB:=jg (ae w (.cells #[.int .i64 o.k,.slice p.ea o.ex.length p.ec,.slice p.na o.nm.length p.nc,.slice p.ca o.c.length p.cc,.slice p.ra o.r.length p.rc,.slice p.ka o.ks.length p.kc,.slice p.oa o.os.length p.oc,.int .i64 o.wk,.int .i64 o.ws,.int .i64 o.wt,.slice p.ga o.ag.length p.gc,.bool o.ou] 59))
 have HO:=jg (aD.new w 59 12 #[.int .i64 o.k,.slice p.ea o.ex.length p.ec,.slice p.na o.nm.length p.nc,.slice p.ca o.c.length p.cc,.slice p.ra o.r.length p.rc,.slice p.ka o.ks.length p.kc,.slice p.oa o.os.length p.oc,.int .i64 o.wk,.int .i64 o.ws,.int .i64 o.wt,.slice p.ga o.ag.length p.gc,.bool o.ou] rfl)
 have HCM:Hid (Calls Tryz.prog 59 #[.slice p.ka o.ks.length p.kc,.func (.func 109) #[] #[.pointer (some ⟨w.heap.size,0,none⟩)]] (w.alloc (.cells #[.int .i64 o.k,.slice p.ea o.ex.length p.ec,.slice p.na o.nm.length p.nc,.slice p.ca o.c.length p.cc,.slice p.ra o.r.length p.rc,.slice p.ka o.ks.length p.kc,.slice p.oa o.os.length p.oc,.int .i64 o.wk,.int .i64 o.ws,.int .i64 o.wt,.slice p.ga o.ag.length p.gc,.bool o.ou] 59)) fun e w'=>e=.returned (.string (jn eL (o.ks.map (dO o.c))))/\Below (w.alloc (.cells #[.int .i64 o.k,.slice p.ea o.ex.length p.ec,.slice p.na o.nm.length p.nc,.slice p.ca o.c.length p.cc,.slice p.ra o.r.length p.rc,.slice p.ka o.ks.length p.kc,.slice p.oa o.os.length p.oc,.int .i64 o.wk,.int .i64 o.ws,.int .i64 o.wt,.slice p.ga o.ag.length p.gc,.bool o.ou] 59)).heap.size (w.alloc (.cells #[.int .i64 o.k,.slice p.ea o.ex.length p.ec,.slice p.na o.nm.length p.nc,.slice p.ca o.c.length p.cc,.slice p.ra o.r.length p.rc,.slice p.ka o.ks.length p.kc,.slice p.oa o.os.length p.oc,.int .i64 o.wk,.int .i64 o.ws,.int .i64 o.wt,.slice p.ga o.ag.length p.gc,.bool o.ou] 59)) w'):=by
  refine mO 109 #[.pointer (some ⟨w.heap.size,0,none⟩)] vQ (dO o.c) o.ks p.ka p.kc _ (ho.k.later HB.out) hks (fun i hi W hW=>?_) ?_
  ·exact uR o.c p.ca p.cc w.heap.size i (hk i hi) hn W (af hW (by rw [HO.out.cell 3 (by decide)];rfl)) ((ho.c.later HB.out).later hW)
  ·have:=dP (M:=12) eL (o.ks.map (dO o.c)) (fun y hy=>by
    obtain ⟨i,hi,rfl⟩:=List.mem_map.1 hy
    exact dL hs i)
   have h2:eL.size=2:=rfl
   rw [List.length_map,h2] at this
   have:o.ks.length*14<=4096*14:=Nat.mul_le_mul_right _ hks
   omega
 have c5:=HO.out.c 5 rfl
 have hwl:=HO.out.lt
 by_cases h0:o.ks=[]
 ·have HE:Hid (co o.c o.ks=cP):=by unfold Hid co;rw [if_pos h0]
  have hl0:o.ks.length=0:=by rw [h0];rfl
  rw [HE.out]
  generalize hKL:o.ks.length=KL at *
  subst hl0
  go_in
  go_upto_region 1 with fail
  generalize w.alloc (.cells #[.int .i64 o.k,.slice p.ea o.ex.length p.ec,.slice p.na o.nm.length p.nc,.slice p.ca o.c.length p.cc,.slice p.ra o.r.length p.rc,.slice p.ka 0 p.kc,.slice p.oa o.os.length p.oc,.int .i64 o.wk,.int .i64 o.ws,.int .i64 o.wt,.slice p.ga o.ag.length p.gc,.bool o.ou] 59)=wU at *
  go_wp2_with fail
  go_ret
  exact ⟨rfl,HB.out⟩
 ·have HE:Hid (co o.c o.ks=jn eL (o.ks.map (dO o.c))):=by unfold Hid co;rw [if_neg h0]
  have hl0:((o.ks.length:Int)==0)=false:=by
   have:o.ks.length≠0:=fun h=>h0 (List.eq_nil_of_length_eq_zero h)
   simp;exact h0
  have hl1:(o.ks.length:Int)≠0:=by
   have:o.ks.length≠0:=fun h=>h0 (List.eq_nil_of_length_eq_zero h)
   omega
  rw [HE.out]
  generalize jn eL (o.ks.map (dO o.c))=R at *
  generalize hKL:o.ks.length=KL at *
  go_in
  go_upto_region 1 with fail
  generalize w.alloc (.cells #[.int .i64 o.k,.slice p.ea o.ex.length p.ec,.slice p.na o.nm.length p.nc,.slice p.ca o.c.length p.cc,.slice p.ra o.r.length p.rc,.slice p.ka KL p.kc,.slice p.oa o.os.length p.oc,.int .i64 o.wk,.int .i64 o.ws,.int .i64 o.wt,.slice p.ga o.ag.length p.gc,.bool o.ou] 59)=wU at *
  go_wp2_with fail
  refine HCM.out.mono ?_
  rintro e w1 ⟨rfl,hb⟩
  have HB1:=jg (HB.out.trans (hb.mono HB.out.size))
  go_wp2_with fail
  go_ret
  exact ⟨rfl,HB1.out⟩
theorem qy (k s t:Int) (hk:k=1\/k=2\/k=3\/k=4) (hs:-9223372036854775808<=s/\s<=9223372036854775807) (ht:-9223372036854775808<=t/\t<=9223372036854775807) (w:World) (hT:Vl.Tab w) :
 Calls Tryz.prog 57 #[.agg #[.int .i64 k,.int .i64 s,.int .i64 t]] w fun e w'=>e=.returned (.string (bQ k s t))/\Below w.heap.size w w':=by
 have HWK:=jg rQ
 have HWF:Hid (∀ b W,WM W b bE->Calls Tryz.prog 110 #[.map (some b),.int .i64 k] W fun e w'=>e=.returned (.string (aL bE k))/\Below W.heap.size W w'):=fun b W h=>nG bE b k _ W h (rS hk).1 (rS hk).2 (by decide)
 have hwz:=dT (ws:=bE) (by decide) k
 have hz1:(aE [⟨#[105,110]⟩,aL bE k]).size<=140737488355328:=by
  have h9:=aV (M:=100) [⟨#[105,110]⟩,aL bE k] (fun y hy=>by
   have q3:(⟨#[105,110]⟩:ByteArray).size=2:=rfl
   simp at hy;rcases hy with rfl | rfl<;>omega)
  simp at h9;omega
 have hz1':(aE [⟨#[105,110]⟩,aL bE k]).size<=202:=by
  have h9:=aV (M:=100) [⟨#[105,110]⟩,aL bE k] (fun y hy=>by
   have q3:(⟨#[105,110]⟩:ByteArray).size=2:=rfl
   simp at hy;rcases hy with rfl | rfl<;>omega)
  simp at h9;omega
 have q1:=gB hs
 have q2:=gB ht
 have HP:Hid (bQ k s t=if k=4 then aE [⟨#[105,110]⟩,aL bE k] else if k=2 then aE [aE [⟨#[105,110]⟩,aL bE k],gy s,⟨#[101,118,101,114,121]⟩,gy t] else aE [aE [⟨#[105,110]⟩,aL bE k],gy s]):=rfl
 generalize aL bE k=WD at *
 generalize hS1:aE [⟨#[105,110]⟩,WD]=S1 at *
 have hz2:(aE [S1,gy s,⟨#[101,118,101,114,121]⟩,gy t]).size<=140737488355328:=by
  have h9:=aV (M:=300) [S1,gy s,⟨#[101,118,101,114,121]⟩,gy t] (fun y hy=>by
   have q3:(⟨#[101,118,101,114,121]⟩:ByteArray).size=5:=rfl
   simp at hy;rcases hy with rfl | rfl | rfl | rfl<;>omega)
  simp at h9;omega
 have hz3:(aE [S1,gy s]).size<=140737488355328:=by
  have h9:=aV (M:=300) [S1,gy s] (fun y hy=>by
   simp at hy;rcases hy with rfl | rfl<;>omega)
  simp at h9;omega
 have HSP1:Hid (∀ W,Calls Tryz.prog 52 #[.slice (some ⟨W.heap.size,0,none⟩) 2 2] (W.alloc (.cells #[.string ⟨#[105,110]⟩,.string WD] 9)) fun e w'=>e=.returned (.string S1)/\Below W.heap.size W w'):=fun W=>by
  have:=bq [⟨#[105,110]⟩,WD] (show 2<=4096 by decide) (by rw [hS1];exact hz1) W
  rw [hS1] at this
  exact this
 have HNS:Hid (∀ W,Below w.heap.size w W->Calls Tryz.prog 108 #[.int .i64 s] W fun e w'=>e=.returned (.string (gy s))/\Below W.heap.size W w'):=fun W hW=>pA s hs W (hT.later hW)
 have HNT:Hid (∀ W,Below w.heap.size w W->Calls Tryz.prog 108 #[.int .i64 t] W fun e w'=>e=.returned (.string (gy t))/\Below W.heap.size W w'):=fun W hW=>pA t ht W (hT.later hW)
 generalize gy s=NS at *
 generalize gy t=NT at *
 obtain ⟨R,HR⟩:∃ R,Hid (bQ k s t=R):=⟨_,rfl⟩
 rw [HR.out] at HP ⊢
 have HO:=jg (aD.new w 56 3 #[.int .i64 k,.int .i64 s,.int .i64 t] rfl)
 have HB:=jg (ae w (.cells #[.int .i64 k,.int .i64 s,.int .i64 t] 56))
 go_in
 go_upto_region 1 with fail
 generalize w.alloc (.cells #[.int .i64 k,.int .i64 s,.int .i64 t] 56)=wU at *
 have c0:=HO.out.c 0 rfl
 have c1:=HO.out.c 1 rfl
 have c2:=HO.out.c 2 rfl
 have hwl:=HO.out.lt
 go_cut [3] from 4 to 9 (fun u3 wx=>u3=.string S1/\Below wU.heap.size wU wx)
 case first=>
  have HBz0:Hid (Below wU.heap.size wU wU.drew):=aA
  refine Go.wp_region_held (S:=fun W=>Below wU.heap.size wU W) (by kernel_rfl) ?_
  change Go.wpAnyH _ _ _ _ _ _ _ _ (World.drew _)
  refine tk 1 (.pointer (some ⟨w.heap.size,0,none⟩)) rfl (by kernel_rfl) (by rfl) (fun _ _ _ h=>h) HBz0.out (fun W hW=>?_) ?_
  ·have hwl2:=lL hwl hW.size
   go_simp
  refine tk 2 (.int .i64 k) rfl (by kernel_rfl) (by rfl) (fun _ _ _ h=>h) HBz0.out (fun W hW=>?_) ?_
  ·have d:=af hW c0
   go_simp
  refine bH 0 (by kernel_rfl) rfl (fun K hK=>?_)
  go_simp
  refine (HWK.out _).mono ?_
  rintro e wz1 ⟨rfl,hwm,hb⟩
  have HBz1:=jg (HBz0.out.trans (hb.mono HBz0.out.size))
  have HWM:=jg hwm
  refine hK _ _ ⟨HBz1.out,?_⟩
  refine bH 3 (by kernel_rfl) rfl (fun K hK=>?_)
  go_simp
  refine (HWF.out _ _ HWM.out).mono ?_
  rintro e wz2 ⟨rfl,hb⟩
  have HBz2:=jg (HBz1.out.trans (hb.mono HBz1.out.size))
  refine hK _ _ ⟨HBz2.out,?_⟩
  refine bH 4 (by kernel_rfl) rfl (fun K hK=>?_)
  go_simp
  have HBz3:Hid (Below wU.heap.size wU (wz2.alloc (.cells #[.string ⟨#[105,110]⟩,.string WD] 9))):=HBz2.out.trans ((ae wz2 _).mono HBz2.out.size)
  refine hK _ _ ⟨HBz3.out,?_⟩
  refine bH 5 (by kernel_rfl) rfl (fun K hK=>?_)
  go_simp
  refine (HSP1.out wz2).mono ?_
  rintro e wz4 ⟨rfl,hb⟩
  have HBz4:=jg (HBz2.out.trans (hb.mono HBz2.out.size))
  refine hK _ _ ⟨HBz4.out,?_⟩
  refine bH 6 (by kernel_rfl) rfl (fun K hK=>?_)
  go_simp
  refine hK _ _ ⟨HBz4.out,?_⟩
  refine Go.wpAnyH_done (by kernel_rfl) ?_ _
  go_wp2_with fail
  go_meet
  exact ⟨rfl,HBz4.out⟩
 case rest=>
  obtain ⟨rfl,hbx⟩:=hcut
  have HBX:=jg hbx
  have d0:=af hbx c0
  have d1:=af hbx c1
  have d2:=af hbx c2
  have hl2:=lL hwl hbx.size
  have HBC:=jg (HB.out.trans (hbx.mono HB.out.size))
  generalize wc=wV at *
  by_cases h4:k=4
  ·subst h4
   rw [if_pos rfl] at HP
   go_wp2_with fail
   go_ret
   exact ⟨by rw [HP.out];rfl,HBC.out⟩
  ·have h4b:(k==4)=false:=by simp [h4]
   rw [if_neg h4] at HP
   by_cases h2:k=2
   ·subst h2
    rw [if_pos rfl] at HP
    go_upto_region 6 with fail
    have HBy0:Hid (Below wV.heap.size wV wV.drew):=aA
    refine Go.wp_region_held (S:=fun W=>Below wV.heap.size wV W) (by kernel_rfl) ?_
    change Go.wpAnyH _ _ _ _ _ _ _ _ (World.drew _)
    refine tk 0 (.string S1) rfl (by kernel_rfl) (by rfl) (fun _ _ _ h=>h) HBy0.out (fun W hW=>?_) ?_
    ·go_simp
    refine tk 1 (.pointer (some ⟨w.heap.size,1,none⟩)) rfl (by kernel_rfl) (by rfl) (fun _ _ _ h=>h) HBy0.out (fun W hW=>?_) ?_
    ·have hwl2:=lL hl2 hW.size
     go_simp
    refine tk 2 (.int .i64 s) rfl (by kernel_rfl) (by rfl) (fun _ _ _ h=>h) HBy0.out (fun W hW=>?_) ?_
    ·have d:=af hW d1
     go_simp
    refine tk 4 (.pointer (some ⟨w.heap.size,2,none⟩)) rfl (by kernel_rfl) (by rfl) (fun _ _ _ h=>h) HBy0.out (fun W hW=>?_) ?_
    ·have hwl2:=lL hl2 hW.size
     go_simp
    refine tk 5 (.int .i64 t) rfl (by kernel_rfl) (by rfl) (fun _ _ _ h=>h) HBy0.out (fun W hW=>?_) ?_
    ·have d:=af hW d2
     go_simp
    refine bH 3 (by kernel_rfl) rfl (fun K hK=>?_)
    go_simp
    refine (HNS.out _ (HBC.out.trans (HBy0.out.mono HBC.out.size))).mono ?_
    rintro e wy1 ⟨rfl,hb⟩
    have HBy1:=jg (HBy0.out.trans (hb.mono HBy0.out.size))
    refine hK _ _ ⟨HBy1.out,?_⟩
    refine bH 6 (by kernel_rfl) rfl (fun K hK=>?_)
    go_simp
    refine (HNT.out _ (HBC.out.trans (HBy1.out.mono HBC.out.size))).mono ?_
    rintro e wy2 ⟨rfl,hb⟩
    have HBy2:=jg (HBy1.out.trans (hb.mono HBy1.out.size))
    refine hK _ _ ⟨HBy2.out,?_⟩
    refine bH 7 (by kernel_rfl) rfl (fun K hK=>?_)
    go_simp
    have HBy3:Hid (Below wV.heap.size wV (wy2.alloc (.cells #[.string S1,.string NS,.string ⟨#[101,118,101,114,121]⟩,.string NT] 9))):=HBy2.out.trans ((ae wy2 _).mono HBy2.out.size)
    refine hK _ _ ⟨HBy3.out,?_⟩
    refine bH 8 (by kernel_rfl) rfl (fun K hK=>?_)
    go_simp
    refine (bq [S1,NS,⟨#[101,118,101,114,121]⟩,NT] (show 4<=4096 by decide) (hz2) wy2).mono ?_
    rintro e wy4 ⟨rfl,hb⟩
    have HBy4:=jg (HBy2.out.trans (hb.mono HBy2.out.size))
    refine hK _ _ ⟨HBy4.out,?_⟩
    refine bH 9 (by kernel_rfl) rfl (fun K hK=>?_)
    go_simp
    refine hK _ _ ⟨HBy4.out,?_⟩
    refine Go.wpAnyH_done (by kernel_rfl) ?_ _
    go_wp2_with fail
    go_ret
    exact ⟨by rw [HP.out];rfl,HBC.out.trans (HBy4.out.mono HBC.out.size)⟩
   ·have h2b:(k==2)=false:=by simp [h2]
    rw [if_neg h2] at HP
    go_wp2_with fail
    refine (HNS.out _ HBC.out).mono ?_
    rintro e w1 ⟨rfl,hb⟩
    have HB1:=jg (HBC.out.trans (hb.mono HBC.out.size))
    go_wp2_with fail
    refine (bq [S1,NS] (show 2<=4096 by decide) hz3 w1).mono ?_
    rintro e w2 ⟨rfl,hb⟩
    have HB2:=jg (HB1.out.trans (hb.mono HB1.out.size))
    go_wp2_with fail
    go_ret
    exact ⟨by rw [HP.out];rfl,HB2.out⟩
end Go.Proofs.YtiiliobffnhpmaaGreatDoor.Jp
