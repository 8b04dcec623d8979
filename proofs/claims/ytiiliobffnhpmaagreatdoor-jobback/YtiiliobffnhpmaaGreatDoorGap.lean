import Derived.Test.YtiiliobffnhpmaaGreatDoorGao
set_option linter.all false
set_option maxRecDepth 100000
set_option maxHeartbeats 4000000
namespace Go.Proofs.YtiiliobffnhpmaaGreatDoor
namespace Jp
open Go.RowKit Oo
attribute [local go_sem] an
def dJ:ByteArray:=⟨#[108,97,116,101]⟩
def aB:eJ:=⟨0,[],[],[],[],[],[],0,0,0,[],false⟩
def lD (rd:R1) (E:Nat) (ts:List Tk):Except Nat (aJ × List Tk):=
 bnd (bm E ts) fun s ts=>bnd (aM E [jb] ts) fun _ ts=>bnd (bg E (iT E) dw ts) fun l ts=>bnd (aM E [ii] ts) fun _ ts=>
 if (cq E dJ ts).1=true then bnd (jW rd E (cq E dJ ts).2) fun n ts=>.ok (⟨s,{ aB with k:=1,c:=l.map (·.1) },[],[],n⟩,ts)
 else .ok (⟨s,{ aB with k:=1,c:=l.map (·.1) },[],[],0⟩,(cq E dJ ts).2)
structure wP (R:Nat->Prop) (q:bM):Prop where
 e:∀ b off,q.p.ea=some ⟨b,off,none⟩->R b
 n:∀ b off,q.p.na=some ⟨b,off,none⟩->R b
 c:∀ b off,q.p.ca=some ⟨b,off,none⟩->R b
 r:∀ b off,q.p.ra=some ⟨b,off,none⟩->R b
 k:∀ b off,q.p.ka=some ⟨b,off,none⟩->R b
 o:∀ b off,q.p.oa=some ⟨b,off,none⟩->R b
 g:∀ b off,q.p.ga=some ⟨b,off,none⟩->R b
 i:∀ b off,q.ia=some ⟨b,off,none⟩->R b
 l:∀ b off,q.ka=some ⟨b,off,none⟩->R b
def NP (c:LC) (w:World) (o:Except Nat (aJ × List Tk)) (e:Ending) (w':World):Prop:=w.grownBy w' (some c.g)/\match o with
 | .ok (n,ts)=>∃ q,e=.returned (.agg (au n q).toArray)/\bw w' n q/\PJ c w' ts/\wP (fun b=>w.heap.size<=b) q
 | .error k=>e=cm k
theorem cd {α β:Type} {o:Except Nat (α × List Tk)} {f:α->List Tk->Except Nat (β × List Tk)} {x:β} {ts ts':List Tk} (h:bnd o f=.ok (x,ts')) (h1:∀ y ts1,o=.ok (y,ts1)->ts1.length<=ts.length) (h2:∀ y ts1 ts2,f y ts1=.ok (x,ts2)->ts2.length<=ts1.length):ts'.length<=ts.length:=by
 cases o with
 | error e=>cases h
 | ok p=>obtain ⟨y,ts1⟩:=p;exact Nat.le_trans (h2 y ts1 ts' h) (h1 y ts1 rfl)
theorem fz {E:Nat} {ts ts':List Tk} {s:ByteArray} (h:bm E ts=.ok (s,ts')):ts'.length<=ts.length:=by
 unfold bm at h
 split at h
 ·cases h
 ·split at h
  ·cases h;simp
  ·cases h
theorem yo {ws:List (ByteArray × Int)} {E:Nat} {ts ts':List Tk} {s:Int} (h:nq ws E ts=.ok (s,ts')):ts'.length<=ts.length:=by
 unfold nq at h
 split at h
 ·cases h;simp
 ·cases h
theorem zu {E:Nat} {ts ts':List Tk} {x:Co × Unit} (h:iT E ts=.ok (x,ts')):ts'.length<=ts.length:=
 cd h (fun y ts1 h=>fz h) (fun y ts1 ts2 h=>cd h (fun y ts1 h=>yo h) (fun y ts1 ts2 h=>by cases h;exact lR))
theorem rt (a:Array Value) (W:World):(callFunc 133 a).run Tryz.prog W=.ok (.enter 133 a) W:=eP Tryz.func133 (by kernel_rfl) (by rfl) a W
theorem Am {W:World} {B:Nat} {v:Value} {l:List (Co × Unit)} (h:W.ownsRow B 95 2 v l.length (l.flatMap fun p=>aR p.1)):∃ a cc,v=.slice a l.length cc/\ap W a (l.map (·.1))/\∀ b off,a=some ⟨b,off,none⟩->B<=b:=by
 rcases h.2 with ⟨h1,h2⟩ | ⟨b,cap,cur,h1,h2,h3⟩
 ·exact ⟨none,0,by rw [h1,h2],fun i hi=>absurd hi (by rw [List.length_map];omega),fun b off e=>by cases e⟩
 ·subst h1
  refine ⟨_,_,rfl,fun i hi=>?_,fun b' off e=>by cases e;exact h2⟩
  rw [List.length_map] at hi
  have key:∀ j,j<2->W.cell? ⟨b,i*2+j,none⟩=(aR l[i].1)[j]?:=fun j hj=>by
   rw [World.ownsRow.cellAt h (i*2+j) (by omega),eH (fun p:Co × Unit=>aR p.1) 2 (fun _=>rfl) l i j hi hj]
  refine ⟨b,0,rfl,?_,?_⟩
  ·rw [Nat.zero_add,List.getElem_map];exact key 0 (by decide)
  ·rw [Nat.zero_add,List.getElem_map];exact key 1 (by decide)
theorem Fr.g1 {w w':World} {g:Nat} (h:Fr w w' [g]):w.grownBy w' (some g):=⟨h.os,h.tape,h.output,h.size,fun i hi hx=>h.block i hi (fun e=>hx (by simp at e;rw [e]))⟩
theorem mL:dw≠⟨#[]⟩:=by decide
theorem dE:(Tryz.prog.info? 61).map (·.size)=some 16:=by kernel_rfl
theorem sD {rd:R1} {pf:P1} (c:LC) (hE:Ah c rd pf) (ts:List Tk) (w:World) (h:PJ c w ts) :
 Calls Tryz.prog 77 #[.pointer (some ⟨c.g,0,none⟩)] w (NP c w (lD rd c.line.size ts)):=by
 obtain ⟨O,HX⟩:∃ O,Hid (lD rd c.line.size ts=O):=⟨_,rfl⟩
 rw [HX.out]
 unfold lD at HX
 have HE:=jg hE
 have hgl:=h.lt
 have hmf:=ff
 have HB01:Hid (Below w.heap.size w ((w.alloc (.cells #[.pointer (some ⟨c.g,0,none⟩)] 82)).alloc (.cells #[.string ⟨#[]⟩,.int .i64 0,.slice none 0 0,.slice none 0 0,.slice none 0 0,.slice none 0 0,.slice none 0 0,.slice none 0 0,.int .i64 0,.int .i64 0,.int .i64 0,.slice none 0 0,.bool false,.slice none 0 0,.slice none 0 0,.int .i64 0] 61))):=(ae w _).alloc (by simp) _
 have HNM:=jg (fG c ts ((w.alloc (.cells #[.pointer (some ⟨c.g,0,none⟩)] 82)).alloc (.cells #[.string ⟨#[]⟩,.int .i64 0,.slice none 0 0,.slice none 0 0,.slice none 0 0,.slice none 0 0,.slice none 0 0,.slice none 0 0,.int .i64 0,.int .i64 0,.int .i64 0,.slice none 0 0,.bool false,.slice none 0 0,.slice none 0 0,.int .i64 0] 61)) (h.later HB01.out))
 have HPB0:=jg ((aD.new w 82 1 #[.pointer (some ⟨c.g,0,none⟩)] rfl).later (ae (w.alloc (.cells #[.pointer (some ⟨c.g,0,none⟩)] 82)) (.cells #[.string ⟨#[]⟩,.int .i64 0,.slice none 0 0,.slice none 0 0,.slice none 0 0,.slice none 0 0,.slice none 0 0,.slice none 0 0,.int .i64 0,.int .i64 0,.int .i64 0,.slice none 0 0,.bool false,.slice none 0 0,.slice none 0 0,.int .i64 0] 61)))
 have HOR0:=jg (aD.new (w.alloc (.cells #[.pointer (some ⟨c.g,0,none⟩)] 82)) 61 16 #[.string ⟨#[]⟩,.int .i64 0,.slice none 0 0,.slice none 0 0,.slice none 0 0,.slice none 0 0,.slice none 0 0,.slice none 0 0,.int .i64 0,.int .i64 0,.int .i64 0,.slice none 0 0,.bool false,.slice none 0 0,.slice none 0 0,.int .i64 0] rfl)
 rw [show (w.alloc (.cells #[.pointer (some ⟨c.g,0,none⟩)] 82)).heap.size=w.heap.size+1 from by simp] at HOR0
 go_in
 go_wp2_with fail
 generalize hWW:((w.alloc (.cells #[.pointer (some ⟨c.g,0,none⟩)] 82)).alloc (.cells #[.string ⟨#[]⟩,.int .i64 0,.slice none 0 0,.slice none 0 0,.slice none 0 0,.slice none 0 0,.slice none 0 0,.slice none 0 0,.int .i64 0,.int .i64 0,.int .i64 0,.slice none 0 0,.bool false,.slice none 0 0,.slice none 0 0,.int .i64 0] 61))=WW at *
 refine HNM.out.mono ?_
 intro e w1 hr
 rcases hr.el with ⟨n,ho,rfl,hg⟩ | ⟨s,ts1,ho,rfl,hg,hp⟩
 ·have HGX:=jg (ai (aj HB01.out) hg)
  rw [ho] at HX
  simp only [bnd] at HX
  unfold cm
  go_wp2_with fail
  rw [<-HX.out]
  exact ⟨HGX.out,rfl⟩
 ·rw [ho] at HX
  simp only [bnd] at HX
  have HPB1:=jg (HPB0.out.grown hg (nS (by omega)))
  have HOR1:=jg (HOR0.out.grown hg (nS (by omega)))
  have HG1:=jg (ai (aj HB01.out) hg)
  have HP1:=jg hp
  have hlb:=HPB1.out.lt
  have hlr:=HOR1.out.lt
  have hl1:=hlr
  have hg1:=HP1.out.lt
  have HP3:=jg (HP1.out.later (ae w1 (.cells #[.string s,.int .i64 1,.slice none 0 0,.slice none 0 0,.slice none 0 0,.slice none 0 0,.slice none 0 0,.slice none 0 0,.int .i64 0,.int .i64 0,.int .i64 0,.slice none 0 0,.bool false,.slice none 0 0,.slice none 0 0,.int .i64 0] 61)))
  have HG3:=jg (ai HG1.out (aj (ae w1 (.cells #[.string s,.int .i64 1,.slice none 0 0,.slice none 0 0,.slice none 0 0,.slice none 0 0,.slice none 0 0,.slice none 0 0,.int .i64 0,.int .i64 0,.int .i64 0,.slice none 0 0,.bool false,.slice none 0 0,.slice none 0 0,.int .i64 0] 61))))
  have HPB3:=jg (HPB1.out.later (ae w1 (.cells #[.string s,.int .i64 1,.slice none 0 0,.slice none 0 0,.slice none 0 0,.slice none 0 0,.slice none 0 0,.slice none 0 0,.int .i64 0,.int .i64 0,.int .i64 0,.slice none 0 0,.bool false,.slice none 0 0,.slice none 0 0,.int .i64 0] 61)))
  have HOR3:=jg (HOR1.out.later (ae w1 (.cells #[.string s,.int .i64 1,.slice none 0 0,.slice none 0 0,.slice none 0 0,.slice none 0 0,.slice none 0 0,.slice none 0 0,.int .i64 0,.int .i64 0,.int .i64 0,.slice none 0 0,.bool false,.slice none 0 0,.slice none 0 0,.int .i64 0] 61)))
  have HON3:=jg (aD.new w1 61 16 #[.string s,.int .i64 1,.slice none 0 0,.slice none 0 0,.slice none 0 0,.slice none 0 0,.slice none 0 0,.slice none 0 0,.int .i64 0,.int .i64 0,.int .i64 0,.slice none 0 0,.bool false,.slice none 0 0,.slice none 0 0,.int .i64 0] rfl)
  go_upto_region 3 with fail
  generalize hW3:w1.alloc (.cells #[.string s,.int .i64 1,.slice none 0 0,.slice none 0 0,.slice none 0 0,.slice none 0 0,.slice none 0 0,.slice none 0 0,.int .i64 0,.int .i64 0,.int .i64 0,.slice none 0 0,.bool false,.slice none 0 0,.slice none 0 0,.int .i64 0] 61)=W3 at *
  have hB3w:w.heap.size<=w1.heap.size:=by omega
  have hn31:w1.heap.size≠w.heap.size:=by omega
  have hn32:w1.heap.size≠w.heap.size+1:=by omega
  generalize w1.heap.size=B3 at *
  obtain ⟨B1,HB1⟩:∃ B1,Hid (B1=w.heap.size):=⟨_,rfl⟩
  rw [<-HB1.out] at hgl HPB3 HOR3 hB3w hn31 hn32 ⊢
  obtain ⟨B2,HB2e⟩:∃ B2,Hid (B2=B1+1):=⟨_,rfl⟩
  rw [<-HB2e.out] at HOR3 hn32 ⊢
  have HB2:Hid (w.heap.size<=B2):=by rw [Hid,HB2e.out,HB1.out];omega
  have HB3:Hid (w.heap.size<=B3):=by rw [Hid,<-HB1.out];exact hB3w
  have hg2:c.g<B2:=by rw [HB2e.out];omega
  have hb12:B1<B2:=by rw [HB2e.out];omega
  have pb0:=HPB3.out.c 0 rfl
  have hlb3:=HPB3.out.lt
  have HW:=jg (bO c jb ts1 W3 HP3.out)
  unfold jb at HW
  go_wp2_with fail
  refine HW.out.mono ?_
  intro e w4 hr
  rcases hr.el with ⟨n,ho,rfl,hg⟩ | ⟨x4,ts2,ho,rfl,hg,hp⟩
  ·change aM c.line.size [jb] ts1=_ at ho
   have HGX:=jg (ai HG3.out hg)
   rw [ho] at HX
   simp only [bnd] at HX
   unfold cm
   go_wp2_with fail
   rw [<-HX.out]
   exact ⟨HGX.out,rfl⟩
  ·change aM c.line.size [jb] ts1=_ at ho
   rw [ho] at HX
   simp only [bnd] at HX
   have HG4:=jg (ai HG3.out hg)
   have HPB4:=jg (HPB3.out.grown hg (nS (by omega)))
   have HOR4:=jg (HOR3.out.grown hg (nS (by omega)))
   have HON4:=jg (HON3.out.grown hg (nS (by omega)))
   have HP4:=jg hp
   have pb0:=HPB4.out.c 0 rfl
   have hlb4:=HPB4.out.lt
   have hln4:=HON4.out.lt
   have HL4:Hid (B3<w4.heap.size/\B2<w4.heap.size/\c.g<w4.heap.size):=⟨HON4.out.lt,HOR4.out.lt,HP4.out.lt⟩
   have HLS:=jg (gp .c c [] (B1+1) 133 #[] #[.pointer (some ⟨B1,0,none⟩)] (SS c B1) (SS.side c B1) (iT c.line.size) (fun ts x ts' h=>zu h) dw mL rt (fun ts acc r W h=>rN c B1 ts acc r W h) ts2 [] none w4 ⟨HP4.out,pb0,rfl,hgl⟩)
   unfold dw at HLS
   have d0:=HON4.out.c 0 rfl
   have df0:=HON4.out.soft 0
   have d1:=HON4.out.c 1 rfl
   have df1:=HON4.out.soft 1
   have d2:=HON4.out.c 2 rfl
   have df2:=HON4.out.soft 2
   have d3:=HON4.out.c 3 rfl
   have df3:=HON4.out.soft 3
   have d4:=HON4.out.c 4 rfl
   have df4:=HON4.out.soft 4
   have d5:=HON4.out.c 5 rfl
   have df5:=HON4.out.soft 5
   have d6:=HON4.out.c 6 rfl
   have df6:=HON4.out.soft 6
   have d7:=HON4.out.c 7 rfl
   have df7:=HON4.out.soft 7
   have d8:=HON4.out.c 8 rfl
   have df8:=HON4.out.soft 8
   have d9:=HON4.out.c 9 rfl
   have df9:=HON4.out.soft 9
   have d10:=HON4.out.c 10 rfl
   have df10:=HON4.out.soft 10
   have d11:=HON4.out.c 11 rfl
   have df11:=HON4.out.soft 11
   have d12:=HON4.out.c 12 rfl
   have df12:=HON4.out.soft 12
   have d13:=HON4.out.c 13 rfl
   have df13:=HON4.out.soft 13
   have d14:=HON4.out.c 14 rfl
   have df14:=HON4.out.soft 14
   have d15:=HON4.out.c 15 rfl
   have df15:=HON4.out.soft 15
   go_wp2_with fail
   refine HLS.out.mono ?_
   intro e w5 hr
   obtain ⟨hfr,hr⟩:=hr
   rw [show (⟨#[44]⟩:ByteArray)=dw from rfl] at hr
   have hg:=Fr.g1 hfr
   have HG5:=jg (ai HG4.out hg)
   have HPB5:=jg (HPB4.out.grown hg (nS (by omega)))
   have HOR5:=jg (HOR4.out.grown hg (nS (by omega)))
   have HON5:=jg (HON4.out.grown hg (nS (by omega)))
   cases ho:bg c.line.size (iT c.line.size) dw ts2 with
   | error n=>
    rw [ho] at hr HX
    simp only [bnd] at hr HX
    subst hr
    unfold cm
    go_wp2_with fail
    rw [<-HX.out]
    exact ⟨HG5.out,rfl⟩
   | ok p=>
    obtain ⟨l,ts3⟩:=p
    rw [ho] at hr HX
    simp only [bnd] at HX
    obtain ⟨v,r',he,how,hss,hrr⟩:=hr
    subst he
    obtain ⟨ca,ccap,rfl,hca,hcb⟩:=Am how
    have HCA5:=jg hca
    have HC3:Hid (∀ b off,ca=some ⟨b,off,none⟩->B3≠b):=fun b off e=>by have:=hcb b off e;have:=HL4.out.1;omega
    have HC2:Hid (∀ b off,ca=some ⟨b,off,none⟩->B2≠b):=fun b off e=>by have:=hcb b off e;have:=HL4.out.2.1;omega
    have HCW:Hid (∀ b off,ca=some ⟨b,off,none⟩->w.heap.size<=b):=fun b off e=>by have:=hcb b off e;have:=HL4.out.2.1;have:=HB2.out;omega
    have HCG:Hid (∀ b off,ca=some ⟨b,off,none⟩->c.g≠b):=fun b off e=>by have:=hcb b off e;have:=HL4.out.2.2;omega
    have HP5:=jg hss.1
    have hln5:=HON5.out.lt
    have hw45:=HPB5.out.lt
    have d0:=HON5.out.c 0 rfl
    have df0:=HON5.out.soft 0
    have d1:=HON5.out.c 1 rfl
    have df1:=HON5.out.soft 1
    have d2:=HON5.out.c 2 rfl
    have df2:=HON5.out.soft 2
    have d3:=HON5.out.c 3 rfl
    have df3:=HON5.out.soft 3
    have d4:=HON5.out.c 4 rfl
    have df4:=HON5.out.soft 4
    have d5:=HON5.out.c 5 rfl
    have df5:=HON5.out.soft 5
    have d6:=HON5.out.c 6 rfl
    have df6:=HON5.out.soft 6
    have d7:=HON5.out.c 7 rfl
    have df7:=HON5.out.soft 7
    have d8:=HON5.out.c 8 rfl
    have df8:=HON5.out.soft 8
    have d9:=HON5.out.c 9 rfl
    have df9:=HON5.out.soft 9
    have d10:=HON5.out.c 10 rfl
    have df10:=HON5.out.soft 10
    have d11:=HON5.out.c 11 rfl
    have df11:=HON5.out.soft 11
    have d12:=HON5.out.c 12 rfl
    have df12:=HON5.out.soft 12
    have d13:=HON5.out.c 13 rfl
    have df13:=HON5.out.soft 13
    have d14:=HON5.out.c 14 rfl
    have df14:=HON5.out.soft 14
    have d15:=HON5.out.c 15 rfl
    have df15:=HON5.out.soft 15
    have HPUT:=jg (HON5.out.put 4 (.slice ca l.length ccap))
    have HP6:=jg (HP5.out.grown HPUT.out.2 (fun k hk=>by cases hk;omega))
    have HG6:=jg (bv HG5.out HPUT.out.2 (fun k hk=>by cases hk;exact HB3.out))
    have HPB6:=jg (HPB5.out.grown HPUT.out.2 (nS (by omega)))
    have HOR6:=jg (HOR5.out.grown HPUT.out.2 (nS (by omega)))
    have HCA6:=jg (ap.ne HCA5.out HPUT.out.2 HC3.out)
    have HON6:=jg HPUT.out.1
    go_upto_region 5 with fail
    generalize hW6:w5.setCell ⟨B3,4,none⟩ (.slice ca l.length ccap)=W6 at *
    have pb0:=HPB6.out.c 0 rfl
    have hlb6:=HPB6.out.lt
    have HW:=jg (bO c ii ts3 W6 HP6.out)
    unfold ii at HW
    go_wp2_with fail
    refine HW.out.mono ?_
    intro e w7 hr
    rcases hr.el with ⟨n,ho,rfl,hg⟩ | ⟨x7,ts4,ho,rfl,hg,hp⟩
    ·change aM c.line.size [ii] ts3=_ at ho
     have HGX:=jg (ai HG6.out hg)
     rw [ho] at HX
     simp only [bnd] at HX
     unfold cm
     go_wp2_with fail
     rw [<-HX.out]
     exact ⟨HGX.out,rfl⟩
    ·change aM c.line.size [ii] ts3=_ at ho
     rw [ho] at HX
     simp only [bnd] at HX
     have HG7:=jg (ai HG6.out hg)
     have HPB7:=jg (HPB6.out.grown hg (nS (by omega)))
     have HOR7:=jg (HOR6.out.grown hg (nS (by omega)))
     have HON7:=jg (HON6.out.grown hg (nS (by omega)))
     have HCA7:=jg (ap.ne HCA6.out hg HCG.out)
     have HP7:=jg hp
     have pb0:=HPB7.out.c 0 rfl
     have hlb7:=HPB7.out.lt
     have HHS:=jg (jc c dJ ts4 w7 HP7.out)
     unfold dJ at HHS
     go_wp2_with fail
     refine HHS.out.mono ?_
     rintro e w8 ⟨he,hg,hp⟩
     rw [show (⟨#[108,97,116,101]⟩:ByteArray)=dJ from rfl] at he hp
     subst he
     have HG8:=jg (ai HG7.out hg)
     have HPB8:=jg (HPB7.out.grown hg (nS (by omega)))
     have HOR8:=jg (HOR7.out.grown hg (nS (by omega)))
     have HON8:=jg (HON7.out.grown hg (nS (by omega)))
     have HCA8:=jg (ap.ne HCA7.out hg HCG.out)
     have HP8:=jg hp
     have pb0:=HPB8.out.c 0 rfl
     have hlb8:=HPB8.out.lt
     generalize (cq c.line.size dJ ts4).2=ts5 at *
     generalize hh:(cq c.line.size dJ ts4).1=hb at *
     cases hb with
     | false=>
      rw [if_neg (by simp)] at HX
      have HR3:=jg HON8.out.row
      have HR2:=jg HOR8.out.row
      have ho1:Hid ((#[.string s,.int .i64 1,.slice none 0 0,.slice none 0 0,.slice ca l.length ccap,.slice none 0 0,.slice none 0 0,.slice none 0 0,.int .i64 0,.int .i64 0,.int .i64 0,.slice none 0 0,.bool false,.slice none 0 0,.slice none 0 0,.int .i64 0]:Array Value).all (·.oneCell')=true):=by unfold Hid;simp [Value.oneCell']
      go_wp2_with (first
       | (refine wpList_load_row rfl 61 _ rfl B3 rfl 61 #[.string s,.int .i64 1,.slice none 0 0,.slice none 0 0,.slice ca l.length ccap,.slice none 0 0,.slice none 0 0,.slice none 0 0,.int .i64 0,.int .i64 0,.int .i64 0,.slice none 0 0,.bool false,.slice none 0 0,.slice none 0 0,.int .i64 0] (0,0) _ HR3.out Tryz.underlying61 rfl dE ?_)
       | (refine wpList_store_row rfl 61 _ _ rfl B2 #[.string s,.int .i64 1,.slice none 0 0,.slice none 0 0,.slice ca l.length ccap,.slice none 0 0,.slice none 0 0,.slice none 0 0,.int .i64 0,.int .i64 0,.int .i64 0,.slice none 0 0,.bool false,.slice none 0 0,.slice none 0 0,.int .i64 0] rfl rfl 61 #[.string ⟨#[]⟩,.int .i64 0,.slice none 0 0,.slice none 0 0,.slice none 0 0,.slice none 0 0,.slice none 0 0,.slice none 0 0,.int .i64 0,.int .i64 0,.int .i64 0,.slice none 0 0,.bool false,.slice none 0 0,.slice none 0 0,.int .i64 0] HR2.out dE rfl ho1.out ?_))
      have hG:=iq w8 B2 #[.string s,.int .i64 1,.slice none 0 0,.slice none 0 0,.slice ca l.length ccap,.slice none 0 0,.slice none 0 0,.slice none 0 0,.int .i64 0,.int .i64 0,.int .i64 0,.slice none 0 0,.bool false,.slice none 0 0,.slice none 0 0,.int .i64 0]
      refine bodyPost_ret (v:=.agg #[.string s,.int .i64 1,.slice none 0 0,.slice none 0 0,.slice ca l.length ccap,.slice none 0 0,.slice none 0 0,.slice none 0 0,.int .i64 0,.int .i64 0,.int .i64 0,.slice none 0 0,.bool false,.slice none 0 0,.slice none 0 0,.int .i64 0]) (results_cell_row rfl _ _ B2 61 #[.string s,.int .i64 1,.slice none 0 0,.slice none 0 0,.slice ca l.length ccap,.slice none 0 0,.slice none 0 0,.slice none 0 0,.int .i64 0,.int .i64 0,.int .i64 0,.slice none 0 0,.bool false,.slice none 0 0,.slice none 0 0,.int .i64 0] (0,0) _ rfl (setRow_heap _ _ _ _ _ _ HR2.out) Tryz.underlying61 rfl dE) rfl ?_
      rw [<-HX.out]
      exact ⟨bv (HG8.out) hG (fun k hk=>by cases hk;exact HB2.out),⟨⟨none,0,none,0,ca,ccap,none,0,none,0,none,0,none,0⟩,none,0,none,0⟩,by simp [au,aB],⟨⟨fun i hi=>absurd hi (by simp [aB]),fun i hi=>absurd hi (by simp [aB]),ap.ne (HCA8.out) hG HC2.out,fun i hi=>absurd hi (by simp [aB]),fun i hi=>absurd hi (by simp [aB]),fun i hi=>absurd hi (by simp [aB]),fun i hi=>absurd hi (by simp [aB])⟩,fun i hi=>absurd hi (by simp [aB]),fun i hi=>absurd hi (by simp [aB])⟩,PJ.grown (HP8.out) hG (fun k hk=>by cases hk;exact hg2),⟨fun b o e=>(by cases e),fun b o e=>(by cases e),HCW.out,fun b o e=>(by cases e),fun b o e=>(by cases e),fun b o e=>(by cases e),fun b o e=>(by cases e),fun b o e=>(by cases e),fun b o e=>(by cases e)⟩⟩
     | true=>
      rw [if_pos rfl] at HX
      have d0:=HON8.out.c 0 rfl
      have df0:=HON8.out.soft 0
      have d1:=HON8.out.c 1 rfl
      have df1:=HON8.out.soft 1
      have d2:=HON8.out.c 2 rfl
      have df2:=HON8.out.soft 2
      have d3:=HON8.out.c 3 rfl
      have df3:=HON8.out.soft 3
      have d4:=HON8.out.c 4 rfl
      have df4:=HON8.out.soft 4
      have d5:=HON8.out.c 5 rfl
      have df5:=HON8.out.soft 5
      have d6:=HON8.out.c 6 rfl
      have df6:=HON8.out.soft 6
      have d7:=HON8.out.c 7 rfl
      have df7:=HON8.out.soft 7
      have d8:=HON8.out.c 8 rfl
      have df8:=HON8.out.soft 8
      have d9:=HON8.out.c 9 rfl
      have df9:=HON8.out.soft 9
      have d10:=HON8.out.c 10 rfl
      have df10:=HON8.out.soft 10
      have d11:=HON8.out.c 11 rfl
      have df11:=HON8.out.soft 11
      have d12:=HON8.out.c 12 rfl
      have df12:=HON8.out.soft 12
      have d13:=HON8.out.c 13 rfl
      have df13:=HON8.out.soft 13
      have d14:=HON8.out.c 14 rfl
      have df14:=HON8.out.soft 14
      have d15:=HON8.out.c 15 rfl
      have df15:=HON8.out.soft 15
      have hln8:=HON8.out.lt
      go_wp2_with fail
      refine (jE c HE.out ts5 w8 HP8.out).mono ?_
      intro e w9 hr
      rcases hr.el with ⟨n,ho,rfl,hg⟩ | ⟨m,ts6,ho,rfl,hg,hp⟩
      ·have HGX:=jg (ai HG8.out hg)
       rw [ho] at HX
       simp only [bnd] at HX
       unfold cm
       go_wp2_with fail
       rw [<-HX.out]
       exact ⟨HGX.out,rfl⟩
      ·rw [ho] at HX
       simp only [bnd] at HX
       have HON9:=jg (HON8.out.grown hg (nS (by omega)))
       have HOR9:=jg (HOR8.out.grown hg (nS (by omega)))
       have HG9:=jg (ai HG8.out hg)
       have HCA9:=jg (ap.ne HCA8.out hg HCG.out)
       have HP9:=jg hp
       have d0:=HON9.out.c 0 rfl
       have df0:=HON9.out.soft 0
       have d1:=HON9.out.c 1 rfl
       have df1:=HON9.out.soft 1
       have d2:=HON9.out.c 2 rfl
       have df2:=HON9.out.soft 2
       have d3:=HON9.out.c 3 rfl
       have df3:=HON9.out.soft 3
       have d4:=HON9.out.c 4 rfl
       have df4:=HON9.out.soft 4
       have d5:=HON9.out.c 5 rfl
       have df5:=HON9.out.soft 5
       have d6:=HON9.out.c 6 rfl
       have df6:=HON9.out.soft 6
       have d7:=HON9.out.c 7 rfl
       have df7:=HON9.out.soft 7
       have d8:=HON9.out.c 8 rfl
       have df8:=HON9.out.soft 8
       have d9:=HON9.out.c 9 rfl
       have df9:=HON9.out.soft 9
       have d10:=HON9.out.c 10 rfl
       have df10:=HON9.out.soft 10
       have d11:=HON9.out.c 11 rfl
       have df11:=HON9.out.soft 11
       have d12:=HON9.out.c 12 rfl
       have df12:=HON9.out.soft 12
       have d13:=HON9.out.c 13 rfl
       have df13:=HON9.out.soft 13
       have d14:=HON9.out.c 14 rfl
       have df14:=HON9.out.soft 14
       have d15:=HON9.out.c 15 rfl
       have df15:=HON9.out.soft 15
       have hln9:=HON9.out.lt
       have HPU:=jg (HON9.out.put 15 (.int .i64 m))
       have HP:=jg (HP9.out.grown HPU.out.2 (fun k hk=>by cases hk;omega))
       have HG:=jg (bv HG9.out HPU.out.2 (fun k hk=>by cases hk;exact HB3.out))
       have HC:=jg (ap.ne HCA9.out HPU.out.2 HC3.out)
       have HOR:=jg (HOR9.out.grown HPU.out.2 (nS (by omega)))
       have HON:=jg HPU.out.1
       go_upto_region 8 with fail
       generalize hW9:w9.setCell ⟨B3,15,none⟩ (.int .i64 m)=W9 at *
       have HR3:=jg HON.out.row
       have HR2:=jg HOR.out.row
       have ho1:Hid ((#[.string s,.int .i64 1,.slice none 0 0,.slice none 0 0,.slice ca l.length ccap,.slice none 0 0,.slice none 0 0,.slice none 0 0,.int .i64 0,.int .i64 0,.int .i64 0,.slice none 0 0,.bool false,.slice none 0 0,.slice none 0 0,.int .i64 m]:Array Value).all (·.oneCell')=true):=by unfold Hid;simp [Value.oneCell']
       go_wp2_with (first
        | (refine wpList_load_row rfl 61 _ rfl B3 rfl 61 #[.string s,.int .i64 1,.slice none 0 0,.slice none 0 0,.slice ca l.length ccap,.slice none 0 0,.slice none 0 0,.slice none 0 0,.int .i64 0,.int .i64 0,.int .i64 0,.slice none 0 0,.bool false,.slice none 0 0,.slice none 0 0,.int .i64 m] (0,0) _ HR3.out Tryz.underlying61 rfl dE ?_)
        | (refine wpList_store_row rfl 61 _ _ rfl B2 #[.string s,.int .i64 1,.slice none 0 0,.slice none 0 0,.slice ca l.length ccap,.slice none 0 0,.slice none 0 0,.slice none 0 0,.int .i64 0,.int .i64 0,.int .i64 0,.slice none 0 0,.bool false,.slice none 0 0,.slice none 0 0,.int .i64 m] rfl rfl 61 #[.string ⟨#[]⟩,.int .i64 0,.slice none 0 0,.slice none 0 0,.slice none 0 0,.slice none 0 0,.slice none 0 0,.slice none 0 0,.int .i64 0,.int .i64 0,.int .i64 0,.slice none 0 0,.bool false,.slice none 0 0,.slice none 0 0,.int .i64 0] HR2.out dE rfl ho1.out ?_))
       have hG:=iq W9 B2 #[.string s,.int .i64 1,.slice none 0 0,.slice none 0 0,.slice ca l.length ccap,.slice none 0 0,.slice none 0 0,.slice none 0 0,.int .i64 0,.int .i64 0,.int .i64 0,.slice none 0 0,.bool false,.slice none 0 0,.slice none 0 0,.int .i64 m]
       refine bodyPost_ret (v:=.agg #[.string s,.int .i64 1,.slice none 0 0,.slice none 0 0,.slice ca l.length ccap,.slice none 0 0,.slice none 0 0,.slice none 0 0,.int .i64 0,.int .i64 0,.int .i64 0,.slice none 0 0,.bool false,.slice none 0 0,.slice none 0 0,.int .i64 m]) (results_cell_row rfl _ _ B2 61 #[.string s,.int .i64 1,.slice none 0 0,.slice none 0 0,.slice ca l.length ccap,.slice none 0 0,.slice none 0 0,.slice none 0 0,.int .i64 0,.int .i64 0,.int .i64 0,.slice none 0 0,.bool false,.slice none 0 0,.slice none 0 0,.int .i64 m] (0,0) _ rfl (setRow_heap _ _ _ _ _ _ HR2.out) Tryz.underlying61 rfl dE) rfl ?_
       rw [<-HX.out]
       exact ⟨bv (HG.out) hG (fun k hk=>by cases hk;exact HB2.out),⟨⟨none,0,none,0,ca,ccap,none,0,none,0,none,0,none,0⟩,none,0,none,0⟩,by simp [au,aB],⟨⟨fun i hi=>absurd hi (by simp [aB]),fun i hi=>absurd hi (by simp [aB]),ap.ne (HC.out) hG HC2.out,fun i hi=>absurd hi (by simp [aB]),fun i hi=>absurd hi (by simp [aB]),fun i hi=>absurd hi (by simp [aB]),fun i hi=>absurd hi (by simp [aB])⟩,fun i hi=>absurd hi (by simp [aB]),fun i hi=>absurd hi (by simp [aB])⟩,PJ.grown (HP.out) hG (fun k hk=>by cases hk;exact hg2),⟨fun b o e=>(by cases e),fun b o e=>(by cases e),HCW.out,fun b o e=>(by cases e),fun b o e=>(by cases e),fun b o e=>(by cases e),fun b o e=>(by cases e),fun b o e=>(by cases e),fun b o e=>(by cases e)⟩⟩
end Jp
namespace Jp
open Go.RowKit Oo
attribute [local go_sem] an
structure KS (c:LC) (pb ob nb:Nat) (l:List Co) (a:Option Addr) (cc:Nat) (W:World):Prop where
 p:W.cell? ⟨pb,0,none⟩=some (.pointer (some ⟨c.g,0,none⟩))
 o:W.cell? ⟨ob,0,none⟩=some (.pointer (some ⟨nb,1,none⟩))
 k:W.cell? ⟨nb,4,none⟩=some (.slice a l.length cc)
 cl:ap W a l
theorem ap.kept {w w':World} {a:Option Addr} {l:List Co} {r:Option Nat} (h:ap w a l) (hg:w.grownBy w' r) (ha:∀ b off,a=some ⟨b,off,none⟩->r≠some b):ap w' a l:=fun i hi=>by
 obtain ⟨b,off,e,h1,h2⟩:=h i hi
 exact ⟨b,off,e,hg.cell h1 (fun e2=>ha b off e e2.symm),hg.cell h2 (fun e2=>ha b off e e2.symm)⟩
theorem KS.kept {c:LC} {pb ob nb:Nat} {l:List Co} {a:Option Addr} {cc:Nat} {W W':World} {r:Option Nat} (h:KS c pb ob nb l a cc W) (hg:W.grownBy W' r) (h1:r≠some pb) (h2:r≠some ob) (h3:r≠some nb) (h4:∀ b off,a=some ⟨b,off,none⟩->r≠some b):KS c pb ob nb l a cc W':=
 ⟨hg.cell h.p (fun e=>h1 e.symm),hg.cell h.o (fun e=>h2 e.symm),hg.cell h.k (fun e=>h3 e.symm),ap.kept h.cl hg h4⟩
structure KN (c:LC) (pb ob nb:Nat) (a:Option Addr) (B:Nat):Prop where
 p:c.g<pb/\pb<B
 o:c.g<ob/\ob<B
 n:c.g<nb/\nb<B
 a:∀ b off,a=some ⟨b,off,none⟩->c.g≠b/\b<B
theorem KS.go {c:LC} {pb ob nb:Nat} {l:List Co} {a:Option Addr} {cc B:Nat} {W W':World} (h:KS c pb ob nb l a cc W) (hn:KN c pb ob nb a B) (hg:W.grownBy W' (some c.g)):KS c pb ob nb l a cc W':=
 h.kept hg (fun e=>by have:=sI e;have:=hn.p;omega) (fun e=>by have:=sI e;have:=hn.o;omega) (fun e=>by have:=sI e;have:=hn.n;omega) (fun b off e e2=>(hn.a b off e).1 (sI e2))
theorem KS.far {c:LC} {pb ob nb:Nat} {l:List Co} {a:Option Addr} {cc B:Nat} {W W':World} {r:Option Nat} (h:KS c pb ob nb l a cc W) (hn:KN c pb ob nb a B) (hg:W.grownBy W' r) (hr:∀ k,r=some k->B<=k):KS c pb ob nb l a cc W':=
 h.kept hg (fun e=>by have:=hr _ e;have:=hn.p;omega) (fun e=>by have:=hr _ e;have:=hn.o;omega) (fun e=>by have:=hr _ e;have:=hn.n;omega) (fun b off e e2=>by have:=hr _ e2;have:=(hn.a b off e).2;omega)
theorem KS.later {c:LC} {pb ob nb:Nat} {l:List Co} {a:Option Addr} {cc:Nat} {W W':World} (h:KS c pb ob nb l a cc W) (hb:Below W.heap.size W W'):KS c pb ob nb l a cc W':=⟨af hb h.p,af hb h.o,af hb h.k,h.cl.later hb⟩
theorem rO (c:LC) (pb ob nb B:Nat) (l:List Co) (a:Option Addr) (cc:Nat) (hn:KN c pb ob nb a B) (hl:l.length<=4096) (ts:List Tk) (w:World) (hk:KS c pb ob nb l a cc w) (h:PJ c w ts) :
 Calls Tryz.prog 180 #[.pointer (some ⟨pb,0,none⟩),.pointer (some ⟨ob,0,none⟩)] w (RP c w (fK l c.line.size ts) (Value.int .i64)):=by
 obtain ⟨O,HX⟩:∃ O,Hid (fK l c.line.size ts=O):=⟨_,rfl⟩
 rw [HX.out]
 have hpb:=bL hk.p
 have hob:=bL hk.o
 have hnb:=bL hk.k
 have c0:=hk.p
 have c1:=hk.o
 have c2:=hk.k
 have HC:=jg (gV c l a l.length cc ts w.drew rfl hl (hk.cl.later aA) (fun b off e=>(hn.a b off e).1) (h.later aA))
 go_in
 go_wp2_with fail
 refine eu (K:=5) (C:=fun W=>W=w.drew) 8 (by kernel_rfl) (by kernel_rfl) (by kernel_rfl) (by decide) (by kernel_rfl) (by kernel_rfl) rfl ?_
 simp only [List.take_succ_cons,List.take_zero]
 with_reducible refine wpQuiet_step ?_
 intro K hK
 go_simp
 refine hK _ ?_
 with_reducible refine wpQuiet_step ?_
 intro K hK
 go_simp
 refine hK _ ?_
 with_reducible refine wpQuiet_step ?_
 intro K hK
 go_simp
 refine hK _ ?_
 with_reducible refine wpQuiet_step ?_
 intro K hK
 go_simp
 refine hK _ ?_
 with_reducible refine wpQuiet_step ?_
 intro K hK
 go_simp
 refine hK _ ?_
 intro w' hC
 obtain rfl:=hC
 refine wpAny_ready (fuel:=1) (rs:=[5]) (by kernel_rfl) (by simp) ?_
 refine AllReady.cons rfl (fun K hK=>?_) AllReady.nil
 go_simp
 refine HC.out.mono ?_
 intro e w1 hr
 rcases hr.el with ⟨n,ho,rfl,hg⟩ | ⟨x,ts1,ho,rfl,hg,hp⟩
 ·unfold cm
  show RP c w O _ _ _
  rw [<-HX.out,ho]
  exact ⟨ai (aj aA) hg,rfl⟩
 ·have HG:=jg (ai (aj aA) hg)
  have HP:=jg hp
  have HO:=jg ho
  refine hK _ _ ?_
  refine wpAny_ready (fuel:=0) (rs:=[6]) (by kernel_rfl) (by simp) ?_
  refine AllReady.cons rfl (fun K hK=>?_) AllReady.nil
  go_simp
  refine hK _ _ ?_
  refine ⟨by kernel_rfl,?_⟩
  go_wp2_with fail
  go_ret
  rw [<-HX.out,HO.out]
  exact ⟨HG.out,rfl,HP.out⟩
theorem qm (c:LC) (pb ob nb B:Nat) (l:List Co) (a:Option Addr) (cc:Nat) (hn:KN c pb ob nb a B) (hl:l.length<=4096) (ts:List Tk) (w:World) (hk:KS c pb ob nb l a cc w) (h:PJ c w ts) :
 Calls Tryz.prog 184 #[.pointer (some ⟨pb,0,none⟩),.pointer (some ⟨ob,0,none⟩)] w (RP c w (jk l c.line.size ts) ny):=by
 obtain ⟨O,HX⟩:∃ O,Hid (jk l c.line.size ts=O):=⟨_,rfl⟩
 rw [HX.out]
 have hpb:=bL hk.p
 have hob:=bL hk.o
 have hnb:=bL hk.k
 have c0:=hk.p
 have c1:=hk.o
 have c2:=hk.k
 have hgl:=h.lt
 have HB0:Hid (Below w.heap.size w (w.alloc (.cells #[.int .i64 0,.int .i64 0] 168)).drew):=(ae _ _).drew
 have HC:=jg (yc c l a l.length cc ts (w.alloc (.cells #[.int .i64 0,.int .i64 0] 168)).drew rfl hl (hk.cl.later HB0.out) (fun b off e=>(hn.a b off e).1) (h.later HB0.out))
 have HOR:=jg ((aD.new w 168 2 #[.int .i64 0,.int .i64 0] rfl).later aA)
 go_in
 go_wp2_with fail
 refine eu (K:=5) (C:=fun W=>W=(w.alloc (.cells #[.int .i64 0,.int .i64 0] 168)).drew) 8 (by kernel_rfl) (by kernel_rfl) (by kernel_rfl) (by decide) (by kernel_rfl) (by kernel_rfl) rfl ?_
 simp only [List.take_succ_cons,List.take_zero]
 with_reducible refine wpQuiet_step ?_
 intro K hK
 go_simp
 refine hK _ ?_
 with_reducible refine wpQuiet_step ?_
 intro K hK
 go_simp
 refine hK _ ?_
 with_reducible refine wpQuiet_step ?_
 intro K hK
 go_simp
 refine hK _ ?_
 with_reducible refine wpQuiet_step ?_
 intro K hK
 go_simp
 refine hK _ ?_
 with_reducible refine wpQuiet_step ?_
 intro K hK
 go_simp
 refine hK _ ?_
 intro w' hC
 obtain rfl:=hC
 refine wpAny_ready (fuel:=1) (rs:=[5]) (by kernel_rfl) (by simp) ?_
 refine AllReady.cons rfl (fun K hK=>?_) AllReady.nil
 go_simp
 refine HC.out.mono ?_
 intro e w1 hr
 rcases hr.el with ⟨n,ho,rfl,hg⟩ | ⟨x,ts1,ho,rfl,hg,hp⟩
 ·unfold cm
  show RP c w O _ _ _
  rw [<-HX.out,ho]
  exact ⟨ai (aj HB0.out) hg,rfl⟩
 ·have HG:=jg (ai (aj HB0.out) hg)
  have HO1:=jg (HOR.out.grown hg (nS (by omega)))
  have HP:=jg hp
  have HO:=jg ho
  have hlr:=HO1.out.lt
  have q0:=HO1.out.c 0 rfl
  have qf0:=HO1.out.soft 0
  have q1:=HO1.out.c 1 rfl
  have qf1:=HO1.out.soft 1
  unfold ny
  refine hK _ _ ?_
  refine wpAny_ready (fuel:=0) (rs:=[6]) (by kernel_rfl) (by simp) ?_
  refine AllReady.cons rfl (fun K hK=>?_) AllReady.nil
  go_simp
  refine hK _ _ ?_
  refine ⟨by kernel_rfl,?_⟩
  go_wp2_with fail
  refine bodyPost_ret (v:=ny x) (by simp [results,Tryz.results184,go_sem,q0,q1,hlr];try rfl) rfl ?_
  rw [<-HX.out,HO.out]
  exact ⟨bv (bv (HG.out) (aK _ _ _) (fun k hk=>by cases hk;exact lR)) (aK _ _ _) (fun k hk=>by cases hk;exact lR),rfl,PJ.grown (PJ.grown (HP.out) (aK _ _ _) (fun k hk=>by cases hk;exact hgl)) (aK _ _ _) (fun k hk=>by cases hk;exact hgl)⟩
end Jp
end Go.Proofs.YtiiliobffnhpmaaGreatDoor
