import Derived.Test.YtiiliobffnhpmaaGreatDoorGau
set_option linter.all false
set_option maxRecDepth 100000
set_option maxHeartbeats 4000000
namespace Go.Proofs.YtiiliobffnhpmaaGreatDoor
namespace Jp
open Go.RowKit Oo
attribute [local go_sem] an
def Di (a:ByteArray) (k:Int) (a':ByteArray) (k':Int):Bool:=a.toList==a'.toList&&k==k'
theorem CN (a:ByteArray) (k:Int) (a':ByteArray) (k':Int) (w:World):(Op.equalIn 10000 95 (.agg #[.string a,.int .i64 k]) (.agg #[.string a',.int .i64 k'])).run Tryz.prog w=.ok (Di a k a' k') w:=by
 have u24:=Tryz.underlying93
 have u9:=Tryz.underlying9
 have a24:=Tryz.isAgg93
 have z24:=Tryz.sizeOf93
 have a9:=Tryz.isAgg9
 have z9:=Tryz.sizeOf9
 have hS:Tryz.prog.underlying 95=some (.struct (Tryz.prog.fieldsOf 95)):=by kernel_rfl
 rw [show (10000:Nat)=9999+1 from rfl,run_equalIn_agg w 9999 95 _ _ hS (by kernel_rfl)]
 simp only [Program.fieldsOf,Tryz.underlying95]
 go_simp
 unfold Di
 by_cases h1:a.toList=a'.toList<;>by_cases h2:k=k'<;>simp [h1,h2]
theorem DR (a:ByteArray) (k:Int) (a':ByteArray) (k':Int) (w:World):(binOp .neq 95 (.agg #[.string a,.int .i64 k]) (.agg #[.string a',.int .i64 k'])).run Tryz.prog w=.ok (.bool (!Di a k a' k')) w:=by
 rw [run_neq_struct,CN];rfl
theorem Ad (x y:Co):Di x.nm x.k y.nm y.k=true↔x=y:=by
 unfold Di
 rw [Bool.and_eq_true]
 constructor
 ·rintro ⟨h1,h2⟩
  have a:x.nm=y.nm:=by
   by_cases h:x.nm=y.nm
   ·exact h
   ·rw [Cs h] at h1;cases h1
  have b:x.k=y.k:=by simpa using h2
  cases x;cases y;cases a;cases b;rfl
 ·rintro rfl
  exact ⟨BO rfl,by simp⟩
open Classical in
noncomputable def zN (a b:List Co):Bool:=decide (a=b)
open Classical in
theorem Dn {a b:List Co} (h:a=b):zN a b=true:=decide_eq_true h
open Classical in
theorem BB {a b:List Co} (h:¬ a=b):zN a b=false:=decide_eq_false h
theorem EJ {B n:Nat} {a w:World} (h:Below B a w):Below B a (w.drewN n):=⟨h.os,h.tape,h.output,h.size,h.block⟩
theorem sV (a b:List Co) (aa ba:Option Addr) (ac bc n m:Nat) (w:World) (hn:n=a.length) (hm:m=b.length) (ha:ap w aa a) (hb:ap w ba b) (hl:a.length<=4096) (hl2:b.length<=4096) :
 Calls Tryz.prog 186 #[.slice aa n ac,.slice ba m bc] w fun e w'=>e=.returned (.bool (zN a b))/\Below w.heap.size w w':=by
 subst hn hm
 have HA:=jg ha
 have HB:=jg hb
 have hnc:=DR
 by_cases hne:a.length=b.length
 ·have HL:=jg hne
  obtain ⟨N,hN⟩:∃ N,N=a.length:=⟨_,rfl⟩
  have HN:Hid (N=a.length/\N=b.length):=⟨hN,hN.trans hne⟩
  rw [<-HN.out.1,<-HN.out.2]
  have hNl:N<=4096:=by omega
  go_in
  go_wp2
  go_loopw [13] (fun i w'=>∃ j:Nat,j<=N/\i=.int .i64 j/\Below w.heap.size w w'/\a.take j=b.take j) (fun i _=>N-(intOf i).toNat)
  case atStart=>exact ⟨0,Nat.zero_le _,rfl,bR,rfl⟩
  case round=>
   obtain ⟨j,hj,rfl,hbr,hno⟩:=hrel
   have HBR:=jg hbr
   have HNO:=jg hno
   by_cases hlt:j<N
   ·have hji:(j:Int)<(N:Int):=by omega
    have hja:j<a.length:=by have:=HN.out;omega
    have hjb:j<b.length:=by have:=HN.out;omega
    obtain ⟨b1,o1,e1,d0,d1⟩:=(HA.out.later HBR.out) j hja
    obtain ⟨b2,o2,e2,d2,d3⟩:=(HB.out.later HBR.out) j hjb
    subst e1 e2
    have HT:Hid (a.take (j+1)=b.take (j+1)↔a[j]=b[j]):=by
     unfold Hid
     rw [List.take_succ_eq_append_getElem hja,List.take_succ_eq_append_getElem hjb,HNO.out]
     constructor
     ·intro h
      have:=List.append_cancel_left h
      simpa using this
     ·intro h;rw [h]
    have HEQ:=jg (Ad a[j] b[j])
    have HNE:Hid (a[j]≠b[j]->a≠b):=fun h e=>h (by subst e;rfl)
    generalize a[j]=X at *
    generalize b[j]=Y at *
    cases hq:Di X.nm X.k Y.nm Y.k with
    | true=>
     have HQ:=jg (HT.out.2 (HEQ.out.1 hq))
     go_wp2_with fail
     go_quiet (fail)
     go_wp2_with fail
     exact ⟨⟨j+1,by omega,by go_num,(by first | exact HBR.out | exact HBR.out.drew | exact EJ HBR.out),HQ.out⟩,by simp [intOf];omega⟩
    | false=>
     have HQ:=jg (BB (HNE.out (fun e=>by rw [HEQ.out.2 e] at hq;cases hq)))
     go_wp2_with fail
     go_quiet (fail)
     go_wp2_with fail
     go_ret
     rw [HQ.out]
     exact ⟨rfl,(by first | exact HBR.out | exact HBR.out.drew | exact EJ HBR.out)⟩
   ·have hji:¬ (j:Int)<(N:Int):=by omega
    have HQ:Hid (zN a b=true):=Dn (by have:=HNO.out;rwa [List.take_of_length_le (by have:=HN.out;omega),List.take_of_length_le (by have:=HN.out;omega)] at this)
    go_wp2_with fail
    go_ret
    rw [HQ.out]
    exact ⟨rfl,HBR.out⟩
 ·have HQ:Hid (zN a b=false):=BB (fun e=>hne (by rw [e]))
  have h1:((a.length:Int) != (b.length:Int))=true:=by
   rw [bne,Bool.not_eq_true',beq_eq_false_iff_ne];omega
  have h2:((a.length:Int)==(b.length:Int))=false:=by rw [beq_eq_false_iff_ne];omega
  go_in
  go_wp2
  go_ret
  rw [HQ.out]
  exact ⟨rfl,bR⟩
end Jp
namespace Jp
open Go.RowKit Oo
attribute [local go_sem] an
def em (nodes:List aJ) (E:Nat) (ts:List Tk):Except Nat ((Int × Unit) × List Tk):=bnd (lM nodes E ts) fun i ts=>.ok ((i,()),ts)
theorem Dd {nodes:List aJ} {E:Nat} {ts ts':List Tk} {x:Int} (h:lM nodes E ts=.ok (x,ts')):ts'.length<=ts.length:=by
 unfold lM at h
 split at h
 ·cases h
 ·rename_i s ts1 hn
  split at h
  ·cases h
  ·split at h
   ·cases h
   ·cases h;exact fz hn
theorem ol {nodes:List aJ} {E:Nat} {ts ts':List Tk} {x:Int × Unit} (h:em nodes E ts=.ok (x,ts')):ts'.length<=ts.length:=
 cd h (fun y ts1 h=>Dd h) (fun y ts1 ts2 h=>by cases h;exact lR)
theorem nR {α:Type} {P:α->Prop} {E:Nat} {f:List Tk->Except Nat (α × List Tk)} {sep:ByteArray} (hf:∀ ts x ts',f ts=.ok (x,ts')->P x):∀ (n:Nat) (acc:List α) (ts:List Tk) (l:List α) (ts':List Tk),(∀ x∈acc,P x)->eD E f sep n acc ts=.ok (l,ts')->(∀ x∈l,P x)/\acc.length<=l.length
 | 0,acc,ts,l,ts',ha,h=>by cases h;exact ⟨ha,lR⟩
 | n+1,acc,ts,l,ts',ha,h=>by
  rw [eD] at h
  split at h
  ·cases hq:f ts.tail with
   | error e=>rw [hq] at h;cases h
   | ok p=>
    obtain ⟨x,ts1⟩:=p
    rw [hq] at h
    have:=nR hf n (acc++[x]) ts1 l ts' (fun y hy=>by
     rcases List.mem_append.1 hy with hy | hy
     ·exact ha y hy
     ·simp at hy;subst hy;exact hf _ _ _ hq) h
    exact ⟨this.1,by have:=this.2;simp at this;omega⟩
  ·cases h;exact ⟨ha,lR⟩
theorem nW {α:Type} {P:α->Prop} {E:Nat} {f:List Tk->Except Nat (α × List Tk)} {sep:ByteArray} (hf:∀ ts x ts',f ts=.ok (x,ts')->P x) {ts ts':List Tk} {l:List α} (h:bg E f sep ts=.ok (l,ts')):(∀ x∈l,P x)/\0<l.length:=by
 unfold bg at h
 cases hq:f ts with
 | error e=>rw [hq] at h;cases h
 | ok p=>
  obtain ⟨x,ts1⟩:=p
  rw [hq] at h
  have:=nR hf _ [x] ts1 l ts' (fun y hy=>by simp at hy;subst hy;exact hf _ _ _ hq) h
  exact ⟨this.1,by have:=this.2;simp at this;omega⟩
def SU (c:LC) (ts:List Tk) (acc:List Unit) (r:Option Nat) (W:World):Prop:=PJ c W ts/\r=none
theorem SU.side (c:LC):sU c [] (c.g+1) (SU c) where
 pj _ _ _ _ h:=h.1
 go _ _ _ _ _ _ h hg hp _:=⟨hp,h.2⟩
 keep _ _ _ _ _ k h hg hk:=⟨h.1.grown hg (fun j hj=>by have:=(hk j hj).1;omega),h.2⟩
 lt _ _ _ _ h:=⟨h.1.lt,fun k hk=>by rw [h.2] at hk;cases hk⟩
 x0 i hi:=by cases hi
theorem BW (c:LC) (nodes:List aJ) (hl:c.nN=nodes.length) (hl2:nodes.length<=4096) (hN:eG c.w0 c.aN nodes) (ts:List Tk) (acc:List Unit) (r:Option Nat) (W:World) (h:SU c ts acc r W) :
 Calls Tryz.prog 136 (#[.pointer (some ⟨c.g,0,none⟩)]++#[]) W (kE c [] (SU c) (Value.int .i64) acc r W (em nodes c.line.size ts)):=by
 simp only [Array.append_empty]
 refine (kN c nodes hl hl2 hN ts W h.1).mono ?_
 intro e w' hr
 rcases hr.el with ⟨n,ho,rfl,hg⟩ | ⟨x,ts1,ho,rfl,hg,hp⟩
 ·refine ⟨Fr.of hg (fun k hk=>by cases hk;simp),?_⟩
  unfold em;rw [ho];rfl
 ·refine ⟨Fr.of hg (fun k hk=>by cases hk;simp),?_⟩
  unfold em;rw [ho]
  exact ⟨rfl,r,⟨hp,h.2⟩,.inl rfl⟩
theorem wm (a:Array Value) (W:World):(callFunc 136 a).run Tryz.prog W=.ok (.enter 136 a) W:=eP Tryz.func136 (by kernel_rfl) (by rfl) a W
noncomputable def jD (nodes:List aJ) (cols:List Co) (first:Int) (E:Nat) (ts:List Tk):Except Nat ((eJ × List Int) × List Tk):=
 bnd (bg E (em nodes E) dw ts) fun l ts=>if (first::l.map (·.1)).all (fun j=>zN (ak nodes j) cols)=true then .ok (({ aB with k:=6,c:=cols },first::l.map (·.1)),ts) else .error 3
theorem BK {W:World} {B T size n:Nat} {v:Value} {xs:List Value} (h:W.ownsRow B T size v n xs) (hn:0<n):∃ b5 c5,v=.slice (some ⟨b5,0,none⟩) n c5:=by
 rcases h.2 with ⟨_,h2⟩ | ⟨b,cap,cur,h1,_⟩
 ·omega
 ·exact ⟨b,cap,h1⟩
theorem Bq {W:World} {B b c:Nat} {l:List (Int × Unit)} (h:W.ownsRow B 3 1 (.slice (some ⟨b,0,none⟩) l.length c) l.length (l.flatMap fun p=>aT p.1)):∀ j u,(l.flatMap fun p=>aT p.1)[j]?=some u->W.cell? ((⟨b,0,none⟩:Addr).add j)=some u:=fun j u hj=>by
 rw [WideShapes.add_plain,Nat.zero_add]
 have hlt:=(List.getElem?_eq_some_iff.1 hj).1
 rw [mN] at hlt
 rw [World.ownsRow.cellAt h j (by omega)]
 exact hj
theorem D8 (l:List (Int × Unit)):∀ u∈(l.flatMap fun p=>aT p.1),u.oneCell'=true:=by
 intro u hu
 obtain ⟨p,_,hu⟩:=List.mem_flatMap.1 hu
 exact uO p.1 u hu
theorem nD {α:Type} {E:Nat} {f:List Tk->Except Nat (α × List Tk)} {sep:ByteArray}:∀ (n:Nat) (acc:List α) (ts:List Tk) (l:List α) (ts':List Tk),eD E f sep n acc ts=.ok (l,ts')->l.length<=acc.length+n
 | 0,acc,ts,l,ts',h=>by cases h;exact lR
 | n+1,acc,ts,l,ts',h=>by
  rw [eD] at h
  split at h
  ·cases hq:f ts.tail with
   | error e=>rw [hq] at h;cases h
   | ok p=>
    rw [hq] at h
    have:=nD n _ _ _ _ h
    simp at this;omega
  ·cases h;omega
theorem wB (c:LC) (nodes:List aJ) (hnl:c.nN=nodes.length) (hnl2:nodes.length<=4096) (hnd:eG c.w0 c.aN nodes) (hnc:∀ n∈nodes,n.cols.length<=4096) (nb:Nat) (nm:ByteArray) (cols:List Co) (f:Nat) (hf:f<nodes.length) (ca:Option Addr) (cc ib:Nat) (hcl:cols.length<=4096) (hgn:c.g+1<nb) (ts:List Tk) (w:World) (h:PJ c w ts) (hn:NB c w nb ⟨nm,{ aB with k:=0,c:=cols },[(f:Int)],[],0⟩ ⟨⟨none,0,none,0,ca,cc,none,0,none,0,none,0,none,0⟩,some ⟨ib,0,none⟩,1,none,0⟩) (hir:w.ownsRow 0 3 1 (.slice (some ⟨ib,0,none⟩) 1 1) 1 [.int .i64 (f:Int)]) (hci:∀ b off,ca=some ⟨b,off,none⟩->b≠ib) :
 Calls Tryz.prog 142 #[.pointer (some ⟨c.g,0,none⟩),.pointer (some ⟨nb,0,none⟩)] w (wQ c nb ib nm w (jD nodes cols (f:Int) c.line.size ts)):=by
 obtain ⟨i0,hi0,hz0,hz1,hz2⟩:=info_parts xC
 obtain ⟨O,HX⟩:∃ O,Hid (jD nodes cols (f:Int) c.line.size ts=O):=⟨_,rfl⟩
 rw [HX.out]
 unfold jD at HX
 have hgl:=h.lt
 have hmf:=ff
 have hnl0:=hn.own.lt
 have hib:=hn.far.i ib 0 rfl
 have HCI:=jg hci
 have HPU:=jg (hn.own.put 1 (.int .i64 6))
 have HN1:Hid (NB c (w.setCell ⟨nb,1,none⟩ (.int .i64 6)) nb ⟨nm,{ aB with k:=6,c:=cols },[(f:Int)],[],0⟩ ⟨⟨none,0,none,0,ca,cc,none,0,none,0,none,0,none,0⟩,some ⟨ib,0,none⟩,1,none,0⟩):=⟨HPU.out.1,bw.re (hn.own2 HPU.out.2) ⟨rfl,rfl⟩ ⟨rfl,rfl⟩ ⟨rfl,rfl⟩ ⟨rfl,rfl⟩ ⟨rfl,rfl⟩ ⟨rfl,rfl⟩ ⟨rfl,rfl⟩ ⟨rfl,rfl⟩ ⟨rfl,rfl⟩,hn.far.up (fun b hb=>⟨hb.1,hb.2.1,lL hb.2.2 HPU.out.2.size⟩)⟩
 have HF1:Hid (Fr w (w.setCell ⟨nb,1,none⟩ (.int .i64 6)) [c.g,nb,ib]):=Fr.of HPU.out.2 (fun k hk=>by cases hk;simp)
 have HP1:=jg (h.grown HPU.out.2 (fun k hk=>by cases hk;omega))
 have HIR1:=jg (aI hir HPU.out.2 (fun g hg' e=>by have h1:ib=g:=sI hg';have h2:=sI e;omega))
 have k1:=hn.own.c 1 rfl
 have kf1:=hn.own.soft 1
 have hlts:=h.len
 have HND:=jg hnd
 have HNL:=jg hnl
 have HNC:=jg hnc
 have HLSW:Hid (∀ W,PJ c W ts->Calls Tryz.prog 179 #[.pointer (some ⟨c.g,0,none⟩),.string dw,.func (.func 136) #[.pointer (some ⟨c.g,0,none⟩)] #[]] W (BI c [] (SU c) 3 1 aT [] none W (bg c.line.size (em nodes c.line.size) dw ts))):=fun W hW=>gp .i c [] (c.g+1) 136 #[.pointer (some ⟨c.g,0,none⟩)] #[] (SU c) (SU.side c) (em nodes c.line.size) (fun ts x ts' h=>ol h) dw mL wm (fun ts acc r W h=>BW c nodes hnl hnl2 hnd ts acc r W h) ts [] none W ⟨hW,rfl⟩
 have HALL:Hid (∀ ts x ts1,em nodes c.line.size ts=.ok (x,ts1)->∃ i:Nat,x.1=(i:Int)/\i<nodes.length):=fun ts x ts1 h=>by
  unfold em at h
  cases hq:lM nodes c.line.size ts with
  | error e=>rw [hq] at h;cases h
  | ok p=>obtain ⟨y,ts2⟩:=p;rw [hq] at h;cases h;exact tC hq
 have HLEN:Hid (∀ l ts2,bg c.line.size (em nodes c.line.size) dw ts=.ok (l,ts2)->l.length<=4096):=fun l ts2 h=>by
  unfold bg at h
  cases hq:em nodes c.line.size ts with
  | error e=>rw [hq] at h;cases h
  | ok p=>
   rw [hq] at h
   have h1:=nD _ _ _ _ _ h
   have h2:=ol hq
   simp at h1;omega
 clear h hn hir hci hnd hnl hnc
 go_in
 go_upto_region 1 with fail
 generalize hW1:w.setCell ⟨nb,1,none⟩ (.int .i64 6)=w1 at *
 have hsw:w.heap.size<=w1.heap.size:=by rw [<-hW1];simp [World.setCell]
 clear hW1 HPU k1 kf1
 have k13:w1.cell? ⟨nb,13,none⟩=some (.slice (some ⟨ib,0,none⟩) 1 1):=HN1.out.own.c 13 rfl
 have kf13:=HN1.out.own.soft 13
 have ln1:=HN1.out.own.lt
 have HLS:=jg (HLSW.out w1.drew (HP1.out.later aA))
 unfold dw at HLS
 have FBAD:Hid (∀ n w2 (e:Ending),bg c.line.size (em nodes c.line.size) dw ts=.error n->w1.grownBy w2 (some c.g)->e=cm n->wQ c nb ib nm w O e w2):=fun n w2 e ho hg he=>by
  have hx:=HX.out
  rw [ho] at hx
  rw [<-hx,he]
  exact ⟨iH HF1.out hg (fun k hk=>by cases hk;simp),rfl⟩
 go_wp2_with fail
 go_cut [] from 10 to 21 (fun wx=>∃ (l:List (Int × Unit)) (ts2:List Tk) (w2 w5:World) (gg cap:Nat),bg c.line.size (em nodes c.line.size) dw ts=.ok (l,ts2)/\PJ c w2 ts2/\w1.grownBy w2 (some c.g)/\(∀ x∈l,∃ i:Nat,x.1=(i:Int)/\i<nodes.length)/\l.length<=4096/\w5.ownsRow 0 3 1 (.slice (some ⟨gg,0,none⟩) (1+l.length) cap) (1+l.length) ([.int .i64 (f:Int)]++l.flatMap fun p=>aT p.1)/\w2.grownBy w5 (some ib)/\(some ib=some gg\/gg=w2.heap.size)/\aD w5 nb 61 16 (au ⟨nm,{ aB with k:=6,c:=cols },[(f:Int)],[],0⟩ ⟨⟨none,0,none,0,ca,cc,none,0,none,0,none,0,none,0⟩,some ⟨ib,0,none⟩,1,none,0⟩)/\wx=w5.setCell ⟨nb,13,none⟩ (.slice (some ⟨gg,0,none⟩) (1+l.length) cap))
 case first=>
  refine Go.wp_region_held (S:=(fun W=>True)) (by kernel_rfl) ?_
  change Go.wpAnyH _ _ _ _ _ _ _ _ (World.drew _)
  refine tk 0 (.pointer (some ⟨nb,0,none⟩)) rfl (by kernel_rfl) (by rfl) (fun _ _ _ h=>h) trivial (fun W hW=>?_) ?_
  ·obtain-:= hW;go_simp
  refine tk 1 (.pointer (some ⟨nb,0,none⟩)) rfl (by kernel_rfl) (by rfl) (fun _ _ _ h=>h) trivial (fun W hW=>?_) ?_
  ·obtain-:= hW;go_simp
  refine tk 2 (.pointer (some ⟨nb,0,none⟩)) rfl (by kernel_rfl) (by rfl) (fun _ _ _ h=>h) trivial (fun W hW=>?_) ?_
  ·obtain-:= hW;go_simp
  refine tk 3 (.pointer (some ⟨nb,13,none⟩)) rfl (by kernel_rfl) (by rfl) (fun _ _ _ h=>h) trivial (fun W hW=>?_) ?_
  ·obtain-:= hW;go_simp
  refine tk 5 (.pointer (some ⟨c.g,0,none⟩)) rfl (by kernel_rfl) (by rfl) (fun _ _ _ h=>h) trivial (fun W hW=>?_) ?_
  ·obtain-:= hW;go_simp
  refine tk 6 (.pointer (some ⟨c.g,0,none⟩)) rfl (by kernel_rfl) (by rfl) (fun _ _ _ h=>h) trivial (fun W hW=>?_) ?_
  ·obtain-:= hW;go_simp
  refine tk 7 (.func (.func 136) #[.pointer (some ⟨c.g,0,none⟩)] #[]) rfl (by kernel_rfl) (by rfl) (fun _ _ _ h=>h) trivial (fun W hW=>?_) ?_
  ·obtain-:= hW;go_simp
  refine Go.wpAnyH_all (rs:=[4,8]) (by kernel_rfl) (by simp) (fun j hj=>?_)
  simp only [List.mem_cons,List.not_mem_nil,or_false] at hj
  rcases hj with rfl | rfl
  ·refine wpOp_step rfl (fun K hK=>?_)
   go_simp
   refine hK _ _ ⟨trivial,?_⟩
   clear hK K
   refine bH 8 (by kernel_rfl) rfl (fun K hK=>?_)
   go_simp
   refine HLS.out.mono ?_
   intro e w2 hr
   obtain ⟨hfr,hr⟩:=hr
   rw [show (⟨#[44]⟩:ByteArray)=dw from rfl] at hr
   have hg:=ai (aj aA) (Fr.g1 hfr)
   rcases ho:bg c.line.size (em nodes c.line.size) dw ts with n | ⟨l,ts2⟩
   ·rw [ho] at hr;simp only at hr;subst hr;unfold cm;show wQ _ _ _ _ _ O _ _;exact FBAD.out n w2 _ ho hg rfl
   rw [ho] at hr
   obtain ⟨v5,r5,he,how,hss,-⟩:=hr
   subst he
   have hpos:=(nW (P:=fun x=>∃ i:Nat,x.1=(i:Int)/\i<nodes.length) (fun ts x ts1 h=>HALL.out ts x ts1 h) ho)
   have hl3:=HLEN.out l ts2 ho
   obtain ⟨b5,c5,hv5⟩:=BK how hpos.2
   subst hv5
   have HO2:=jg ho
   have HG2:=jg hg
   have HOW:=jg how
   have HP2:=jg hss.1
   have HPOS:=jg hpos
   have HL3:=jg hl3
   have o2:=HN1.out.own.grown hg (nS (by omega))
   have k132:w2.cell? ⟨nb,13,none⟩=some (.slice (some ⟨ib,0,none⟩) 1 1):=o2.c 13 rfl
   have kf132:=o2.soft 13
   have ln2:=o2.lt
   have HIR2:=jg (aI HIR1.out hg (fun g hg' e=>by have h1:ib=g:=sI hg';have h2:=sI e;omega))
   have hw12:=hg.size
   have HON2:=jg o2
   have hm0:=hpos.2
   clear hfr ho how hss hpos hl3 hg o2
   refine hK _ _ ⟨trivial,?_⟩
   clear hK K
   refine bH 9 (by kernel_rfl) rfl (fun K hK=>?_)
   refine step_append_lies _ (by rfl) _ _ _ (by rfl) 0 3 i0 _ 1 8 Tryz.underlying31 hi0 hz0 hz1 hz2 rfl (by decide) (.slice (some ⟨ib,0,none⟩) 1 1) 1 [.int .i64 (f:Int)] (by rfl) HIR2.out ⟨b5,0,none⟩ l.length c5 (l.flatMap fun p=>aT p.1) (by rfl) (by rw [mN]) (Bq HOW.out) (D8 l) hm0 (by unfold maxLen;have:=HL3.out;omega) (by have:=HL3.out;omega) (by omega) w2.heap.size rfl ?_
   intro gg cap w5 hown hgrow hgg hlt
   have o5:=HON2.out.grown hgrow (fun e=>by have h2:ib=nb:=(sI e).symm;omega)
   have k135:w5.cell? ⟨nb,13,none⟩=some (.slice (some ⟨ib,0,none⟩) 1 1):=o5.c 13 rfl
   have kf135:=o5.soft 13
   have ln5:=o5.lt
   have HOWN:=jg hown
   have HGROW:=jg hgrow
   have HGG:=jg hgg
   have HO5:=jg o5
   clear hown hgrow hgg o5
   refine hK _ _ ⟨trivial,?_⟩
   clear hK K
   refine tk 10 (.pointer (some ⟨nb,0,none⟩)) rfl (by kernel_rfl) (by rfl) (fun _ _ _ h=>h) trivial (fun W hW=>?_) ?_
   ·obtain-:= hW;go_simp
   refine tk 11 (.pointer (some ⟨nb,13,none⟩)) rfl (by kernel_rfl) (by rfl) (fun _ _ _ h=>h) trivial (fun W hW=>?_) ?_
   ·obtain-:= hW;go_simp
   refine bH 12 (by kernel_rfl) rfl (fun K hK=>?_)
   go_simp
   refine hK _ _ ⟨trivial,?_⟩
   clear hK K
   refine Go.wpAnyH_done (by kernel_rfl) ?_ _
   go_wp2_with fail
   go_meet
   exact ⟨l,ts2,w2,w5,gg,cap,HO2.out,HP2.out,HG2.out,HPOS.out.1,HL3.out,HOWN.out,HGROW.out,HGG.out,HO5.out,rfl⟩
  ·refine wpOp_step rfl (fun K hK=>?_)
   go_simp
   refine HLS.out.mono ?_
   intro e w2 hr
   obtain ⟨hfr,hr⟩:=hr
   rw [show (⟨#[44]⟩:ByteArray)=dw from rfl] at hr
   have hg:=ai (aj aA) (Fr.g1 hfr)
   rcases ho:bg c.line.size (em nodes c.line.size) dw ts with n | ⟨l,ts2⟩
   ·rw [ho] at hr;simp only at hr;subst hr;unfold cm;show wQ _ _ _ _ _ O _ _;exact FBAD.out n w2 _ ho hg rfl
   rw [ho] at hr
   obtain ⟨v5,r5,he,how,hss,-⟩:=hr
   subst he
   have hpos:=(nW (P:=fun x=>∃ i:Nat,x.1=(i:Int)/\i<nodes.length) (fun ts x ts1 h=>HALL.out ts x ts1 h) ho)
   have hl3:=HLEN.out l ts2 ho
   obtain ⟨b5,c5,hv5⟩:=BK how hpos.2
   subst hv5
   have HO2:=jg ho
   have HG2:=jg hg
   have HOW:=jg how
   have HP2:=jg hss.1
   have HPOS:=jg hpos
   have HL3:=jg hl3
   have o2:=HN1.out.own.grown hg (nS (by omega))
   have k132:w2.cell? ⟨nb,13,none⟩=some (.slice (some ⟨ib,0,none⟩) 1 1):=o2.c 13 rfl
   have kf132:=o2.soft 13
   have ln2:=o2.lt
   have HIR2:=jg (aI HIR1.out hg (fun g hg' e=>by have h1:ib=g:=sI hg';have h2:=sI e;omega))
   have hw12:=hg.size
   have HON2:=jg o2
   have hm0:=hpos.2
   clear hfr ho how hss hpos hl3 hg o2
   refine hK _ _ ⟨trivial,?_⟩
   clear hK K
   refine bH 4 (by kernel_rfl) rfl (fun K hK=>?_)
   go_simp
   refine hK _ _ ⟨trivial,?_⟩
   clear hK K
   refine bH 9 (by kernel_rfl) rfl (fun K hK=>?_)
   refine step_append_lies _ (by rfl) _ _ _ (by rfl) 0 3 i0 _ 1 8 Tryz.underlying31 hi0 hz0 hz1 hz2 rfl (by decide) (.slice (some ⟨ib,0,none⟩) 1 1) 1 [.int .i64 (f:Int)] (by rfl) HIR2.out ⟨b5,0,none⟩ l.length c5 (l.flatMap fun p=>aT p.1) (by rfl) (by rw [mN]) (Bq HOW.out) (D8 l) hm0 (by unfold maxLen;have:=HL3.out;omega) (by have:=HL3.out;omega) (by omega) w2.heap.size rfl ?_
   intro gg cap w5 hown hgrow hgg hlt
   have o5:=HON2.out.grown hgrow (fun e=>by have h2:ib=nb:=(sI e).symm;omega)
   have k135:w5.cell? ⟨nb,13,none⟩=some (.slice (some ⟨ib,0,none⟩) 1 1):=o5.c 13 rfl
   have kf135:=o5.soft 13
   have ln5:=o5.lt
   have HOWN:=jg hown
   have HGROW:=jg hgrow
   have HGG:=jg hgg
   have HO5:=jg o5
   clear hown hgrow hgg o5
   refine hK _ _ ⟨trivial,?_⟩
   clear hK K
   refine tk 10 (.pointer (some ⟨nb,0,none⟩)) rfl (by kernel_rfl) (by rfl) (fun _ _ _ h=>h) trivial (fun W hW=>?_) ?_
   ·obtain-:= hW;go_simp
   refine tk 11 (.pointer (some ⟨nb,13,none⟩)) rfl (by kernel_rfl) (by rfl) (fun _ _ _ h=>h) trivial (fun W hW=>?_) ?_
   ·obtain-:= hW;go_simp
   refine bH 12 (by kernel_rfl) rfl (fun K hK=>?_)
   go_simp
   refine hK _ _ ⟨trivial,?_⟩
   clear hK K
   refine Go.wpAnyH_done (by kernel_rfl) ?_ _
   go_wp2_with fail
   go_meet
   exact ⟨l,ts2,w2,w5,gg,cap,HO2.out,HP2.out,HG2.out,HPOS.out.1,HL3.out,HOWN.out,HGROW.out,HGG.out,HO5.out,rfl⟩
 case rest=>
  obtain ⟨l,ts2,w2,w5,gg,cap,ho,hp2,hg2,hall,hl3,hown,hgrow,hgg,ho5,hwx⟩:=hcut
  rw [ho] at HX
  simp only [bnd] at HX
  have hput:=ho5.put 13 (.slice (some ⟨gg,0,none⟩) (1+l.length) cap)
  rw [<-hwx] at hput
  obtain ⟨ho6,hg6⟩:=hput
  have hs2:=hg2.size
  have hs5:=hgrow.size
  have hs6:=hg6.size
  have hggr:nb<=gg+1/\gg≠nb/\gg<wc.heap.size:=by
   have h5:=(World.ownsRow.lt hown gg rfl).2
   rcases hgg with h | h
   ·have:=sI h;omega
   ·omega
  obtain ⟨ax,cx,hax,hin5,-⟩:=fU (l:=((f:Int)::l.map (·.1))) (n:=1+l.length) (by simp;omega) (by simpa [aT,List.flatMap_map] using hown)
  have hax2:ax=some ⟨gg,0,none⟩:=by injection hax with h1 h2 h3;exact h1.symm
  subst hax2
  have hin6:=aG.kept hin5 hg6 (fun b off e e2=>by cases e;exact hggr.2.1 (sI e2).symm)
  have hcl6:ap wc ca cols:=by
   have f1:=HN1.out.far
   have a1:=ap.kept HN1.out.at_.o.c hg2 (fun b off e e2=>by have:=(f1.c b off e).1;have:=sI e2;omega)
   exact ap.kept (ap.kept a1 hgrow (fun b off e e2=>HCI.out b off e (sI e2).symm)) hg6 (fun b off e e2=>(f1.c b off e).2.1 (sI e2).symm)
  have HN6:Hid (NB c wc nb ⟨nm,{ aB with k:=6,c:=cols },((f:Int)::l.map (·.1)),[],0⟩ ⟨⟨none,0,none,0,ca,cc,none,0,none,0,none,0,none,0⟩,some ⟨gg,0,none⟩,cap,none,0⟩):=by
   have f1:=HN1.out.far
   refine ⟨by rw [show au ⟨nm,{ aB with k:=6,c:=cols },((f:Int)::l.map (·.1)),[],0⟩ ⟨⟨none,0,none,0,ca,cc,none,0,none,0,none,0,none,0⟩,some ⟨gg,0,none⟩,cap,none,0⟩=(au ⟨nm,{ aB with k:=6,c:=cols },[(f:Int)],[],0⟩ ⟨⟨none,0,none,0,ca,cc,none,0,none,0,none,0,none,0⟩,some ⟨ib,0,none⟩,1,none,0⟩).set 13 (.slice (some ⟨gg,0,none⟩) (1+l.length) cap) from by simp [au,aB];omega];exact ho6,⟨⟨fun i hi=>absurd hi (by simp [aB]),fun i hi=>absurd hi (by simp [aB]),hcl6,fun i hi=>absurd hi (by simp [aB]),fun i hi=>absurd hi (by simp [aB]),fun i hi=>absurd hi (by simp [aB]),fun i hi=>absurd hi (by simp [aB])⟩,hin6,fun i hi=>absurd hi (by simp)⟩,?_⟩
   exact ⟨fun b o e=>(by cases e),fun b o e=>(by cases e),fun b o e=>⟨(f1.c b o e).1,(f1.c b o e).2.1,(by have:=(f1.c b o e).2.2;omega)⟩,fun b o e=>(by cases e),fun b o e=>(by cases e),fun b o e=>(by cases e),fun b o e=>(by cases e),fun b o e=>(by cases e;exact hggr),fun b o e=>(by cases e)⟩
  have HP6:=jg ((hp2.grown hgrow (fun k hk=>by cases hk;omega)).grown hg6 (fun k hk=>by cases hk;omega))
  have HF6:=jg (iH (iH (iH HF1.out hg2 (fun k hk=>by cases hk;simp)) hgrow (fun k hk=>by cases hk;simp)) hg6 (fun k hk=>by cases hk;simp))
  have HALL6:Hid (∀ x∈((f:Int)::l.map (·.1)),∃ i:Nat,x=(i:Int)/\i<nodes.length):=fun x hx=>by
   rcases List.mem_cons.1 hx with rfl | hx
   ·exact ⟨f,rfl,hf⟩
   ·obtain ⟨p,hp,rfl⟩:=List.mem_map.1 hx
    exact hall p hp
  have HIN6:=jg hin6
  have HCL6:=jg hcl6
  have HCAP:Hid (((f:Int)::l.map (·.1)).length<=cap):=by
   rcases hown.2 with ⟨h9,_⟩ | ⟨g9,cap9,cur9,h9,_,_,h10,_⟩
   ·cases h9
   ·injection h9 with e1 e2 e3
    show _<=_
    simp only [List.length_cons,List.length_map]
    omega
  clear ho hp2 hg2 hall hown hgrow hgg ho5 hwx ho6 hg6 hax hin5 hin6 hcl6 HN1 HIR1 HP1 HF1 HLS HLSW FBAD k13 kf13 ln1 hs2 hs5 hs6
  generalize wc=wU at *
  have c2:=HP6.out.c2
  rw [HNL.out] at c2
  have hgU:=HP6.out.lt
  have k13:=HN6.out.own.c 13 rfl
  have k4:=HN6.out.own.c 4 rfl
  have lnU:=HN6.out.own.lt
  obtain ⟨L,HL⟩:∃ L,Hid (L=((f:Int)::l.map (·.1))):=⟨_,rfl⟩
  rw [<-HL.out] at HX HIN6 HALL6 k13 HN6 HCAP
  have hLl:L.length<=4097:=by rw [HL.out];simp;omega
  go_wp2_with fail
  go_loopw [27] (fun v wr=>∃ j:Nat,j<=L.length/\v=.int .i64 j/\Below wU.heap.size wU wr/\∀ x∈L.take j,zN (ak nodes x) cols=true) (fun v _=>L.length-(intOf v).toNat)
  case atStart=>exact ⟨0,Nat.zero_le _,rfl,bR,fun x hx=>by simp at hx⟩
  case round=>
   obtain ⟨j,hj,rfl,hbr,hno⟩:=hrel
   have HBR:=jg hbr
   have HNO:=jg hno
   clear hbr hno
   by_cases hlt:j<L.length
   ·have hji:(j:Int)<(L.length:Int):=by omega
    obtain ⟨bx,ox,hbx,d0⟩:=(HIN6.out.later HBR.out) j hlt
    cases hbx
    obtain ⟨i,hi,hilt⟩:=HALL6.out _ (List.getElem_mem hlt)
    have HTK:Hid (L.take (j+1)=L.take j++[(i:Int)]):=by rw [Hid,List.take_succ_eq_append_getElem hlt,hi]
    rw [hi,Nat.zero_add] at d0
    have HMEM:Hid ((i:Int)∈L):=by rw [Hid,<-hi];exact List.getElem_mem hlt
    have HCA:Hid (ak nodes (i:Int)=nodes[i].cols):=by unfold Hid ak;rw [Int.toNat_natCast,List.getElem?_eq_getElem hilt];rfl
    obtain ⟨ab,ao,aq,haN,hac,hat⟩:=HND.out i hilt
    have hndl:=HNC.out _ (List.getElem_mem hilt)
    generalize nodes[i]=ND at *
    have hbel:=HP6.out.bel.trans (HBR.out.mono HP6.out.bel.size)
    have e14:=af hbel (hac 14 _ rfl)
    have c2r:wr.cell? ⟨c.g,2,none⟩=some (.slice (some ⟨ab,ao,none⟩) nodes.length c.cN):=by rw [haN] at c2;exact af HBR.out c2
    have k4r:=af HBR.out k4
    have hii:(i:Int)<(nodes.length:Int):=by omega
    have HEQ:=jg (sV ND.cols cols aq.ka ca aq.kc cc ND.cols.length cols.length wr.drew rfl rfl ((hat.c.later hbel).later aA) ((HCL6.out.later HBR.out).later aA) hndl hcl)
    have hgr:c.g<wr.heap.size:=by have:=HBR.out.size;omega
    have hnr:nb<wr.heap.size:=by have:=HBR.out.size;omega
    have hzj:IntKind.i64.wrap ((j:Int)+1)=((j+1:Nat):Int):=by rw [IntKind.wrap_i64];omega
    have hab:=bL e14
    have hgg2:=bL d0
    clear hac hat haN hbel hi
    go_wp2_with fail
    go_cut [45] from 31 to 45 (fun v45 wx=>v45=.bool (!zN ND.cols cols)/\Below wU.heap.size wU wx)
    case first=>
     refine eu (K:=13) (C:=fun W=>W=wr.drew) 20 (by kernel_rfl) (by kernel_rfl) (by kernel_rfl) (by decide) (by kernel_rfl) (by kernel_rfl) rfl ?_
     simp only [List.take_succ_cons,List.take_zero]
     with_reducible refine wpQuiet_step ?_
     intro K hK
     go_simp
     refine hK _ ?_
     clear hK K
     with_reducible refine wpQuiet_step ?_
     intro K hK
     go_simp
     refine hK _ ?_
     clear hK K
     with_reducible refine wpQuiet_step ?_
     intro K hK
     go_simp
     refine hK _ ?_
     clear hK K
     with_reducible refine wpQuiet_step ?_
     intro K hK
     go_simp
     refine hK _ ?_
     clear hK K
     with_reducible refine wpQuiet_step ?_
     intro K hK
     go_simp
     refine hK _ ?_
     clear hK K
     with_reducible refine wpQuiet_step ?_
     intro K hK
     go_simp
     refine hK _ ?_
     clear hK K
     with_reducible refine wpQuiet_step ?_
     intro K hK
     go_simp
     refine hK _ ?_
     clear hK K
     with_reducible refine wpQuiet_step ?_
     intro K hK
     go_simp
     refine hK _ ?_
     clear hK K
     with_reducible refine wpQuiet_step ?_
     intro K hK
     go_simp
     refine hK _ ?_
     clear hK K
     with_reducible refine wpQuiet_step ?_
     intro K hK
     go_simp
     refine hK _ ?_
     clear hK K
     with_reducible refine wpQuiet_step ?_
     intro K hK
     go_simp
     refine hK _ ?_
     clear hK K
     with_reducible refine wpQuiet_step ?_
     intro K hK
     go_simp
     refine hK _ ?_
     clear hK K
     with_reducible refine wpQuiet_step ?_
     intro K hK
     go_simp
     refine hK _ ?_
     clear hK K
     intro w' hC
     obtain rfl:=hC
     refine wpAny_ready (fuel:=1) (rs:=[13]) (by kernel_rfl) (by simp) ?_
     refine AllReady.cons rfl (fun K hK=>?_) AllReady.nil
     go_simp
     refine HEQ.out.mono ?_
     rintro e w7 ⟨rfl,hb7⟩
     have HB7:=jg ((HBR.out.trans (aA.mono HBR.out.size)).trans (hb7.mono (by have:=HBR.out.size;exact this)))
     clear hb7
     refine hK _ _ ?_
     clear hK K
     refine wpAny_ready (fuel:=0) (rs:=[14]) (by kernel_rfl) (by simp) ?_
     refine AllReady.cons rfl (fun K hK=>?_) AllReady.nil
     go_simp
     refine hK _ _ ?_
     clear hK K
     refine ⟨by kernel_rfl,?_⟩
     go_wp2_with fail
     go_meet
     exact ⟨rfl,HB7.out⟩
    case rest=>
     obtain ⟨hv,hbw⟩:=hcut
     subst hv
     have HBW:=jg hbw
     clear hbw
     cases hq:zN ND.cols cols with
     | true=>
      simp only [Bool.not_true]
      go_wp2_with fail
      refine ⟨⟨j+1,by omega,by go_num,HBW.out,?_⟩,by simp [intOf];omega⟩
      rw [HTK.out]
      intro x hx
      rcases List.mem_append.1 hx with hx | hx
      ·exact HNO.out x hx
      ·simp at hx;subst hx;rw [HCA.out];exact hq
     | false=>
      have HXX:Hid (O=.error 3):=by
       have hx:=HX.out
       rw [if_neg (fun h=>by
        rw [List.all_eq_true] at h
        have:=h _ HMEM.out
        rw [HCA.out,hq] at this
        cases this)] at hx
       exact hx.symm
      simp only [Bool.not_false]
      go_wp2_with fail
      refine (bf 3 _).mono ?_
      rintro e w8 ⟨rfl,h8⟩
      have h8':=h8.symm
      subst h8'
      unfold cm
      go_wp2_with fail
      rw [HXX.out]
      first | exact ⟨rfl,iH HF6.out (aj (r:=none) HBW.out) (fun k hk=>by cases hk),rfl⟩ | exact ⟨iH HF6.out (aj (r:=none) HBW.out) (fun k hk=>by cases hk),rfl⟩
   ·have hji:¬ (j:Int)<(L.length:Int):=by omega
    have HXX:Hid (O=.ok (({ aB with k:=6,c:=cols },L),ts2)):=by
     have hx:=HX.out
     rw [if_pos (by
      rw [List.all_eq_true]
      intro x hx
      have:=HNO.out
      rw [List.take_of_length_le (by omega)] at this
      exact this x hx)] at hx
     exact hx.symm
    go_wp2_with fail
    go_end0
    rw [HXX.out]
    exact ⟨iH HF6.out (aj (r:=none) HBR.out) (fun k hk=>by cases hk),rfl,HP6.out.later HBR.out,_,HN6.out.later (by omega) HBR.out,fun _=>HCAP.out⟩
end Jp
end Go.Proofs.YtiiliobffnhpmaaGreatDoor
