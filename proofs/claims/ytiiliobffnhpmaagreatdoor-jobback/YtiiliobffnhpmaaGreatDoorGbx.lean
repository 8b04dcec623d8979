import Derived.Test.YtiiliobffnhpmaaGreatDoorCards
import Derived.Test.YtiiliobffnhpmaaGreatDoorTie
import Derived.Test.YtiiliobffnhpmaaGreatDoorGbw
import Derived.Stop.LaidErr
import Derived.Deep.DeepWitnessRowRef
import Derived.Lib.SmallJoins
set_option linter.all false
set_option maxRecDepth 100000
set_option maxHeartbeats 4000000
namespace Go.Proofs.YtiiliobffnhpmaaGreatDoor
namespace Jp
open Go.RowKit Oo
open Classical in
noncomputable def mZ (s:ByteArray):Option Int:=if h:∃ n,∃ k t,Dc.LV s k n t then some h.choose else none
theorem Cf {s t:ByteArray} {k n:Int} (h:Dc.LV s k n t):mZ s=some n:=by
 have hx:∃ n,∃ k t,Dc.LV s k n t:=⟨n,k,t,h⟩
 unfold mZ
 rw [dif_pos hx]
 obtain ⟨k',t',h'⟩:=hx.choose_spec
 rw [(Dc.oneLV _ _ _ _ _ _ _ h' h).2.1]
theorem ot {s:ByteArray} {n:Int} (h:mZ s=some n):∃ k t,Dc.LV s k n t:=by
 unfold mZ at h
 split at h
 ·rename_i hx
  cases h
  exact hx.choose_spec
 ·cases h
theorem Ey:wT mZ:=fun s n h=>by
 obtain ⟨k,t,h⟩:=ot h
 exact ⟨h.2.1,h.2.2.1⟩
theorem xp {s:ByteArray} (h:Bp.TkOk 2 s):∃ c r,s.data.toList=c::r/\eS c=true/\bp (c::r)=(c::r).length:=by
 obtain ⟨⟨c,r,e,hs⟩,h⟩:=h
 have h:=h [] (by intro c hc;cases hc)
 have hz:s.size=s.data.toList.length:=by simp
 rw [List.append_nil,hz,e,Bp.tokAt_cons] at h
 by_cases hd:eS c=true
 ·rw [if_pos hd] at h
  simp only [Option.some.injEq,Prod.mk.injEq] at h
  exact ⟨c,r,e,hd,h.2⟩
 rw [if_neg hd] at h
 split at h
 ·simp at h
 ·split at h
  ·cases hf:r.findIdx? (·==39) with
   | none=>rw [hf] at h;cases h
   | some i=>rw [hf] at h;simp at h
  ·split at h
   ·simp at h
   ·cases h
theorem xP {s:ByteArray} {n:Int} (h:Bp.TkOk 2 s) (hr:mZ s=some n):s=gy n:=by
 obtain ⟨k,t,h1,h2,h3,h4⟩:=ot hr
 obtain ⟨c,r,e,hd,-⟩:=xp h
 unfold Vl.showB at h4
 rw [if_pos h1] at h4
 by_cases hk1:k=1
 ·rw [if_pos hk1] at h4
  exact h4.symm
 rw [if_neg hk1] at h4
 by_cases hk2:k=2
 ·rw [if_pos hk2] at h4
  split at h4
  ·subst h4;cases e;exact absurd hd (by decide)
  ·subst h4;cases e;exact absurd hd (by decide)
 rw [if_neg hk2] at h4
 by_cases hk3:k=3
 ·rw [if_pos hk3] at h4
  subst h4
  simp only [List.cons_append] at e
  cases e
  exact absurd hd (by decide)
 ·rw [if_neg hk3] at h4
  subst h4;cases e;exact absurd hd (by decide)
theorem EM:AF mZ:=fun n h=>by
 obtain ⟨s,h1,h2,h3⟩:=h
 have e:=xP h1 h3
 rw [<-e]
 exact ⟨h1,h3⟩
theorem EN:BC mZ:=fun n h=>by
 obtain ⟨s,h1,h2,h3⟩:=h
 rw [<-xP h1 h3]
 obtain ⟨c,r,e,hd,hl⟩:=xp h1
 unfold eV
 rw [e]
 exact xv hl
theorem xd {c d:UInt8} {l:List UInt8} (hc:c≠d) (h:∀ x∈l,x≠d):∀ x∈c::l,x≠d:=fun x hx=>by
 rcases List.mem_cons.1 hx with rfl | hx
 ·exact hc
 ·exact h x hx
theorem tW:∀ (l:List UInt8),(∀ x∈l,x≠10)\/∃ a b,l=a++10::b/\∀ x∈a,x≠10
 | []=>.inl (fun x h=>by cases h)
 | c::l=>by
  by_cases hc:c=10
  ·exact .inr ⟨[],l,by rw [hc];rfl,fun x h=>by cases h⟩
  ·rcases tW l with h | ⟨a,b,rfl,h⟩
   ·exact .inl (xd hc h)
   ·exact .inr ⟨c::a,b,rfl,xd hc h⟩
theorem tA (n:Nat):∀ (l:List UInt8),l.length<=n->∀ y∈iF l,∀ x∈y,x≠10:=by
 induction n with
 | zero=>
  intro l hl y hy
  have:l=[]:=List.eq_nil_of_length_eq_zero (by omega)
  subst this
  rw [ij (fun x h=>by cases h)] at hy
  simp at hy
  subst hy
  intro x hx;cases hx
 | succ n ih=>
  intro l hl y hy
  rcases tW l with h | ⟨a,b,rfl,h⟩
  ·rw [ij h] at hy
   simp at hy
   subst hy
   exact h
  ·rw [iP h] at hy
   rcases List.mem_cons.1 hy with rfl | hy
   ·exact h
   ·exact ih b (by simp at hl;omega) y hy
theorem tX {c:UInt8}:∀ (l:List UInt8) (i:Nat),Lib.index l [c]=(i:Int)->∀ x∈l.take i,x≠c
 | [],i,h,x,hx=>by simp at hx
 | b::l,0,h,x,hx=>by simp at hx
 | b::l,i+1,h,x,hx=>by
  rw [Lib.index] at h
  by_cases hb:b=c
  ·subst hb
   have hp:([b]:List UInt8).isPrefixOf (b::l)=true:=by simp [List.isPrefixOf]
   rw [if_pos hp] at h
   omega
  ·have hp:¬ ([c]:List UInt8).isPrefixOf (b::l)=true:=by simp [List.isPrefixOf,Ne.symm hb]
   rw [if_neg hp] at h
   rw [List.take_succ_cons] at hx
   rcases List.mem_cons.1 hx with rfl | hx
   ·exact hb
   ·refine tX l i ?_ x hx
    by_cases h1:Lib.index l [c]=-1
    ·rw [h1] at h;simp at h;omega
    ·have h2:¬ ((Lib.index l [c]==-1)=true):=by simpa using h1
     simp [h1] at h
     omega
theorem iS {c:UInt8}:∀ l:List UInt8,Lib.index l [c]=-1\/0<=Lib.index l [c]
 | []=>.inl (by simp [Lib.index])
 | b::l=>by
  rw [Lib.index]
  split
  ·right;omega
  ·rcases iS (c:=c) l with h | h
   ·left;simp [h]
   ·right
    have:Lib.index l [c]≠-1:=by omega
    simp [this]
    omega
theorem yH {c:UInt8}:∀ l:List UInt8,Lib.index l [c]=-1->∀ x∈l,x≠c
 | [],_,x,hx=>by cases hx
 | b::l,h,x,hx=>by
  rw [Lib.index] at h
  by_cases hb:b=c
  ·subst hb
   have hp:([b]:List UInt8).isPrefixOf (b::l)=true:=by simp [List.isPrefixOf]
   rw [if_pos hp] at h
   omega
  ·have hp:¬ ([c]:List UInt8).isPrefixOf (b::l)=true:=by simp [List.isPrefixOf,Ne.symm hb]
   rw [if_neg hp] at h
   rcases List.mem_cons.1 hx with rfl | hx
   ·exact hb
   ·refine yH l ?_ x hx
    rcases iS (c:=c) l with h1 | h1
    ·exact h1
    ·have:Lib.index l [c]≠-1:=by omega
     simp [this] at h
     omega
theorem AK {l:ByteArray} (h:∀ x∈l.data.toList,x≠10):eV (dH l):=by
 have key:∀ x∈(Lib.cut l.data.toList [35]).1,x∈l.data.toList/\x≠35:=by
  unfold Lib.cut
  rcases iS (c:=35) l.data.toList with h1 | h1
  ·rw [h1]
   intro x hx
   simp at hx
   exact ⟨by simpa using hx,yH _ h1 x (by simpa using hx)⟩
  ·obtain ⟨i,hi⟩:∃ i:Nat,Lib.index l.data.toList [35]=(i:Int):=⟨(Lib.index l.data.toList [35]).toNat,by omega⟩
   rw [hi]
   intro x hx
   rw [if_pos (by omega),Int.toNat_natCast] at hx
   exact ⟨List.mem_of_mem_take hx,tX _ i hi x hx⟩
 intro c hc
 have:=key c hc
 exact ⟨h c this.1,this.2⟩
theorem se (s:ByteArray):∀ l∈bZ s,eV (dH l):=fun l hl=>by
 refine AK ?_
 have:l.data.toList∈(bZ s).map (·.data.toList):=List.mem_map.2 ⟨l,hl,rfl⟩
 rw [ju] at this
 exact tA _ _ lR _ this
theorem zR {line:ByteArray} (h:eV line):eU wh line=eU sT line:=by
 funext ts
 have e:∀ a b,sT (sub line a b)=wh (sub line a b):=fun a b=>by
  unfold sT
  rw [if_pos]
  exact (Cl.drop h a).take (b-a)
 unfold eU
 rw [e]
theorem Aa {nodes:List aJ} {line:ByteArray} (h:eV line):(fun i cols ts=>cS mZ wh nodes cols i line ts)=fun i cols ts=>cS mZ sT nodes cols i line ts:=by
 funext i cols ts
 unfold cS
 rw [zR h]
theorem Bd {ckF:List Co->ByteArray->Except Nat Int} {nodes:List aJ} {line:ByteArray} (h:eV line):dM mZ wh ckF nodes line=dM mZ sT ckF nodes line:=by
 have e:∀ ts,dx mZ wh nodes line ts=dx mZ sT nodes line ts:=fun ts=>by
  unfold dx
  rw [Aa h]
 unfold dM
 simp only [e]
theorem yE {ckF:List Co->ByteArray->Except Nat Int} (s:ByteArray):bV mZ wh ckF s=bV mZ sT ckF s:=by
 have key:∀ (ls:List ByteArray) (nodes:List aJ) (i:Nat),(∀ l∈ls,eV (dH l))->da mZ wh ckF ls nodes i=da mZ sT ckF ls nodes i:=by
  intro ls
  induction ls with
  | nil=>intro nodes i h;rfl
  | cons l ls ih=>
   intro nodes i h
   rw [da,da,Bd (h l (by simp))]
   cases dM mZ sT ckF nodes (dH l) with
   | error k=>rfl
   | ok nodes'=>exact ih nodes' (i+1) (fun x hx=>h x (by simp [hx]))
 unfold bV
 rw [key _ _ _ (se s)]
noncomputable def DL (r:Except jK (X × Int)):Except Nat Int:=match r with
 | .ok (_,k)=>.ok k
 | .error f=>.error f.why
open Classical in
noncomputable def Df (c:List Co) (s:ByteArray):Except Nat Int:=if h:∃ o,PX Dc.LV s o then DL (yA c h.choose) else .error 0
theorem zQ {c:List Co} {s:ByteArray} {o:Except jK X} (h:PX Dc.LV s o):Df c s=DL (yA c o):=by
 have hx:∃ o,PX Dc.LV s o:=⟨o,h⟩
 unfold Df
 rw [dif_pos hx,hx.choose_spec.one Dc.oneLV h]
theorem zo (w:World):∀ W W' r,(∀ k,r=some k->w.heap.size<=k)->Below w.heap.size w W->W.grownBy W' r->Below w.heap.size w W':=fun W W' r h1 h2 h3=>eE h2 h3 (fun n hn=>h1 n hn)
theorem DB (w:World) (h2:Vl.Sen w) (h3:Vl.Sen3 w) (ht:Vl.Tab w):lz w mZ wh Df:=by
 refine ⟨fun s W hs hW=>?_,fun s W hs hW=>?_,fun s t h=>?_,fun c h1 h4 s W a cc hW hc=>?_,Ey⟩
 ·refine (Vl.read_tot s W (by omega) (Vl.Sen.later h2 hW) (Vl.Sen3.later h3 hW) (Vl.Tab.later ht hW)).mono ?_
  rintro e w' ⟨hb,⟨k,n,t,h4,h5,h6,h7,rfl⟩ | ⟨hno,rfl⟩⟩
  ·refine ⟨hb,?_⟩
   rw [Cf (show Dc.LV s k n t from ⟨h4,h5,h6,h7⟩)]
   exact ⟨_,_,rfl⟩
  ·refine ⟨hb,?_⟩
   have:mZ s=none:=by
    cases hr:mZ s with
    | none=>rfl
    | some n=>
     obtain ⟨k,t,h⟩:=ot hr
     exact absurd h.2.2.2 (hno k n t h.2.1 h.2.2.1 h.1)
   rw [this]
   exact ⟨_,_,_,_,_,rfl⟩
 ·have hR:=Dc.rdOkLV W (Vl.Sen.later h2 hW) (Vl.Sen3.later h3 hW) (Vl.Tab.later ht hW)
  obtain ⟨o,ho⟩:=yG Dc.oneLV hR s W (zo W) bR
  refine (vw s W o (Vl.Tab.later ht hW) (fun V hV=>?_) ho).mono ?_
  ·refine (YtiiliobffnhpmaaGreatDoor.parse_any Dc.oneLV hR s V (fun V1 V' r h1 h2 h3=>zo W V1 V' r (fun k hk=>Nat.le_trans hV.size (h1 k hk)) h2 h3) hV).mono ?_
   rintro e w' ⟨hb,o',ho',h⟩
   cases ho'.one Dc.oneLV ho
   exact ⟨hb,h⟩
  ·rintro e w' ⟨rfl,hb⟩
   refine ⟨hb,?_⟩
   rw [su ho]
   cases o with
   | ok x=>exact ⟨0,rfl⟩
   | error f=>exact ⟨f.pl,rfl⟩
 ·obtain ⟨x,hx,rfl⟩:=pk h
  have a1:=ed x hx.lx
  have a2:=hx.size
  omega
 ·have hR:=Dc.rdOkLV W (Vl.Sen.later h2 hW) (Vl.Sen3.later h3 hW) (Vl.Tab.later ht hW)
  refine (vR Dc.oneLV hR s a cc c W (zo W) bR hc (by show c.length<=maxLen;unfold maxLen;omega) (fun x hx=>by have:=h4 x hx;omega)).mono ?_
  rintro e w' ⟨hb,o',ho',rfl⟩
  refine ⟨?_,hb⟩
  rw [zQ ho']
  unfold Eh
  cases hck:yA c o' with
  | error f=>exact ⟨f.pl,rfl⟩
  | ok q=>obtain ⟨x,k⟩:=q;exact ⟨0,rfl⟩
theorem back_all (text:ByteArray) (m:Int) (w:World) (h2:Vl.Sen w) (h3:Vl.Sen3 w) (hT:Vl.Tab w) (hEt:Td.Ety w) (hm:w.cell? ⟨1,0,none⟩=some (.int .i64 m)) (hs:text.size<=140737488355328) :
 Calls Tryz.prog 4 #[.string text] w fun e w'=>e=.returned (.bool true)/\Below w.heap.size w w':=
 vC text m w (DB w h2 h3 hT) yE EM EL EN EG hm hT hEt hs
end Jp
section
theorem ER:(Rows.jobBackRow.inPlace==Tryz.prog.inPlace 4)=true:=by kernel_rfl
theorem EZ:(Rows.jobBackRow.unfollowed==Tryz.prog.unfollowed 4)=true:=by kernel_rfl
theorem EK:(Rows.jobBackRow.recurses==Tryz.prog.recurses 4)=true:=by kernel_rfl
theorem EY:(Rows.jobBackRow.named==Tryz.prog.varsNamed 4)=true:=by kernel_rfl
theorem EV:Tryz.prog.stopsHeard=true:=by kernel_rfl
theorem Fb:Tryz.prog.mayEnter=true:=by kernel_rfl
theorem E0:mapsRowed Tryz.prog=true:=by kernel_rfl
theorem uq:laidOutB Tryz.prog=true:=by kernel_rfl
theorem rr:joinedFacts Tryz.prog 4 Tryz.f4 Rows.jobBackSpec Rows.jobBackRow=true:=by
 unfold joinedFacts
 rw [ER,EZ,EK,EY,EV,Fb,E0,uq]
 kernel_rfl
end
section
open Go.ChangeShapes Go.WideShapes Go.ChangeAt Go.RowKit
open Go.ChangeMaps (open_string shut_string)
open Go.Deep Go.Joins
theorem own:ownKnob Tryz.prog.godebug=none:=by kernel_rfl
theorem yr:Tryz.prog.cellsOf 271=1:=by kernel_rfl
theorem zA:Tryz.prog.cellsOf 316=20:=by kernel_rfl
theorem xQ:reachBytes=140737488351232:=rfl
theorem Ep : Tryz.prog.globalNamed "internal/strconv.uint64pow10" = some 4 := by kernel_rfl
theorem xf:(Tryz.prog.globals[4]?).map (·.type)=some 316:=by kernel_rfl
theorem C9 {W : World} {l : List (String × DataW Unit)} (h : laidMetH Tryz.prog l W) (e : l.filter (fun x => x.1 == "internal/strconv.uint64pow10") = [("internal/strconv.uint64pow10", Lib.tabData .u64 Lib.pow10Tab)]) : Vl.Tab W := by
 have hf := laidMetH.filter (fun x => x.1 == "internal/strconv.uint64pow10") h
 rw [e] at hf
 exact Lib.tabIs_of_head (rest:=[]) Ep xf Tryz.underlying316 Tryz.underlying271 yr zA hf
theorem DV : Tryz.prog.globalNamed "strconv.ErrSyntax" = some 7 := by kernel_rfl
theorem DF : Tryz.prog.globalNamed "strconv.ErrRange" = some 8 := by kernel_rfl
theorem DN : "*" ++ "errors.errorString" = "*errors.errorString" := by decide
theorem xA (u : TypeId) (h : Tryz.prog.typeName? 3 u = some "*errors.errorString") : u = 342 :=
 typeName_ptr_named (nm := "errors.errorString") (by rw [DN]; kernel_rfl) (by kernel_rfl) (by decide) u (by rw [DN]; exact h)
theorem DA {W : World} {l : List (String × DataW Unit)} (h : laidMetH Tryz.prog l W) (e : l.filter (fun x => x.1 == "strconv.ErrSyntax") = [("strconv.ErrSyntax", Rows.laid_strconv_ErrSyntax)]) : Vl.Sen W := by
 have hf := laidMetH.filter (fun x => x.1 == "strconv.ErrSyntax") h
 rw [e] at hf
 obtain ⟨a,t,hv,_⟩:=laid_sentinel (r:=[]) (g:=7) (W:=W) hf DV (by kernel_rfl) Tryz.underlying26 xA Tryz.underlying342 Tryz.underlying344 rfl rfl Tryz.underlying9 (by kernel_rfl) (by kernel_rfl)
 exact ⟨_,World.var?_cell DV hv 0,.inr ⟨_,_,rfl⟩⟩
theorem CB {W : World} {l : List (String × DataW Unit)} (h : laidMetH Tryz.prog l W) (e : l.filter (fun x => x.1 == "strconv.ErrRange") = [("strconv.ErrRange", Rows.laid_strconv_ErrRange)]) : Vl.Sen3 W := by
 have hf := laidMetH.filter (fun x => x.1 == "strconv.ErrRange") h
 rw [e] at hf
 obtain ⟨a,t,hv,_⟩:=laid_sentinel (r:=[]) (g:=8) (W:=W) hf DF (by kernel_rfl) Tryz.underlying26 xA Tryz.underlying342 Tryz.underlying344 rfl rfl Tryz.underlying9 (by kernel_rfl) (by kernel_rfl)
 exact ⟨_,World.var?_cell DF hv 0,.inr ⟨_,_,rfl⟩⟩
theorem gE : Tryz.prog.globalNamed "errors.errorType" = some 0 := by kernel_rfl
theorem Ew : (Tryz.prog.cutTypes.find? (·.1 == "internal/reflectlite.rtype")).map (·.2) = some 173 := by kernel_rfl
theorem Dg:((List.range 398).filter fun t=>Tryz.prog.rowNamed t [101,114,114,111,114])=[26]:=by kernel_rfl
theorem Ca:Tryz.prog.types.size=398:=by kernel_rfl
theorem Dh {W : World} {l : List (String × DataW Unit)} (h : laidMetH Tryz.prog l W) (e : l.filter (fun x => x.1 == "errors.errorType") = [("errors.errorType", Rows.laid_errors_errorType)]) : Td.Ety W := by
 have hf := laidMetH.filter (fun x => x.1 == "errors.errorType") h
 rw [e] at hf
 have h' : laidMet Tryz.prog [] W ∧ handlesMet Tryz.prog [("errors.errorType", Rows.laid_errors_errorType)] W := hf
 obtain ⟨name,u,ty,e1,e2,e3,e4,e5⟩:=h'.2 _ (List.mem_singleton.2 rfl)
 have en:=(sI e1).symm
 subst en
 obtain rfl:=sI (Ew.symm.trans e2)
 have hm:ty∈(List.range 398).filter fun t=>Tryz.prog.rowNamed t [101,114,114,111,114]:=List.mem_filter.2 ⟨List.mem_range.2 (by rw [<-Ca];exact e3),e4⟩
 rw [Dg] at hm
 obtain rfl:=List.mem_singleton.1 hm
 have hh:typeHandle Tryz.prog 26=.pointer (some ⟨9,26,none⟩):=by kernel_rfl
 rw [hh] at e5
 have:=World.var?_cell gE e5 0
 unfold Td.Ety
 simpa using this
def setRow (cs:Array Value):Obj->Obj
 | .cells _ t frozen=>.cells cs t frozen
 | o=>o
def mx (w:World):World:=
 { w with heap:=(((((((((w.heap.push (.cells #[.string ⟨#[118,97,108,117,101,32,111,117,116,32,111,102,32,114,97,110,103,101]⟩] 344)).push (.cells #[.string ⟨#[105,110,118,97,108,105,100,32,115,121,110,116,97,120]⟩] 344)).modify 8 (setRow #[.iface 342 (.pointer (some ⟨w.heap.size,0,none⟩))])).modify 7 (setRow #[.iface 342 (.pointer (some ⟨w.heap.size+1,0,none⟩))])).modify 4 (setRow #[.int .u64 1,.int .u64 10,.int .u64 100,.int .u64 1000,.int .u64 10000,.int .u64 100000,.int .u64 1000000,.int .u64 10000000,.int .u64 100000000,.int .u64 1000000000,.int .u64 10000000000,.int .u64 100000000000,.int .u64 1000000000000,.int .u64 10000000000000,.int .u64 100000000000000,.int .u64 1000000000000000,.int .u64 10000000000000000,.int .u64 100000000000000000,.int .u64 1000000000000000000,.int .u64 10000000000000000000])).modify 5 (setRow #[.int .u8 0,.int .u8 1,.int .u8 28,.int .u8 2,.int .u8 29,.int .u8 14,.int .u8 24,.int .u8 3,.int .u8 30,.int .u8 22,.int .u8 20,.int .u8 15,.int .u8 25,.int .u8 17,.int .u8 4,.int .u8 8,.int .u8 31,.int .u8 27,.int .u8 13,.int .u8 23,.int .u8 21,.int .u8 19,.int .u8 16,.int .u8 7,.int .u8 26,.int .u8 12,.int .u8 18,.int .u8 6,.int .u8 11,.int .u8 5,.int .u8 10,.int .u8 9])).modify 6 (setRow #[.int .u8 0,.int .u8 1,.int .u8 56,.int .u8 2,.int .u8 57,.int .u8 49,.int .u8 28,.int .u8 3,.int .u8 61,.int .u8 58,.int .u8 42,.int .u8 50,.int .u8 38,.int .u8 29,.int .u8 17,.int .u8 4,.int .u8 62,.int .u8 47,.int .u8 59,.int .u8 36,.int .u8 45,.int .u8 43,.int .u8 51,.int .u8 22,.int .u8 53,.int .u8 39,.int .u8 33,.int .u8 30,.int .u8 24,.int .u8 18,.int .u8 12,.int .u8 5,.int .u8 63,.int .u8 55,.int .u8 48,.int .u8 27,.int .u8 60,.int .u8 41,.int .u8 37,.int .u8 16,.int .u8 46,.int .u8 35,.int .u8 44,.int .u8 21,.int .u8 52,.int .u8 32,.int .u8 23,.int .u8 11,.int .u8 54,.int .u8 26,.int .u8 40,.int .u8 15,.int .u8 34,.int .u8 20,.int .u8 31,.int .u8 10,.int .u8 25,.int .u8 14,.int .u8 19,.int .u8 9,.int .u8 13,.int .u8 8,.int .u8 7,.int .u8 6])).modify 0 (setRow #[.iface 173 (.agg #[.pointer (some ⟨9,26,none⟩)])])).modify 3 (setRow #[.int .u8 128,.int .u8 191,.int .u8 160,.int .u8 191,.int .u8 128,.int .u8 159,.int .u8 144,.int .u8 191,.int .u8 128,.int .u8 143,.int .u8 0,.int .u8 0,.int .u8 0,.int .u8 0,.int .u8 0,.int .u8 0,.int .u8 0,.int .u8 0,.int .u8 0,.int .u8 0,.int .u8 0,.int .u8 0,.int .u8 0,.int .u8 0,.int .u8 0,.int .u8 0,.int .u8 0,.int .u8 0,.int .u8 0,.int .u8 0,.int .u8 0,.int .u8 0])).modify 2 (setRow (Go.Pinned.utf8FirstZ.map fun n:Nat=>Value.int .u8 (n:Int)).toArray) }
theorem CG {W:World} (h:W.ShapedOpen Tryz.prog):∃ m,W.cell? ⟨1,0,none⟩=some (.int .i64 m):=by
 obtain ⟨cs,hh,hs,hr⟩:=h.1 1 #[.int .i64 0] 3 (of_decide_eq_true (by kernel_rfl)) (by kernel_rfl)
 obtain ⟨ts,hts,_,hall⟩:=hr (by kernel_rfl)
 have hc:Tryz.prog.cellTypes Tryz.prog.depth 3=some [3]:=by kernel_rfl
 rw [hc] at hts
 cases hts
 have hs':cs.size=1:=hs
 have h1:0<cs.size:=by omega
 obtain ⟨u,hu',hok⟩:=hall 0 cs[0] (by simp [h1])
 have:u=3:=by simpa using hu'.symm
 subst this
 have hcell:W.cell? ⟨1,0,none⟩=some cs[0]:=by simp [World.cell?,hh,h1]
 rw [hcell]
 unfold Cell.ok at hok
 rw [Tryz.underlying3] at hok
 cases hv:cs[0] with
 | int k n=>
  rw [hv] at hok
  cases k<;>first | exact ⟨_,rfl⟩ | (simp at hok)
 | _=>rw [hv] at hok;simp at hok
theorem nf (H:Type) (enc:TypeId × Value->H) (W:World) (base:Nat) (args:Array Value) (ds gs:List (DataW H)) (before:List MemPlace)
 (hval:∀ (j:Nat) t v,Tryz.f4.params[j]?=some t->args[j]?=some v->Value.okWide Tryz.prog W .any base t v)
 (hW:DataW.Whole enc Tryz.prog Tryz.f4.params.toList Rows.jobBackSpec.vars false W args.toList ds gs before)
 (hz:(DataW.weightsEach Tryz.prog (Tryz.f4.params.toList++[]) (ds++gs)).all (·<=reachBytes)=true) (hL:laidMetH Tryz.prog Rows.jobBackRow.laid W) (hsh:W.ShapedOpen Tryz.prog) :
 Calls Tryz.prog 4 args W fun e W'=>∃ v,e=.returned v/\Rows.jobBackSpec.post enc Tryz.prog Tryz.f4 false true false false W args v W':=by
 have hW':=hW
 obtain ⟨p,q,hA0,hV,rfl,hfz,hnd⟩:=hW
 have hA:=hA0
 rw [Tryz.params4] at hA hval hz
 obtain ⟨v0,vs0,d0,ds0,p0,q0,hargs,rfl,rfl,h0,r0⟩:=trodAll_cons hA
 obtain ⟨rfl,rfl,rfl⟩:=trodAll_nil r0
 obtain rfl:args=#[v0]:=by cases args;simp_all
 obtain ⟨rfl,rfl⟩:=trodVars_none hV
 have k0:=h0
 have lt0:∀ x∈p0,x.block<W.heap.size:=by obtain ⟨m,hm⟩:=k0;exact DataW.trod_lt m _ _ _ hm
 obtain ⟨s,rfl,rfl,hp0,ws⟩:=open_string Tryz.underlying9 (hval 0 9 v0 rfl rfl) h0
 have hsz:=sized_string hz (j:=0) rfl rfl
 obtain ⟨m,hm⟩:=CG hsh
 refine (Jp.back_all s m W (DA hL (by kernel_rfl)) (CB hL (by kernel_rfl)) (C9 hL (by kernel_rfl)) (Dh hL (by kernel_rfl)) hm (by rw [xQ] at hsz;simp at hsz;omega)).mono fun e W' ⟨he,bel⟩=>?_
 subst he
 exact ⟨_,rfl,_,_,_,[],_,[],hW',trodAll_mk1 (shut_bool Tryz.underlying4 _),
  (trodAll_cons_mk (Below.trod uq (by kernel_rfl) (of_decide_eq_true (by kernel_rfl)) k0 bel lt0) trodAll_mk0),rfl,bel.frame _,fun h=>by cases h⟩
theorem vX (os:Os):laidMetH Tryz.prog Rows.jobBackRow.laid ((mx (World.holding Tryz.prog os ⟨#[],#[],[]⟩)).forCall (fun _ _=>0) ⟨#[],#[.string ⟨#[]⟩],[]⟩).memory:=
 laidMetH_of_parts (laidMet_of_run' 8 (by kernel_rfl) (by kernel_rfl)) (by kernel_rfl)
theorem sf (os:Os) {H:Type} (enc:TypeId × Value->H):∃ places,DataW.whole enc Tryz.prog ((mx (World.holding Tryz.prog os ⟨#[],#[],[]⟩)).forCall (fun _ _=>0) ⟨#[],#[.string ⟨#[]⟩],[]⟩).memory Tryz.f4.params.toList Rows.jobBackSpec.vars false #[Value.string ⟨#[]⟩].toList 8=some ([.lit (.string [])],[],places):=
 ⟨[],by kernel_rfl⟩
theorem qj (os:Os) (started:os.Started) (H:Type) (enc:TypeId × Value->H) (F:Stop.Interp) :
 ReturnsInHanded {} Tryz.checked os 4 .any ((OpenSpec.ofChange Rows.jobBackSpec).preRow enc Tryz.prog Tryz.f4 Rows.jobBackRow.domain false Rows.jobBackRow.laid) (((OpenSpec.ofChange Rows.jobBackSpec).at F).post enc Tryz.prog Tryz.f4 false true false false):=by
 obtain ⟨places,hx⟩:=sf os enc
 refine returnsInHanded_of_row (C:=Tryz.checked) (s:=OpenSpec.ofChange Rows.jobBackSpec) own started (by kernel_rfl) Tryz.func4
  (witness_row_atRef (enc:=enc) (C:=Tryz.checked) false (mx (World.holding Tryz.prog os ⟨#[],#[],[]⟩)) #[.string ⟨#[]⟩] rfl (by kernel_rfl) (by kernel_rfl) (by kernel_rfl)
   (OpenSpec.preRow_of_cond 8 hx (by kernel_rfl) (fun k hk=>by cases hk) (by kernel_rfl) (vX os))) ?_
 intro W base args ds gs before hval hW _ _ hz hL hsh _
 exact nf H enc W base args ds gs before hval hW hz hL hsh
theorem va:Rows.JobBackSaid:=
 OpenClaim.holds_of_cond 4 Tryz.f4 rfl rfl rfl rfl rfl rfl rfl ⟨rfl,rfl,rfl,rfl,rfl⟩ rfl rfl rfl rfl rfl (by kernel_rfl) Tryz.func4 rr
  (of_decide_eq_true (by kernel_rfl)) (by unfold Func.isWrapper;first | (rw [if_pos (by decide +kernel)];kernel_rfl) | (rw [if_neg (by decide +kernel)];exact ⟨rfl,rfl⟩))
  (fun os started H enc _ F=>by rw [OpenClaim.pre_eq_preRow];exact qj os started H enc F)
theorem sN (f : FuncId) (fn : Func) (hf : Tryz.pinned.checked.prog.funcNamed "streamwright/streamwrightlaw10.JobBack" = some f) (hfn : Tryz.pinned.checked.prog.funcs[f]? = some fn) :
 true=Tryz.pinned.checked.prog.looks []/\∀ (j:Nat) t,fn.params[j]?=some t->Tryz.pinned.checked.prog.wantsStandIn t=false:=by
 obtain rfl : f = 4 := sI ((show Tryz.prog.funcNamed "streamwright/streamwrightlaw10.JobBack" = some 4 by kernel_rfl).symm.trans hf) |>.symm
 obtain rfl:fn=Tryz.f4:=(sI (Tryz.func4.symm.trans hfn)).symm
 refine ⟨by kernel_rfl,fun j t ht=>?_⟩
 rw [Tryz.params4] at ht
 have hm:t=9:=by simpa using Array.mem_of_getElem? ht
 subst hm
 exact (show Tryz.prog.wantsStandIn 9=false by kernel_rfl)
theorem jobBack_card:Rows.JobBackCardSaid:=
 Claim7.holds_tied_plain_at .later [] _ _ _ _ va (fun _ h=>by cases h) (by kernel_rfl) (fun _ h=>by cases h) jobBack_row_tie rfl ⟨rfl,rfl⟩ (by kernel_rfl) rfl sN (by kernel_rfl)
end
end Go.Proofs.YtiiliobffnhpmaaGreatDoor
