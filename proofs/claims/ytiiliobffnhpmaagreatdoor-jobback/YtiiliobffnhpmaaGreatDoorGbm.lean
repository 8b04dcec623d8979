import Derived.Test.YtiiliobffnhpmaaGreatDoorGbl
import Derived.Maps.RangeWalk
set_option linter.all false
set_option maxRecDepth 100000
set_option maxHeartbeats 4000000
namespace Go.Proofs.YtiiliobffnhpmaaGreatDoor
namespace Jp
open Go.RowKit Oo
def aL (ws:List (ByteArray × Int)) (k:Int):ByteArray:=((ws.find? fun p=>decide (p.2=k)).map (·.1)).getD eB
def cy (cs:List Co):ByteArray:=jn eL (cs.map fun c=>aE [c.nm,aL bF c.k])
def cC (n:Int):ByteArray:=if n=0 then eB else aE [dJ,gy n]
def cE (l:List (ByteArray × ByteArray)):ByteArray:=jn eL (l.map fun p=>aE [p.1,bAs,p.2])
def co (c:List Co) (ks:List Int):ByteArray:=if ks=[] then cP else jn eL (ks.map (dO c))
def bQ (k s t:Int):ByteArray:=if k=4 then aE [ma,aL bE k] else if k=2 then aE [aE [ma,aL bE k],gy s,gh,gy t] else aE [aE [ma,aL bE k],gy s]
def aS (c:List Co) (a:Oo.Ag):ByteArray:=aL dh a.k++jb++(if a.k=1 then eB else dO c a.at_)++ii
def cU (c:List Co) (ag:List Oo.Ag) (nm:List ByteArray):ByteArray:=if ag=[] then eB else aE [eK,cE ((ag.map (aS c)).zip nm)]
def cG (c r:List Co) (l:List (Int × Int)):ByteArray:=jn Au (l.map fun p=>aE [dO c p.1,aH,dO r p.2])
def dF (b:Bool):ByteArray:=if b=true then kK else eB
def cH (nodes:List aJ) (n:aJ):ByteArray:=
 if n.op.k=1 then aE [aX,n.nm,jb++cy n.op.c++ii,cC n.bd]
 else if n.op.k=7 then aE [cA,aE [n.nm,aH,cg nodes (n.ins.getD 0 0)]]
 else if n.op.k=2 then aE [aE [n.nm,aH,cg nodes (n.ins.getD 0 0)],ey,n.op.ex.getD 0 eB]
 else if n.op.k=3 then aE [aE [n.nm,aH,cg nodes (n.ins.getD 0 0)],dl,cE (n.op.ex.zip n.op.nm)]
 else if n.op.k=4 then aE [aE [n.nm,aH,cg nodes (n.ins.getD 0 0)],pR,co n.op.c n.op.ks,bQ n.op.wk n.op.ws n.op.wt,cU n.op.c n.op.ag n.op.nm]
 else if n.op.k=6 then aE [aE [n.nm,aH,cg nodes (n.ins.getD 0 0)],eh,jn eL (n.ins.tail.map (cg nodes))]
 else if n.op.k=5 then aE [aE [n.nm,aH,cg nodes (n.ins.getD 0 0)],dF n.op.ou,eN,cg nodes (n.ins.getD 1 0),rX,cG n.op.c n.op.r (n.op.ks.zip n.op.os),bQ n.op.wk n.op.ws n.op.wt]
 else eB
theorem bG {a:ByteArray} (ha:a≠eB):aE [a]=a:=by
 unfold aE
 rw [List.filter_cons_of_pos (by simpa using ha),List.filter_nil]
 unfold jn
 rw [List.map_cons,List.map_nil,Lib.join_one]
theorem ar {a b:ByteArray} {l:List ByteArray} (ha:a≠eB) (hb:b≠eB):(aE (a::b::l)).data.toList=a.data.toList++32::(aE (b::l)).data.toList:=by
 unfold aE
 rw [List.filter_cons_of_pos (by simpa using ha),List.filter_cons_of_pos (by simpa using hb),dp,dp,List.map_cons,List.map_cons,Lib.join_cons,Lib.join_cons]
 simp [Lib.joinTail,DO]
theorem t8 {a:ByteArray} {c:UInt8} {r:List UInt8} (h:a.data.toList=c::r):a≠eB:=by
 intro e
 subst e
 cases h
theorem iU {a b:ByteArray} {l:List ByteArray} (ha:a≠eB) (hb:b≠eB):aE (a::b::l)≠eB:=by
 intro e
 have:=ar (l:=l) ha hb
 rw [e] at this
 have h2:=congrArg List.length this
 simp [eB] at h2
theorem iG {a b:ByteArray} (ha:a≠eB):a++b≠eB:=by
 intro e
 apply ha
 have h:=congrArg (fun x=>x.data.toList) e
 simp [eB] at h
 apply ByteArray.ext
 apply Array.toList_inj.1
 rw [h.1]
 rfl
theorem aC {kd:Nat} {s:ByteArray} (h:Bp.TkOk kd s):s≠eB:=by
 obtain ⟨⟨c,r,e,_⟩,_⟩:=h
 exact t8 e
theorem nA (a b:ByteArray):(a++b).data.toList=a.data.toList++b.data.toList:=by simp
def ED (line:ByteArray) (rest:List Tk):Prop:=rest=[]\/(hd line.size rest).tx=bAs\/(hd line.size rest).tx=dw
def AF (rd:R1):Prop:=∀ n,Nu rd n->Bp.TkOk 2 (gy n)/\rd (gy n)=some n
def Br (pf:P1):Prop:=∀ x,CV pf x->x≠eB/\Rd x.data.toList (fun line u=>∀ rest,ED line rest->eU pf line (u++rest)=.ok (x,rest))
theorem i7:Bp.TkOk 1 aX:=bS (c:=115) (r:=[116,114,101,97,109]) rfl (by decide) (by decide)
theorem oy:Bp.TkOk 1 cA:=bS (c:=115) (r:=[105,110,107]) rfl (by decide) (by decide)
theorem oC:Bp.TkOk 1 dJ:=bS (c:=108) (r:=[97,116,101]) rfl (by decide) (by decide)
theorem ll:Bp.TkOk 1 Jp.bAs:=bS (c:=97) (r:=[115]) rfl (by decide) (by decide)
theorem gJ:Bp.TkOk 4 aH:=bS (c:=61) (r:=[]) rfl (by decide) (by decide)
theorem j7:Bp.TkOk 1 ma:=bS (c:=105) (r:=[110]) rfl (by decide) (by decide)
theorem mr:Bp.TkOk 1 gh:=bS (c:=101) (r:=[118,101,114,121]) rfl (by decide) (by decide)
theorem tQ:Bp.TkOk 1 cP:=bS (c:=110) (r:=[111,116,104,105,110,103]) rfl (by decide) (by decide)
theorem pv:Bp.TkOk 1 eK:=bS (c:=103) (r:=[105,118,101]) rfl (by decide) (by decide)
theorem nY:Bp.TkOk 1 rX:=bS (c:=111) (r:=[110]) rfl (by decide) (by decide)
theorem mU:Bp.TkOk 1 ey:=bS (c:=119) (r:=[104,101,114,101]) rfl (by decide) (by decide)
theorem kM:Bp.TkOk 1 dl:=bS (c:=115) (r:=[101,108,101,99,116]) rfl (by decide) (by decide)
theorem nQ:Bp.TkOk 1 pR:=bS (c:=98) (r:=[121]) rfl (by decide) (by decide)
theorem ms:Bp.TkOk 1 eh:=bS (c:=117) (r:=[110,105,111,110]) rfl (by decide) (by decide)
theorem lQ:Bp.TkOk 1 kK:=bS (c:=111) (r:=[117,116,101,114]) rfl (by decide) (by decide)
theorem iY:Bp.TkOk 1 eN:=bS (c:=106) (r:=[111,105,110]) rfl (by decide) (by decide)
theorem En {k:Int} (h:k=1\/k=2\/k=3):Bp.TkOk 1 (aL bF k)/\lW bF (aL bF k)=some k:=by
 rcases h with rfl | rfl | rfl
 ·exact ⟨bS (c:=105) (r:=[110,116]) rfl (by decide) (by decide),by decide⟩
 ·exact ⟨bS (c:=98) (r:=[111,111,108]) rfl (by decide) (by decide),by decide⟩
 ·exact ⟨bS (c:=116) (r:=[101,120,116]) rfl (by decide) (by decide),by decide⟩
theorem BN {k:Int} (h:k=1\/k=2\/k=3\/k=4):Bp.TkOk 1 (aL bE k)/\lW bE (aL bE k)=some k:=by
 rcases h with rfl | rfl | rfl | rfl
 ·exact ⟨bS (c:=116) (r:=[117,109,98,108,101]) rfl (by decide) (by decide),by decide⟩
 ·exact ⟨bS (c:=115) (r:=[108,105,100,101]) rfl (by decide) (by decide),by decide⟩
 ·exact ⟨bS (c:=115) (r:=[101,115,115,105,111,110]) rfl (by decide) (by decide),by decide⟩
 ·exact ⟨bS (c:=119) (r:=[104,111,108,101]) rfl (by decide) (by decide),by decide⟩
theorem Dm {k:Int} (h:1<=k/\k<=7):Bp.TkOk 1 (aL dh k)/\lW dh (aL dh k)=some k:=by
 have:k=1\/k=2\/k=3\/k=4\/k=5\/k=6\/k=7:=by omega
 rcases this with rfl | rfl | rfl | rfl | rfl | rfl | rfl
 ·exact ⟨bS (c:=99) (r:=[111,117,110,116]) rfl (by decide) (by decide),by decide⟩
 ·exact ⟨bS (c:=115) (r:=[117,109]) rfl (by decide) (by decide),by decide⟩
 ·exact ⟨bS (c:=109) (r:=[105,110]) rfl (by decide) (by decide),by decide⟩
 ·exact ⟨bS (c:=109) (r:=[97,120]) rfl (by decide) (by decide),by decide⟩
 ·exact ⟨bS (c:=102) (r:=[105,114,115,116]) rfl (by decide) (by decide),by decide⟩
 ·exact ⟨bS (c:=108) (r:=[97,115,116]) rfl (by decide) (by decide),by decide⟩
 ·exact ⟨bS (c:=100) (r:=[105,115,116,105,110,99,116]) rfl (by decide) (by decide),by decide⟩
theorem pD (l:List UInt8):Bp.Bdy (41::l):=fun c h=>by cases h;exact .inr (.inr (.inl rfl))
theorem tU (l:List UInt8):Bp.Bdy (40::l):=fun c h=>by cases h;exact .inr (.inl rfl)
theorem Ak {cs:List Co} (hc:∀ x∈cs,Ax x) (hn:cs≠[]):Rd (cy cs).data.toList (fun line u=>∀ rest,(hd line.size rest).tx≠dw->bg line.size (iT line.size) dw (u++rest)=.ok (cs.map fun c=>(c,()),rest)):=by
 unfold cy
 rw [dp,List.map_map]
 refine (iV ((fun s:ByteArray=>s.data.toList)∘fun c:Co=>aE [c.nm,aL bF c.k]) (fun line ts=>iT line.size ts) (fun c=>(c,())) dw eL.data.toList (fun _ _=>True) mq jR (fun _ _ _ _=>trivial) cs hn (fun c hx=>?_)).mono fun line u h rest hne=>h rest trivial hne
 obtain ⟨h1,h2⟩:=hc c hx
 obtain ⟨h3,h4⟩:=En h2
 simp only [Function.comp]
 rw [ar (cQ h1) (aC h3),bG (aC h3)]
 refine ((dt h1).two (Rd.one h3)).mono fun line u hu rest _=>?_
 obtain ⟨u1,u2,rfl,⟨q,rfl⟩,q',rfl⟩:=hu
 unfold iT
 simp only [List.cons_append,List.nil_append]
 rw [ee h1]
 simp only [bnd]
 rw [kG h4]
theorem wZ {rd:R1} (hN:AF rd) {v:Int × Int × Int} (h:jT rd v):bQ v.1 v.2.1 v.2.2≠eB/\Rd (bQ v.1 v.2.1 v.2.2).data.toList (fun line u=>(∃ q u',u=⟨q,1,ma⟩::u')/\∀ rest,kR rd line.size (u++rest)=.ok (v,rest)):=by
 obtain ⟨k,s,t⟩:=v
 rcases h with ⟨h1,h2,h3⟩ | ⟨h1,h2,h3⟩ | ⟨h1,h2,h3⟩
 ·simp only at h1 h2 h3
  subst h1 h2 h3
  obtain ⟨a1,a2⟩:=BN (k:=4) (by simp)
  unfold bQ
  rw [if_pos rfl]
  refine ⟨iU (aC j7) (aC a1),?_⟩
  rw [ar (aC j7) (aC a1),bG (aC a1)]
  refine ((Rd.one j7).two (Rd.one a1)).mono fun line u hu=>?_
  obtain ⟨u1,u2,rfl,⟨q,rfl⟩,q',rfl⟩:=hu
  refine ⟨⟨q,_,rfl⟩,fun rest=>?_⟩
  simp only [List.cons_append,List.nil_append]
  unfold kR
  rw [aW (by simp)]
  simp only [bnd]
  rw [kG a2]
  rfl
 ·simp only at h1 h2 h3
  subst h1
  obtain ⟨a1,a2⟩:=BN (k:=2) (by simp)
  obtain ⟨b1,b2⟩:=hN s h2
  obtain ⟨c1,c2⟩:=hN t h3
  unfold bQ
  rw [if_neg (show ¬ (2:Int)=4 by decide),if_pos rfl]
  have e0:=iU (l:=[]) (aC j7) (aC a1)
  refine ⟨iU e0 (aC b1),?_⟩
  rw [ar e0 (aC b1),ar (aC b1) (aC mr),ar (aC mr) (aC c1),bG (aC c1),ar (aC j7) (aC a1),bG (aC a1)]
  refine (((Rd.one j7).two (Rd.one a1)).two ((Rd.one b1).two ((Rd.one mr).two (Rd.one c1)))).mono fun line u hu=>?_
  obtain ⟨u1,u2,rfl,⟨u3,u4,rfl,⟨q,rfl⟩,q',rfl⟩,u5,u6,rfl,⟨q5,rfl⟩,u7,u8,rfl,⟨q7,rfl⟩,q8,rfl⟩:=hu
  refine ⟨⟨q,_,rfl⟩,fun rest=>?_⟩
  simp only [List.cons_append,List.nil_append]
  unfold kR
  rw [aW (by simp)]
  simp only [bnd]
  rw [kG a2]
  simp only
  rw [if_neg (by decide),lI b2]
  simp only
  rw [if_pos trivial,aW (by simp)]
  simp only
  rw [lI c2]
 ·simp only at h1 h2 h3
  subst h3
  have hk:k=1\/k=2\/k=3\/k=4:=by omega
  have k4:k≠4:=by omega
  have k2:k≠2:=by omega
  obtain ⟨a1,a2⟩:=BN hk
  obtain ⟨b1,b2⟩:=hN s h2
  unfold bQ
  rw [if_neg k4,if_neg k2]
  have e0:=iU (l:=[]) (aC j7) (aC a1)
  refine ⟨iU e0 (aC b1),?_⟩
  rw [ar e0 (aC b1),bG (aC b1),ar (aC j7) (aC a1),bG (aC a1)]
  refine (((Rd.one j7).two (Rd.one a1)).two (Rd.one b1)).mono fun line u hu=>?_
  obtain ⟨u1,u2,rfl,⟨u3,u4,rfl,⟨q,rfl⟩,q',rfl⟩,q5,rfl⟩:=hu
  refine ⟨⟨q,_,rfl⟩,fun rest=>?_⟩
  simp only [List.cons_append,List.nil_append]
  unfold kR
  rw [aW (by simp)]
  simp only [bnd]
  rw [kG a2]
  simp only
  rw [if_neg k4,lI b2]
  simp only
  rw [if_neg k2]
theorem uI {c:List Co} {a:Oo.Ag} (h:qH c a):aS c a≠eB/\Rd (aS c a).data.toList (fun line u=>∀ rest,jk c line.size (u++rest)=.ok (a,rest)):=by
 obtain ⟨k,i⟩:=a
 rcases h with ⟨h1,h2⟩ | ⟨h1,h2,h3⟩
 ·simp only at h1 h2
  subst h1 h2
  obtain ⟨a1,a2⟩:=Dm (k:=1) (by decide)
  refine ⟨iG (iG (iG (aC a1))),?_⟩
  unfold aS
  rw [nA,nA,nA,List.append_assoc,List.append_assoc]
  refine ((Rd.one a1).app (tU _) (Rd.sign (.inl rfl) (Rd.sign (c:=41) (.inr (.inl rfl)) Rd.nil))).mono fun line u hu rest=>?_
  obtain ⟨u1,u2,rfl,⟨q,rfl⟩,q',u3,rfl,q4,u4,rfl,rfl⟩:=hu
  simp only [List.cons_append,List.nil_append]
  unfold jk
  rw [kG a2]
  simp only [bnd]
  rw [aW (by simp [jb])]
  simp only
  rw [if_pos trivial,aW (by simp [ii])]
 ·simp only at h1 h2 h3
  obtain ⟨a1,a2⟩:=Dm (k:=k) (by omega)
  have k1:k≠1:=by omega
  refine ⟨iG (iG (iG (aC a1))),?_⟩
  unfold aS
  rw [nA,nA,nA,List.append_assoc,List.append_assoc,if_neg k1]
  refine ((Rd.one a1).app (tU _) (Rd.sign (.inl rfl) ((dt h3.nm.1).app (pD _) (Rd.sign (c:=41) (.inr (.inl rfl)) Rd.nil)))).mono fun line u hu rest=>?_
  obtain ⟨u1,u2,rfl,⟨q,rfl⟩,q',u3,rfl,u5,u6,rfl,⟨q5,rfl⟩,q4,u4,rfl,rfl⟩:=hu
  simp only [List.cons_append,List.nil_append]
  unfold jk
  rw [kG a2]
  simp only [bnd]
  rw [aW (by simp [jb])]
  simp only
  rw [if_neg k1,lH h3]
  simp only
  rw [aW (by simp [ii])]
end Jp
namespace Jp
open Go.RowKit Oo Go.Sort
theorem la (x:ByteArray) (W:World):FnGives Tryz.prog 103 #[] #[.string x] (.bool (decide (x=eB))) W:=by
 show Calls Tryz.prog 103 #[.string x] W _
 have e3:x.toList.isEmpty=decide (x=eB):=by
  rw [ByteArray.toList_eq]
  rw [Bool.eq_iff_iff,List.isEmpty_iff,decide_eq_true_iff]
  constructor
  ·intro h
   apply ByteArray.ext
   exact Array.toList_inj.1 h
  ·intro h;rw [h];rfl
 generalize decide (x=eB)=q at *
 go_in
 go_wp2_with fail
 go_ret
 exact ⟨rfl,0,rfl⟩
theorem CJ (a:Array Value) (W:World):(callFunc 103 a).run Tryz.prog W=.ok (.enter 103 a) W:=eP Tryz.func103 (by kernel_rfl) (by rfl) a W
def tY (l:List ByteArray):List ByteArray:=l.filter fun s=>decide (s≠eB)
theorem Ct (l:List ByteArray):(l.filter fun x=>!decide (x=eB))=tY l:=by
 apply List.filter_congr
 intro x _
 by_cases h:x=eB<;>simp [h]
theorem bq (l:List ByteArray) (hl:l.length<=4096) (hz:(aE l).size<=140737488355328) (W:World) :
 Calls Tryz.prog 52 #[.slice (some ⟨W.heap.size,0,none⟩) l.length l.length] (W.alloc (.cells (l.map Value.string).toArray 9)) fun e w'=>e=.returned (.string (aE l))/\Below W.heap.size W w':=by
 have hO:=aD.new W 9 l.length (l.map Value.string).toArray (by simp)
 have hB:Below W.heap.size W (W.alloc (.cells (l.map Value.string).toArray 9)):=ae _ _
 generalize W.alloc (.cells (l.map Value.string).toArray 9)=w at *
 have hH:Holds Value.string w W.heap.size 0 l.toArray:=fun j hj=>by
  have hj':j<l.length:=by simpa using hj
  refine ⟨?_,hO.soft _⟩
  rw [Nat.zero_add,hO.cell j hj']
  simp [hj']
 have hD:=Tryz.slices_DeleteFunc (α:=ByteArray) Value.string (fun _=>rfl) (fun x=>decide (x=eB)) 103 #[] CJ eB Tryz.zeroValue9 W.heap.size 0 l.length l.toArray w (fun W' x _=>la x W') (fun n os dk x _=>la x _) hH (by simp;omega) (by simp)
 rw [List.toList_toArray,Ct,show l.toArray.size=l.length by simp] at hD
 have HD:=jg hD
 have hle:(tY l).length<=l.length:=List.length_filter_le _ _
 have HJ:Hid (∀ q,Calls Tryz.prog 101 #[.slice (some ⟨W.heap.size,0,none⟩) (tY l).length l.length,.string ⟨#[32]⟩] (putRow Value.string (Sort.ahead w q) W.heap.size 0 ((tY l)++List.replicate (l.length-(tY l).length) eB).toArray) fun e w'=>e=.returned (.string (aE l))/\Below W.heap.size W w'):=fun q=>by
  have hsz:(((tY l)++List.replicate (l.length-(tY l).length) eB).toArray).size=l.toArray.size:=by simp;omega
  have hG:Below W.heap.size W (putRow Value.string (Sort.ahead w q) W.heap.size 0 ((tY l)++List.replicate (l.length-(tY l).length) eB).toArray):=by
   refine ⟨hB.os,hB.tape,hB.output,by rw [size_putRow];exact hB.size,fun k hk=>?_⟩
   rw [<-hB.block k hk]
   have:W.heap.size≠k:=by omega
   simp [putRow,mapBlock,Sort.ahead,Array.getElem?_modify,this]
  have hJ:=Tryz.strings_Join W.heap.size 0 l.length (tY l) (⟨#[32]⟩:ByteArray) (putRow Value.string (Sort.ahead w q) W.heap.size 0 ((tY l)++List.replicate (l.length-(tY l).length) eB).toArray) (fun j x hx=>?_) (by rw [size_putRow];exact hO.lt) (by omega) hle ?_
  ·refine hJ.mono ?_
   rintro e w' ⟨rfl,hb⟩
   exact ⟨rfl,hG.trans (hb.mono hG.size)⟩
  ·have hj:=(List.getElem?_eq_some_iff.1 hx).1
   have:=cell?_putRow Value.string (Sort.ahead w q) W.heap.size 0 l.toArray _ (holds_ahead _ _ _ _ _ _ hH) hsz j (by simp;omega)
   rw [this]
   congr 2
   rw [List.getElem!_toArray,List.getElem!_eq_getElem?_getD,List.getElem?_append_left hj,hx]
   rfl
  ·have e:(aE l).size=(Lib.join ((tY l).map (·.data.toList)) (⟨#[32]⟩:ByteArray).data.toList).length:=by
    unfold aE jn
    show (Lib.join _ _).toArray.size=_
    rw [List.size_toArray]
    rfl
   rw [<-e]
   exact hz
 clear hD hH hO hB
 generalize aE l=SS at *
 generalize tY l=FL at *
 generalize l.length=n at *
 go_in
 go_wp2_with fail
 refine HD.out.mono ?_
 rintro e w1 ⟨rfl,q,hw1⟩
 have hJq:=HJ.out q
 rw [<-hw1] at hJq
 have HJq:=jg hJq
 clear hw1 hJq HJ HD
 go_wp2_with fail
 refine HJq.out.mono ?_
 rintro e w3 ⟨rfl,hb⟩
 have HB:=jg hb
 clear hb
 go_wp2_with fail
 go_ret
 exact ⟨rfl,HB.out⟩
end Jp
namespace Jp
open Go.RowKit Oo
def mv {α:Type} (w:World) (fn:Nat) (cap:Array Value) (enc:α->Value) (f:α->ByteArray) (l:List α):Prop:=∀ x∈l,∀ W,Below w.heap.size w W->Calls Tryz.prog fn (#[enc x]++cap) W fun e w'=>e=.returned (.string (f x))/\Below W.heap.size W w'
def OS (w:World) (B:Nat) (v:Value) (l:List ByteArray):Prop:=w.ownsRow B 9 1 v l.length (l.map Value.string)
theorem OS.form {w:World} {B:Nat} {v:Value} {l:List ByteArray} (h:OS w B v l):∃ a c,v=.slice a l.length c/\l.length<=c/\(l=[]\/∃ b,a=some ⟨b,0,none⟩/\b<w.heap.size/\∀ j x,l[j]?=some x->w.cell? ⟨b,0+j,none⟩=some (.string x)):=by
 rcases h.2 with ⟨h1,h2⟩ | ⟨b,cap,cur,h1,h2,h3,h4,_⟩
 ·exact ⟨none,0,by rw [h1,h2],by omega,.inl (List.eq_nil_of_length_eq_zero h2)⟩
 ·subst h1
  refine ⟨_,_,rfl,h4,.inr ⟨b,rfl,(Array.getElem?_eq_some_iff.1 h3).1,fun j x hj=>?_⟩⟩
  have hlt:=(List.getElem?_eq_some_iff.1 hj).1
  have:=World.ownsRow.cellAt h j (by omega)
  rw [Nat.zero_add,this]
  simp [hj]
theorem vi (fn:Nat) (cap:Array Value) (hent:∀ (a:Array Value) (W:World),(callFunc fn a).run Tryz.prog W=.ok (.enter fn a) W) (f:Int->ByteArray) (l:List Int) (a:Option Addr) (c:Nat) (w:World) (hl:aG w a l) (hn:l.length<=4096) (hf:mv w fn cap (Value.int .i64) f l) :
 Calls Tryz.prog 115 #[.slice a l.length c,.func (.func fn) #[] cap] w fun e w'=>∃ v,e=.returned v/\OS w' w.heap.size v (l.map f)/\Below w.heap.size w w':=by
 obtain ⟨i0,hi0,hz0,hz1,hz2⟩:=info_parts rI
 have HL:=jg hl
 have HF:=jg hf
 go_in
 go_wp2_with fail
 go_loopg [5,10] l.length (fun gk s i wr=>∃ j:Nat,gk+j=l.length/\i=.int .i64 j/\OS wr w.heap.size s ((l.take j).map f)/\Below w.heap.size w wr)
 case atStart=>exact ⟨0,by omega,rfl,World.ownsRow_nil _ _ _ _,bR⟩
 case round=>
  obtain ⟨j,hgk,rfl,hos,hbr⟩:=hrel
  have hjl:j<=l.length:=by omega
  have hlj:((l.take j).map f).length=j:=by rw [List.length_map,List.length_take];omega
  obtain ⟨sa,sc,rfl,-⟩:=hos.form
  have HOS:Hid (wr.ownsRow w.heap.size 9 1 (.slice sa j sc) j (((l.take j).map f).map Value.string)):=by
   have h:=hos
   unfold OS at h
   rw [hlj] at h
   exact h
  have HBR:=jg hbr
  rw [hlj]
  by_cases hlt:j<l.length
  ·have hji:(j:Int)<(l.length:Int):=by omega
   have HTK:Hid ((l.take (j+1)).map f=(l.take j).map f++[f l[j]]):=by rw [Hid,List.take_succ_eq_append_getElem hlt,List.map_append];rfl
   obtain ⟨b,off,rfl,d0⟩:=(HL.out.later HBR.out) j hlt
   have HBW:Hid (Below wr.heap.size wr wr):=bR
   have HBX:=jg HBR.out
   have HG:=jg (HF.out l[j] (List.getElem_mem hlt))
   generalize hX:f l[j]=X at *
   generalize hACC:(l.take j).map f=acc at *
   have hal:=hlj
   go_wp2_with fail
   refine (HG.out _ HBX.out).mono ?_
   rintro e w2 ⟨rfl,b2⟩
   have HB2:=jg (HBX.out.trans (b2.mono HBX.out.size))
   have HOS2:=jg (aO (aO HOS.out HBW.out) b2)
   have hz2':=HB2.out.size
   go_wp2_with (first
    | (at_builtin;refine wpList_append_own_at _ rfl _ _ 40 rfl w.heap.size 9 i0 (.string ⟨#[]⟩) 1 16 Tryz.underlying40 hi0 hz0 hz1 hz2 rfl (by decide) _ j (acc.map Value.string) rfl (World.ownsRow.alloc HOS2.out _) ⟨w2.heap.size,0,none⟩ 1 1 [.string X] rfl rfl ?g1 ?g2 ?g3 ?g4 ?g5 ?_))
   case g1=>
    intro i u hi
    match i,hi with
    | 0,hi=>simp at hi;subst hi;simp [Addr.add]
   case g2=>intro u hu;simp at hu;subst hu;rfl
   case g3=>unfold maxLen;omega
   case g4=>omega
   case g5=>simp;omega
   intro v' w5 hown' hgrow _ hat
   have HOS5:Hid (OS w5 w.heap.size v' (acc++[X])):=by
    unfold Hid OS
    rw [List.length_append,List.map_append,hal]
    exact hown'
   have HW5:=jg ((HB2.out.alloc HB2.out.size _).grown hgrow (by simp;omega) (fun k hk=>(World.ownsRow.lt HOS2.out k hk).1))
   obtain ⟨a5,c5',hv5,-⟩:=HOS5.out.form
   rw [List.length_append,hal] at hv5
   subst hv5
   go_wp2_with fail
   go_roundg (gk-1)
   case measure=>omega
   case rel=>exact ⟨j+1,by omega,by go_num,by rw [HTK.out];exact HOS5.out,HW5.out⟩
  ·obtain rfl:j=l.length:=by omega
   have hji:¬ ((l.length:Nat):Int)<(l.length:Int):=by omega
   have HOF:Hid (OS wr w.heap.size (.slice sa l.length sc) (l.map f)):=by
    have h:=HOS.out
    rw [List.take_of_length_le lR] at h
    unfold Hid OS
    rw [List.length_map]
    exact h
   go_wp2_with fail
   go_ret
   exact ⟨.slice sa l.length sc,rfl,HOF.out,HBR.out⟩
theorem wg (fn:Nat) (cap:Array Value) (hent:∀ (a:Array Value) (W:World),(callFunc fn a).run Tryz.prog W=.ok (.enter fn a) W) (f:Co->ByteArray) (l:List Co) (a:Option Addr) (c:Nat) (w:World) (hl:ap w a l) (hn:l.length<=4096) (hf:mv w fn cap (fun x:Co=>Value.agg #[.string x.nm,.int .i64 x.k]) f l) :
 Calls Tryz.prog 166 #[.slice a l.length c,.func (.func fn) #[] cap] w fun e w'=>∃ v,e=.returned v/\OS w' w.heap.size v (l.map f)/\Below w.heap.size w w':=by
 obtain ⟨i0,hi0,hz0,hz1,hz2⟩:=info_parts rI
 have HL:=jg hl
 have HF:=jg hf
 go_in
 go_wp2_with fail
 go_loopg [5,10] l.length (fun gk s i wr=>∃ j:Nat,gk+j=l.length/\i=.int .i64 j/\OS wr w.heap.size s ((l.take j).map f)/\Below w.heap.size w wr)
 case atStart=>exact ⟨0,by omega,rfl,World.ownsRow_nil _ _ _ _,bR⟩
 case round=>
  obtain ⟨j,hgk,rfl,hos,hbr⟩:=hrel
  have hjl:j<=l.length:=by omega
  have hlj:((l.take j).map f).length=j:=by rw [List.length_map,List.length_take];omega
  obtain ⟨sa,sc,rfl,-⟩:=hos.form
  have HOS:Hid (wr.ownsRow w.heap.size 9 1 (.slice sa j sc) j (((l.take j).map f).map Value.string)):=by
   have h:=hos
   unfold OS at h
   rw [hlj] at h
   exact h
  have HBR:=jg hbr
  rw [hlj]
  by_cases hlt:j<l.length
  ·have hji:(j:Int)<(l.length:Int):=by omega
   have HTK:Hid ((l.take (j+1)).map f=(l.take j).map f++[f l[j]]):=by rw [Hid,List.take_succ_eq_append_getElem hlt,List.map_append];rfl
   obtain ⟨b,off,rfl,d0,d1⟩:=(HL.out.later HBR.out) j hlt
   have HBW:Hid (Below wr.heap.size wr (wr.alloc (.cells #[.string l[j].nm,.int .i64 l[j].k] 95))):=ae _ _
   have HBX:Hid (Below w.heap.size w (wr.alloc (.cells #[.string l[j].nm,.int .i64 l[j].k] 95))):=HBR.out.trans ((ae wr _).mono HBR.out.size)
   have HG:=jg (HF.out l[j] (List.getElem_mem hlt))
   generalize hX:f l[j]=X at *
   generalize hACC:(l.take j).map f=acc at *
   have hal:=hlj
   go_wp2_with fail
   refine (HG.out _ HBX.out).mono ?_
   rintro e w2 ⟨rfl,b2⟩
   have HB2:=jg (HBX.out.trans (b2.mono HBX.out.size))
   have HOS2:=jg (aO (aO HOS.out HBW.out) b2)
   have hz2':=HB2.out.size
   go_wp2_with (first
    | (at_builtin;refine wpList_append_own_at _ rfl _ _ 40 rfl w.heap.size 9 i0 (.string ⟨#[]⟩) 1 16 Tryz.underlying40 hi0 hz0 hz1 hz2 rfl (by decide) _ j (acc.map Value.string) rfl (World.ownsRow.alloc HOS2.out _) ⟨w2.heap.size,0,none⟩ 1 1 [.string X] rfl rfl ?g1 ?g2 ?g3 ?g4 ?g5 ?_))
   case g1=>
    intro i u hi
    match i,hi with
    | 0,hi=>simp at hi;subst hi;simp [Addr.add]
   case g2=>intro u hu;simp at hu;subst hu;rfl
   case g3=>unfold maxLen;omega
   case g4=>omega
   case g5=>simp;omega
   intro v' w5 hown' hgrow _ hat
   have HOS5:Hid (OS w5 w.heap.size v' (acc++[X])):=by
    unfold Hid OS
    rw [List.length_append,List.map_append,hal]
    exact hown'
   have HW5:=jg ((HB2.out.alloc HB2.out.size _).grown hgrow (by simp;omega) (fun k hk=>(World.ownsRow.lt HOS2.out k hk).1))
   obtain ⟨a5,c5',hv5,-⟩:=HOS5.out.form
   rw [List.length_append,hal] at hv5
   subst hv5
   go_wp2_with fail
   go_roundg (gk-1)
   case measure=>omega
   case rel=>exact ⟨j+1,by omega,by go_num,by rw [HTK.out];exact HOS5.out,HW5.out⟩
  ·obtain rfl:j=l.length:=by omega
   have hji:¬ ((l.length:Nat):Int)<(l.length:Int):=by omega
   have HOF:Hid (OS wr w.heap.size (.slice sa l.length sc) (l.map f)):=by
    have h:=HOS.out
    rw [List.take_of_length_le lR] at h
    unfold Hid OS
    rw [List.length_map]
    exact h
   go_wp2_with fail
   go_ret
   exact ⟨.slice sa l.length sc,rfl,HOF.out,HBR.out⟩
theorem vH (fn:Nat) (cap:Array Value) (hent:∀ (a:Array Value) (W:World),(callFunc fn a).run Tryz.prog W=.ok (.enter fn a) W) (f:Oo.Ag->ByteArray) (l:List Oo.Ag) (a:Option Addr) (c:Nat) (w:World) (hl:eR w a l) (hn:l.length<=4096) (hf:mv w fn cap (fun x:Oo.Ag=>Value.agg #[.int .i64 x.k,.int .i64 x.at_]) f l) :
 Calls Tryz.prog 112 #[.slice a l.length c,.func (.func fn) #[] cap] w fun e w'=>∃ v,e=.returned v/\OS w' w.heap.size v (l.map f)/\Below w.heap.size w w':=by
 obtain ⟨i0,hi0,hz0,hz1,hz2⟩:=info_parts rI
 have HL:=jg hl
 have HF:=jg hf
 go_in
 go_wp2_with fail
 go_loopg [5,10] l.length (fun gk s i wr=>∃ j:Nat,gk+j=l.length/\i=.int .i64 j/\OS wr w.heap.size s ((l.take j).map f)/\Below w.heap.size w wr)
 case atStart=>exact ⟨0,by omega,rfl,World.ownsRow_nil _ _ _ _,bR⟩
 case round=>
  obtain ⟨j,hgk,rfl,hos,hbr⟩:=hrel
  have hjl:j<=l.length:=by omega
  have hlj:((l.take j).map f).length=j:=by rw [List.length_map,List.length_take];omega
  obtain ⟨sa,sc,rfl,-⟩:=hos.form
  have HOS:Hid (wr.ownsRow w.heap.size 9 1 (.slice sa j sc) j (((l.take j).map f).map Value.string)):=by
   have h:=hos
   unfold OS at h
   rw [hlj] at h
   exact h
  have HBR:=jg hbr
  rw [hlj]
  by_cases hlt:j<l.length
  ·have hji:(j:Int)<(l.length:Int):=by omega
   have HTK:Hid ((l.take (j+1)).map f=(l.take j).map f++[f l[j]]):=by rw [Hid,List.take_succ_eq_append_getElem hlt,List.map_append];rfl
   obtain ⟨b,off,rfl,d0,d1⟩:=(HL.out.later HBR.out) j hlt
   have HBW:Hid (Below wr.heap.size wr (wr.alloc (.cells #[.int .i64 l[j].k,.int .i64 l[j].at_] 168))):=ae _ _
   have HBX:Hid (Below w.heap.size w (wr.alloc (.cells #[.int .i64 l[j].k,.int .i64 l[j].at_] 168))):=HBR.out.trans ((ae wr _).mono HBR.out.size)
   have HG:=jg (HF.out l[j] (List.getElem_mem hlt))
   generalize hX:f l[j]=X at *
   generalize hACC:(l.take j).map f=acc at *
   have hal:=hlj
   go_wp2_with fail
   refine (HG.out _ HBX.out).mono ?_
   rintro e w2 ⟨rfl,b2⟩
   have HB2:=jg (HBX.out.trans (b2.mono HBX.out.size))
   have HOS2:=jg (aO (aO HOS.out HBW.out) b2)
   have hz2':=HB2.out.size
   go_wp2_with (first
    | (at_builtin;refine wpList_append_own_at _ rfl _ _ 40 rfl w.heap.size 9 i0 (.string ⟨#[]⟩) 1 16 Tryz.underlying40 hi0 hz0 hz1 hz2 rfl (by decide) _ j (acc.map Value.string) rfl (World.ownsRow.alloc HOS2.out _) ⟨w2.heap.size,0,none⟩ 1 1 [.string X] rfl rfl ?g1 ?g2 ?g3 ?g4 ?g5 ?_))
   case g1=>
    intro i u hi
    match i,hi with
    | 0,hi=>simp at hi;subst hi;simp [Addr.add]
   case g2=>intro u hu;simp at hu;subst hu;rfl
   case g3=>unfold maxLen;omega
   case g4=>omega
   case g5=>simp;omega
   intro v' w5 hown' hgrow _ hat
   have HOS5:Hid (OS w5 w.heap.size v' (acc++[X])):=by
    unfold Hid OS
    rw [List.length_append,List.map_append,hal]
    exact hown'
   have HW5:=jg ((HB2.out.alloc HB2.out.size _).grown hgrow (by simp;omega) (fun k hk=>(World.ownsRow.lt HOS2.out k hk).1))
   obtain ⟨a5,c5',hv5,-⟩:=HOS5.out.form
   rw [List.length_append,hal] at hv5
   subst hv5
   go_wp2_with fail
   go_roundg (gk-1)
   case measure=>omega
   case rel=>exact ⟨j+1,by omega,by go_num,by rw [HTK.out];exact HOS5.out,HW5.out⟩
  ·obtain rfl:j=l.length:=by omega
   have hji:¬ ((l.length:Nat):Int)<(l.length:Int):=by omega
   have HOF:Hid (OS wr w.heap.size (.slice sa l.length sc) (l.map f)):=by
    have h:=HOS.out
    rw [List.take_of_length_le lR] at h
    unfold Hid OS
    rw [List.length_map]
    exact h
   go_wp2_with fail
   go_ret
   exact ⟨.slice sa l.length sc,rfl,HOF.out,HBR.out⟩
theorem j9 (sep:ByteArray) (l:List ByteArray) (B:Nat) (v:Value) (w:World) (h:OS w B v l) (hn:l.length<=4096) (hz:(jn sep l).size<=140737488355328) :
 Calls Tryz.prog 101 #[v,.string sep] w fun e w'=>e=.returned (.string (jn sep l))/\Below w.heap.size w w':=by
 obtain ⟨a,c,rfl,hc,h0 | ⟨b,rfl,hb,hcell⟩⟩:=h.form
 ·subst h0
  refine (Tryz.strings_Join_none a c sep w).mono ?_
  rintro e w' ⟨rfl,rfl⟩
  exact ⟨rfl,bR⟩
 ·refine (Tryz.strings_Join b 0 c l sep w hcell hb (by omega) hc ?_).mono ?_
  ·have e:(jn sep l).size=(Lib.join (l.map (·.data.toList)) sep.data.toList).length:=by
    unfold jn
    show (Lib.join _ _).toArray.size=_
    rw [List.size_toArray]
   rw [<-e]
   exact hz
  ·rintro e w' ⟨rfl,hb2⟩
   exact ⟨rfl,hb2⟩
theorem mO (fn:Nat) (cap:Array Value) (hent:∀ (a:Array Value) (W:World),(callFunc fn a).run Tryz.prog W=.ok (.enter fn a) W) (f:Int->ByteArray) (l:List Int) (a:Option Addr) (c:Nat) (w:World) (hl:aG w a l) (hn:l.length<=4096) (hf:mv w fn cap (Value.int .i64) f l) (hz:(jn eL (l.map f)).size<=140737488355328) :
 Calls Tryz.prog 59 #[.slice a l.length c,.func (.func fn) #[] cap] w fun e w'=>e=.returned (.string (jn eL (l.map f)))/\Below w.heap.size w w':=by
 have HT:=jg (vi fn cap hent f l a c w hl hn hf)
 have HJ:Hid (∀ v w1,OS w1 w.heap.size v (l.map f)->Calls Tryz.prog 101 #[v,.string ⟨#[44,32]⟩] w1 fun e w'=>e=.returned (.string (jn eL (l.map f)))/\Below w1.heap.size w1 w'):=fun v w1 h=>j9 eL (l.map f) w.heap.size v w1 h (by simp;omega) hz
 generalize jn eL (l.map f)=JJ at *
 generalize l.map f=LF at *
 go_in
 go_wp2_with fail
 refine HT.out.mono ?_
 rintro e w1 ⟨v,rfl,hO,hb⟩
 obtain ⟨a1,c1,rfl,-⟩:=hO.form
 have HJ1:=jg (HJ.out _ w1 hO)
 have HB:=jg hb
 go_wp2_with fail
 refine HJ1.out.mono ?_
 rintro e w2 ⟨rfl,hb2⟩
 have HB2:=jg (HB.out.trans (hb2.mono HB.out.size))
 go_wp2_with fail
 go_ret
 exact ⟨rfl,HB2.out⟩
theorem sK (fn:Nat) (cap:Array Value) (hent:∀ (a:Array Value) (W:World),(callFunc fn a).run Tryz.prog W=.ok (.enter fn a) W) (f:Co->ByteArray) (l:List Co) (a:Option Addr) (c:Nat) (w:World) (hl:ap w a l) (hn:l.length<=4096) (hf:mv w fn cap (fun x:Co=>Value.agg #[.string x.nm,.int .i64 x.k]) f l) (hz:(jn eL (l.map f)).size<=140737488355328) :
 Calls Tryz.prog 104 #[.slice a l.length c,.func (.func fn) #[] cap] w fun e w'=>e=.returned (.string (jn eL (l.map f)))/\Below w.heap.size w w':=by
 have HT:=jg (wg fn cap hent f l a c w hl hn hf)
 have HJ:Hid (∀ v w1,OS w1 w.heap.size v (l.map f)->Calls Tryz.prog 101 #[v,.string ⟨#[44,32]⟩] w1 fun e w'=>e=.returned (.string (jn eL (l.map f)))/\Below w1.heap.size w1 w'):=fun v w1 h=>j9 eL (l.map f) w.heap.size v w1 h (by simp;omega) hz
 generalize jn eL (l.map f)=JJ at *
 generalize l.map f=LF at *
 go_in
 go_wp2_with fail
 refine HT.out.mono ?_
 rintro e w1 ⟨v,rfl,hO,hb⟩
 obtain ⟨a1,c1,rfl,-⟩:=hO.form
 have HJ1:=jg (HJ.out _ w1 hO)
 have HB:=jg hb
 go_wp2_with fail
 refine HJ1.out.mono ?_
 rintro e w2 ⟨rfl,hb2⟩
 have HB2:=jg (HB.out.trans (hb2.mono HB.out.size))
 go_wp2_with fail
 go_ret
 exact ⟨rfl,HB2.out⟩
end Jp
namespace Jp
open Go.RowKit Go.Maps Go.WideShapes Oo
section
variable {P:Program} {k:TypeId} {κ:Type} [DecidableEq κ] {kd:fa P k κ}
theorem ul (kd:fa P k κ) (K:Keyed P k) (a b:κ) (ha:kd.ok a) (hb:kd.ok b):(kd.kl a).sameKey (kd.kl b)=true↔a=b:=by
 constructor
 ·intro h
  exact kd.inj _ _ ha hb (WideAt.sameKey_eq h)
 ·rintro rfl;exact WideAt.sameKey_self (K.key (kd.key a ha))
theorem jX {α β:Type} {f:α->β} {l:List α} (h:(l.map f).Nodup):l.Nodup:=(List.pairwise_map.1 h).imp (fun hne e=>hne (congrArg _ e))
def fD (kd:fa P k κ) (m:List (κ × Value)) (left:Lit->Bool) (cs:List (κ × Value)):Prop:=(cs.map (·.1)).Nodup/\(∀ p∈cs,p∈m)/\∀ p∈m,(p∈cs↔left (kd.kl p.1)=false)
theorem fD.start {m:List (κ × Value)} {es:List (Lit × DataW Value)} (K:Keyed P k) (hp:es.Perm (oV kd m)) (hok:∀ p∈m,kd.ok p.1) (hn:(m.map (·.1)).Nodup):fD kd m (Maps.has (DataW.map es)) []:=by
 refine ⟨List.nodup_nil,(fun p h=>by cases h),fun p hpm=>?_⟩
 have hf:=pG (kd:=kd) K hp hok hn (hok p hpm)
 have:Maps.has (DataW.map es) (kd.kl p.1)=true:=by
  rw [has_eq,List.any_eq_true,<-List.find?_isSome,hf,Option.isSome_map,pz hn (show (p.1,p.2)∈m from hpm)];rfl
 rw [this];simp
theorem fD.step {m cs:List (κ × Value)} {left:Lit->Bool} {x:κ} {c:Value} (K:Keyed P k) (h:fD kd m left cs) (hn:(m.map (·.1)).Nodup) (hok:∀ p∈m,kd.ok p.1) (hx:(x,c)∈m) (hl:left (kd.kl x)=true):fD kd m (fun z=>left z&&!z.sameKey (kd.kl x)) (cs++[(x,c)]):=by
 have hfx:=hok _ hx
 have hnew:(x,c)∉cs:=fun hc=>by have:=(h.2.2 _ hx).1 hc;rw [hl] at this;cases this
 have uniq:∀ p∈m,p.1=x->p=(x,c):=fun p hp e=>by
  have h1:=pz hn (show (x,p.2)∈m by rw [<-e];exact hp)
  have h2:=pz hn hx
  rw [h1] at h2
  rw [<-e]
  exact Prod.ext rfl (sI h2)
 refine ⟨?_,fun p hp=>?_,fun p hp=>?_⟩
 ·rw [List.map_append,List.nodup_append]
  refine ⟨h.1,by simp,fun a ha b hb e=>?_⟩
  simp at hb
  obtain ⟨p,hp,rfl⟩:=List.mem_map.1 ha
  have:=uniq p (h.2.1 p hp) (by rw [e,hb])
  exact hnew (this▸hp)
 ·rcases List.mem_append.1 hp with hp | hp
  ·exact h.2.1 p hp
  ·rw [List.mem_singleton.1 hp];exact hx
 ·by_cases e:p.1=x
  ·have:=uniq p hp e
   subst this
   have hs:=(ul kd K x x hfx hfx).2 rfl
   simp [hs]
  ·have hs:(kd.kl p.1).sameKey (kd.kl x)=false:=by
    cases hh:(kd.kl p.1).sameKey (kd.kl x) with
    | false=>rfl
    | true=>exact absurd ((ul kd K _ _ (hok p hp) hfx).1 hh) e
   have hne:p≠(x,c):=fun e'=>e (by rw [e'])
   simp [h.2.2 p hp,hs,hne]
theorem fD.all {m cs:List (κ × Value)} {left:Lit->Bool} (h:fD kd m left cs) (hn:(m.map (·.1)).Nodup) (hl:∀ kl,left kl=false):cs.Perm m:=by
 have n1:=jX h.1
 have n2:=jX hn
 exact (List.perm_ext_iff_of_nodup n1 n2).2 fun p=>⟨fun hp=>h.2.1 p hp,fun hp=>(h.2.2 p hp).2 (hl _)⟩
theorem ue {m:List (κ × Value)} {es:List (Lit × DataW Value)} (K:Keyed P k) (hes:es.Perm (oV kd m)) (hok:∀ p∈m,kd.ok p.1) (hn:(m.map (·.1)).Nodup) {x:κ} {c:Value} (hx:kd.ok x) (hat:∀ zd,(DataW.map es).atKey (kd.kl x) zd=.held c):(x,c)∈m:=by
 have hf:=pG (kd:=kd) K hes hok hn hx
 have h1:=hat .nil
 simp only [DataW.atKey,hf] at h1
 cases hq:pU m x with
 | none=>rw [hq] at h1;simp at h1
 | some v=>
  rw [hq] at h1
  simp at h1
  rw [<-h1];exact uE hq
end
theorem lK {key:Value} {kl:Lit} (h:keyOf Tryz.prog 9 key=some kl):∃ s:ByteArray,key=.string s/\sk.ok s/\kl=sk.kl s:=by
 unfold keyOf at h
 rw [Tryz.underlying9] at h
 cases key<;>simp [mapKey] at h
 obtain ⟨h1,rfl⟩:=h
 exact ⟨_,rfl,h1,rfl⟩
theorem wb (ws:List (ByteArray × Int)) (b:Nat) (k:Int) (s:ByteArray) (w:World) (h:WM w b ws) (hk:(s,k)∈ws) (hu:∀ p∈ws,p.2=k->p.1=s) (hl:ws.length<=100) :
 Calls Tryz.prog 106 #[.map (some b),.int .i64 k] w fun e w'=>e=.returned (.string s)/\Below w.heap.size w w':=by
 obtain ⟨es,ho,hp,hok,hn⟩:=h
 have HPM:=jg hp
 have HOK:=jg hok
 have HN:=jg hn
 have HST:=jg (fD.start (kd:=sk) K9 hp hok hn)
 have HK:=jg hk
 have HU:=jg hu
 have hbl:=ho.lt
 rw [List.length_map] at ho
 go_in
 go_wp2_with (first
  | (at_range;refine wpList_range_own _ rfl _ 160 rfl 9 _ K9 Tryz.underlying160 _ b _ _ rfl ho ?_;intro w0 hrg0 hg0 hs0)
  | fail)
 have HS0:Hid (w0.ranges Tryz.prog 9 gD b w.heap.size ws.length (DataW.map es) (Maps.has (DataW.map es)) (Maps.size (DataW.map es))/\fD sk (ws.map fun p=>(p.1,Value.int .i64 p.2)) (Maps.has (DataW.map es)) []/\Below w.heap.size w w0):=
  ⟨hrg0,HST.out,⟨hg0.os,hg0.tape,hg0.output,hg0.size,fun i hi=>hg0.block i hi (by simp)⟩⟩
 go_frame
 go_loopw [9] (fun _ wr=>∃ left cnt cs,wr.ranges Tryz.prog 9 gD b w.heap.size ws.length (DataW.map es) left cnt/\fD sk (ws.map fun p=>(p.1,Value.int .i64 p.2)) left cs/\Below w.heap.size w wr/\∀ p∈cs,p.2≠.int .i64 k) (fun _ wr=>wr.rangeLeft b w.heap.size)
 case atStart=>exact ⟨_,_,[],HS0.out.1,HS0.out.2.1,HS0.out.2.2,fun p hp=>by cases hp⟩
 case round=>
  obtain ⟨left,cnt,cs,hrg,hcol,hbw,hno⟩:=hrel
  have HCOL:=jg hcol
  have HBW:=jg hbw
  have HNO:=jg hno
  have HRG:=jg hrg
  go_wp2_with (first
   | (at_next;refine wpList_next_ranges _ rfl _ rfl 9 K9 gD (fun s=>.string s) id (fun key kl hk=>by obtain ⟨x,hx,_⟩:=lK hk;exact ⟨x,hx⟩) (fun v _ _=>⟨v,rfl⟩) b w.heap.size ws.length _ _ _ rfl hrg ?_ ?_)
   | go_in)
  ·intro hc0 hl0
   exfalso
   have hpm:=HCOL.out.all HN.out hl0
   exact HNO.out (s,.int .i64 k) (hpm.mem_iff.2 (List.mem_map.2 ⟨(s,k),HK.out,rfl⟩)) rfl
  ·intro x c kl yd yp w2 cnt2 hkey hlk hv hat hrg2 hlt hg2 hs2 hen
   obtain ⟨x',ex,hfx,rfl⟩:=lK hkey
   obtain rfl:x=x':=by simpa using ex
   simp only [gD,id,Option.some.injEq,Prod.mk.injEq] at hv
   obtain ⟨rfl,rfl⟩:=hv
   have hxc:=ue (kd:=sk) K9 HPM.out HOK.out HN.out hfx hat
   obtain ⟨p,hps,ent⟩:=List.mem_map.1 hxc
   obtain ⟨rfl,rfl⟩:p.1=x/\Value.int .i64 p.2=c:=by simpa using ent
   have hlr:=hrg.lt
   have HR2:=jg hrg2
   have HB2:=jg (HBW.out.grown hg2 HBW.out.size (fun j e=>by cases e;omega))
   have HC2:=jg (fD.step (kd:=sk) K9 HCOL.out HN.out HOK.out hxc hlk)
   have HLT:Hid (w2.rangeLeft b w.heap.size<wr.rangeLeft b w.heap.size):=by rw [Hid,hrg2.left_eq,hrg.left_eq];exact hlt
   have HP:=jg hps
   try simp only [id] at hen ⊢
   by_cases he:p.2=k
   ·have hs:=HU.out p hps he
    have heb:(p.2==k)=true:=by simp [he]
    go_wp2_with fail
    go_ret
    exact ⟨by first | rfl | (rw [hs];rfl),HB2.out⟩
   ·have heb:(p.2==k)=false:=by simp [he]
    go_wp2_with fail
    refine ⟨⟨_,_,_,HR2.out,HC2.out,HB2.out,fun q hq=>?_⟩,HLT.out⟩
    rcases List.mem_append.1 hq with hq | hq
    ·exact HNO.out q hq
    ·rw [List.mem_singleton.1 hq]
     intro e
     exact he (by injection e)
theorem nG (ws:List (ByteArray × Int)) (b:Nat) (k:Int) (s:ByteArray) (w:World) (h:WM w b ws) (hk:(s,k)∈ws) (hu:∀ p∈ws,p.2=k->p.1=s) (hl:ws.length<=100) :
 Calls Tryz.prog 110 #[.map (some b),.int .i64 k] w fun e w'=>e=.returned (.string s)/\Below w.heap.size w w':=by
 obtain ⟨es,ho,hp,hok,hn⟩:=h
 have HPM:=jg hp
 have HOK:=jg hok
 have HN:=jg hn
 have HST:=jg (fD.start (kd:=sk) K9 hp hok hn)
 have HK:=jg hk
 have HU:=jg hu
 have hbl:=ho.lt
 rw [List.length_map] at ho
 go_in
 go_wp2_with (first
  | (at_range;refine wpList_range_own _ rfl _ 164 rfl 9 _ K9 Tryz.underlying164 _ b _ _ rfl ho ?_;intro w0 hrg0 hg0 hs0)
  | fail)
 have HS0:Hid (w0.ranges Tryz.prog 9 gD b w.heap.size ws.length (DataW.map es) (Maps.has (DataW.map es)) (Maps.size (DataW.map es))/\fD sk (ws.map fun p=>(p.1,Value.int .i64 p.2)) (Maps.has (DataW.map es)) []/\Below w.heap.size w w0):=
  ⟨hrg0,HST.out,⟨hg0.os,hg0.tape,hg0.output,hg0.size,fun i hi=>hg0.block i hi (by simp)⟩⟩
 go_frame
 go_loopw [9] (fun _ wr=>∃ left cnt cs,wr.ranges Tryz.prog 9 gD b w.heap.size ws.length (DataW.map es) left cnt/\fD sk (ws.map fun p=>(p.1,Value.int .i64 p.2)) left cs/\Below w.heap.size w wr/\∀ p∈cs,p.2≠.int .i64 k) (fun _ wr=>wr.rangeLeft b w.heap.size)
 case atStart=>exact ⟨_,_,[],HS0.out.1,HS0.out.2.1,HS0.out.2.2,fun p hp=>by cases hp⟩
 case round=>
  obtain ⟨left,cnt,cs,hrg,hcol,hbw,hno⟩:=hrel
  have HCOL:=jg hcol
  have HBW:=jg hbw
  have HNO:=jg hno
  have HRG:=jg hrg
  go_wp2_with (first
   | (at_next;refine wpList_next_ranges _ rfl _ rfl 9 K9 gD (fun s=>.string s) id (fun key kl hk=>by obtain ⟨x,hx,_⟩:=lK hk;exact ⟨x,hx⟩) (fun v _ _=>⟨v,rfl⟩) b w.heap.size ws.length _ _ _ rfl hrg ?_ ?_)
   | go_in)
  ·intro hc0 hl0
   exfalso
   have hpm:=HCOL.out.all HN.out hl0
   exact HNO.out (s,.int .i64 k) (hpm.mem_iff.2 (List.mem_map.2 ⟨(s,k),HK.out,rfl⟩)) rfl
  ·intro x c kl yd yp w2 cnt2 hkey hlk hv hat hrg2 hlt hg2 hs2 hen
   obtain ⟨x',ex,hfx,rfl⟩:=lK hkey
   obtain rfl:x=x':=by simpa using ex
   simp only [gD,id,Option.some.injEq,Prod.mk.injEq] at hv
   obtain ⟨rfl,rfl⟩:=hv
   have hxc:=ue (kd:=sk) K9 HPM.out HOK.out HN.out hfx hat
   obtain ⟨p,hps,ent⟩:=List.mem_map.1 hxc
   obtain ⟨rfl,rfl⟩:p.1=x/\Value.int .i64 p.2=c:=by simpa using ent
   have hlr:=hrg.lt
   have HR2:=jg hrg2
   have HB2:=jg (HBW.out.grown hg2 HBW.out.size (fun j e=>by cases e;omega))
   have HC2:=jg (fD.step (kd:=sk) K9 HCOL.out HN.out HOK.out hxc hlk)
   have HLT:Hid (w2.rangeLeft b w.heap.size<wr.rangeLeft b w.heap.size):=by rw [Hid,hrg2.left_eq,hrg.left_eq];exact hlt
   have HP:=jg hps
   try simp only [id] at hen ⊢
   by_cases he:p.2=k
   ·have hs:=HU.out p hps he
    have heb:(p.2==k)=true:=by simp [he]
    go_wp2_with fail
    go_ret
    exact ⟨by first | rfl | (rw [hs];rfl),HB2.out⟩
   ·have heb:(p.2==k)=false:=by simp [he]
    go_wp2_with fail
    refine ⟨⟨_,_,_,HR2.out,HC2.out,HB2.out,fun q hq=>?_⟩,HLT.out⟩
    rcases List.mem_append.1 hq with hq | hq
    ·exact HNO.out q hq
    ·rw [List.mem_singleton.1 hq]
     intro e
     exact he (by injection e)
end Jp
end Go.Proofs.YtiiliobffnhpmaaGreatDoor
