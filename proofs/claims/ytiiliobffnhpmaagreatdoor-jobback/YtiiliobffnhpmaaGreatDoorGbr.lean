import Derived.Test.YtiiliobffnhpmaaGreatDoorGbm
set_option linter.all false
set_option maxRecDepth 100000
set_option maxHeartbeats 4000000
namespace Go.Proofs.YtiiliobffnhpmaaGreatDoor.Jp
open Go.RowKit Oo
theorem uy (l:List ByteArray):aE (l++[eB])=aE l:=by
 unfold aE
 rw [List.filter_append]
 congr 1
 exact List.append_nil _
theorem Be (a:ByteArray) (l:List ByteArray):aE (a::eB::l)=aE (a::l):=by
 unfold aE
 congr 1
theorem jZ {α:Type} (l:List α):l.map ((fun p:α × Unit=>p.1)∘fun j=>(j,()))=l:=by
 have:((fun p:α × Unit=>p.1)∘fun j=>(j,()))=id:=rfl
 rw [this,List.map_id]
theorem yQ {s x:ByteArray} (h:iX s) (hx:pF x=true):s≠x:=by
 intro e
 subst e
 rw [h.2] at hx
 cases hx
theorem jf {nodes:List aJ} {nm:ByteArray} {i:Int} (hn:iX nm) (hi:fC nodes i):aE [nm,aH,cg nodes i]≠eB/\Rd (aE [nm,aH,cg nodes i]).data.toList (fun line u=>∃ q1 q2 q3,u=[⟨q1,1,nm⟩,⟨q2,4,aH⟩,⟨q3,1,cg nodes i⟩]):=by
 have h3:=hi.nm.1
 refine ⟨iU (cQ hn) (aC gJ),?_⟩
 rw [ar (cQ hn) (aC gJ),ar (aC gJ) (cQ h3),bG (cQ h3)]
 refine ((dt hn).two ((Rd.one gJ).two (dt h3))).mono fun line u hu=>?_
 obtain ⟨u1,u2,rfl,⟨q,rfl⟩,u3,u4,rfl,⟨q3,rfl⟩,q4,rfl⟩:=hu
 exact ⟨q,q3,q4,rfl⟩
theorem eM {nodes:List aJ} {g:Int->List Co->List Tk->Except Nat ((eJ × List Int) × List Tk)} {E q2 q3:Nat} {nm:ByteArray} {i:Int} {rest rest':List Tk} {p:eJ × List Int} (hi:fC nodes i) (h:g i (ak nodes i) rest=.ok (p,rest')):gm nodes g E nm (⟨q2,4,aH⟩::⟨q3,1,cg nodes i⟩::rest)=.ok (⟨nm,p.1,p.2,[],0⟩,rest'):=by
 unfold gm
 rw [aW (by simp)]
 simp only [bnd]
 rw [tv hi]
 simp only
 rw [h]
theorem fx {rd:R1} {pf:P1} {nodes:List aJ} {line nm:ByteArray} {q:Nat} {rest:List Tk} (hn:iX nm):dx rd pf nodes line (⟨q,1,nm⟩::rest)=gm nodes (fun i cols ts=>cS rd pf nodes cols i line ts) line.size nm rest:=by
 have h1:cq line.size aX (⟨q,1,nm⟩::rest)=(false,⟨q,1,nm⟩::rest):=eZ (yQ hn (by decide))
 have h2:cq line.size cA (⟨q,1,nm⟩::rest)=(false,⟨q,1,nm⟩::rest):=eZ (yQ hn (by decide))
 unfold dx
 rw [h1]
 simp only
 rw [h2]
 simp only
 rw [ee hn]
 rfl
theorem th {rd:R1} {pf:P1} {nodes:List aJ} {line nm:ByteArray} {q q1:Nat} {rest:List Tk} (hn:iX nm):dx rd pf nodes line (⟨q,1,cA⟩::⟨q1,1,nm⟩::rest)=gm nodes qU line.size nm rest:=by
 have h1:cq line.size aX (⟨q,1,cA⟩::⟨q1,1,nm⟩::rest)=(false,⟨q,1,cA⟩::⟨q1,1,nm⟩::rest):=eZ (by show cA≠aX;decide)
 unfold dx
 rw [h1]
 simp only
 rw [gw]
 simp only
 rw [ee hn]
 rfl
theorem kg {rd:R1} {pf:P1} {nodes:List aJ} {line:ByteArray} {q:Nat} {rest:List Tk}:dx rd pf nodes line (⟨q,1,aX⟩::rest)=lD rd line.size rest:=by
 unfold dx
 rw [gw]
 rfl
theorem oY {α β:Type}:∀ l:List (α × β),(l.map (·.2)).zip (l.map (·.1))=l.map (fun p=>(p.2,p.1))
 | []=>rfl
 | p::l=>by simp only [List.map_cons,List.zip_cons_cons,oY l]
theorem oM {α β:Type}:∀ l:List (α × β),(l.map (·.1)).zip (l.map (·.2))=l
 | []=>rfl
 | p::l=>by simp only [List.map_cons,List.zip_cons_cons,oM l]
theorem An {cols:List Co} {E:Nat} {ts rest:List Tk} {l:List (Int × Unit)} (h:bg E (kT cols E) dw ts=.ok (l,rest)):(hd E ts).tx≠cP:=by
 intro e
 have hn:bm E ts=.error 1:=by
  unfold bm
  rw [if_neg (by rw [e];rintro ⟨_,h⟩;exact absurd h (by decide)),if_neg (by rw [e];rintro ⟨_,h⟩;exact absurd h (by decide))]
 unfold bg kT fK at h
 rw [hn] at h
 cases h
theorem AX {rd:R1} {pf:P1} {nodes:List aJ} {n:aJ} (hN:AF rd) (hX:Br pf) (h:jV rd pf nodes n):Rd (cH nodes n).data.toList (fun line u=>dx rd pf nodes line u=.ok (n,[])):=by
 cases h with
 | stream nm cs bd h1 h2 h3 h4 h5=>
  have hc:=Ak h4 h2
  have e:cH nodes ⟨nm,{ aB with k:=1,c:=cs },[],[],bd⟩=aE [aX,nm,jb++cy cs++ii,cC bd]:=rfl
  rw [e]
  have hp:jb++cy cs++ii≠eB:=iG (iG (by decide))
  have hpb:(jb++cy cs++ii).data.toList=40::((cy cs).data.toList++41::[]):=by rw [nA,nA];rfl
  by_cases hb:bd=0
  ·subst hb
   rw [show aE [aX,nm,jb++cy cs++ii,cC 0]=aE [aX,nm,jb++cy cs++ii] from uy [aX,nm,jb++cy cs++ii]]
   rw [ar (aC i7) (cQ h1),ar (cQ h1) hp,bG hp,hpb]
   refine ((Rd.one i7).two ((dt h1).two (Rd.sign (.inl rfl) (hc.app (pD _) (Rd.sign (c:=41) (.inr (.inl rfl)) Rd.nil))))).mono fun line u hu=>?_
   obtain ⟨u1,u2,rfl,⟨q,rfl⟩,u3,u4,rfl,⟨q3,rfl⟩,q5,u5,rfl,u6,u7,rfl,h6,q8,u8,rfl,rfl⟩:=hu
   simp only [List.cons_append,List.nil_append]
   rw [kg]
   unfold lD
   rw [ee h1]
   simp only [bnd]
   rw [aW (by simp [jb])]
   simp only
   rw [h6 (⟨q8,4,⟨#[41]⟩⟩::[]) (by show (⟨#[41]⟩:ByteArray)≠dw;decide)]
   simp only
   rw [aW (by simp [ii])]
   simp only
   rw [eZ (by show (⟨#[]⟩:ByteArray)≠dJ;decide)]
   rw [List.map_map,if_neg (by simp)]
   simp only [jZ]
  ·have h5':=h5.resolve_left hb
   obtain ⟨b1,b2⟩:=hN bd h5'
   have e2:cC bd=aE [dJ,gy bd]:=by unfold cC;rw [if_neg hb]
   rw [e2]
   have hl:=iU (l:=[]) (aC oC) (aC b1)
   rw [ar (aC i7) (cQ h1),ar (cQ h1) hp,ar hp hl,bG hl,hpb,ar (aC oC) (aC b1),bG (aC b1)]
   refine ((Rd.one i7).two ((dt h1).two ((Rd.sign (.inl rfl) (hc.app (pD _) (Rd.sign (c:=41) (.inr (.inl rfl)) Rd.nil))).two ((Rd.one oC).two (Rd.one b1))))).mono fun line u hu=>?_
   obtain ⟨u1,u2,rfl,⟨q,rfl⟩,u3,u4,rfl,⟨q3,rfl⟩,ua,ub,rfl,⟨q5,u5,rfl,u6,u7,rfl,h6,q8,u8,rfl,rfl⟩,u9,u10,rfl,⟨q9,rfl⟩,q10,rfl⟩:=hu
   simp only [List.cons_append,List.nil_append,List.append_assoc]
   rw [kg]
   unfold lD
   rw [ee h1]
   simp only [bnd]
   rw [aW (by simp [jb])]
   simp only
   rw [h6 (⟨q8,4,⟨#[41]⟩⟩::_) (by show (⟨#[41]⟩:ByteArray)≠dw;decide)]
   simp only
   rw [aW (by simp [ii])]
   simp only
   rw [gw]
   simp only [if_true]
   rw [lI b2]
   rw [List.map_map]
   simp only [jZ]
 | sink nm i h1 h2=>
  have e:cH nodes ⟨nm,{ aB with k:=7,c:=ak nodes i },[i],[],0⟩=aE [cA,aE [nm,aH,cg nodes i]]:=rfl
  obtain ⟨e0,hh⟩:=jf h1 h2
  rw [e,ar (aC oy) e0,bG e0]
  refine ((Rd.one oy).two hh).mono fun line u hu=>?_
  obtain ⟨u1,u2,rfl,⟨q,rfl⟩,q1,q2,q3,rfl⟩:=hu
  simp only [List.cons_append,List.nil_append]
  rw [th h1,eM h2 (p:=({ aB with k:=7,c:=ak nodes i },[i])) rfl]
 | wher nm i x h1 h2 h3=>
  have e:cH nodes ⟨nm,{ aB with k:=2,c:=ak nodes i,ex:=[x] },[i],[],0⟩=aE [aE [nm,aH,cg nodes i],ey,x]:=rfl
  obtain ⟨e0,hh⟩:=jf h1 h2
  obtain ⟨ex,hx⟩:=hX x h3
  rw [e,ar e0 (aC mU),ar (aC mU) ex,bG ex]
  refine (hh.two ((Rd.one mU).two hx)).mono fun line u hu=>?_
  obtain ⟨u1,u2,rfl,⟨q1,q2,q3,rfl⟩,u3,u4,rfl,⟨q,rfl⟩,hx⟩:=hu
  simp only [List.cons_append,List.nil_append]
  rw [fx h1,eM h2 (p:=({ aB with k:=2,c:=ak nodes i,ex:=[x] },[i])) (rest':=[]) ?_]
  show cS rd pf nodes (ak nodes i) i line (⟨q,1,ey⟩::u4)=_
  unfold cS
  rw [aW (by simp [ft])]
  simp only [bnd]
  have:=hx [] (.inl rfl)
  rw [List.append_nil] at this
  rw [if_pos trivial,this]
 | selct nm i l h1 h2 h3 h4 h5=>
  have e:cH nodes ⟨nm,{ aB with k:=3,c:=ak nodes i,ex:=l.map (·.2),nm:=l.map (·.1) },[i],[],0⟩=aE [aE [nm,aH,cg nodes i],dl,cE ((l.map (·.2)).zip (l.map (·.1)))]:=rfl
  obtain ⟨e0,hh⟩:=jf h1 h2
  rw [oY] at e
  have hl:Rd (cE (l.map fun p=>(p.2,p.1))).data.toList (fun line u=>∀ rest,True->(hd line.size rest).tx≠dw->bg line.size (kF (eU pf line) line.size) dw (u++rest)=.ok (l.map (fun p=>p),rest)):=by
   unfold cE
   rw [dp,List.map_map,List.map_map]
   refine iV _ (fun line ts=>kF (eU pf line) line.size ts) (fun p=>p) dw eL.data.toList (fun _ _=>True) mq jR (fun _ _ _ _=>trivial) l h3 (fun p hp=>?_)
   obtain ⟨a1,a2⟩:=h5 p hp
   obtain ⟨ex,hx⟩:=hX p.2 a2
   simp only [Function.comp]
   rw [ar ex (aC ll),ar (aC ll) (cQ a1),bG (cQ a1)]
   refine (hx.two ((Rd.one ll).two (dt a1))).mono fun line u hu rest _=>?_
   obtain ⟨u1,u2,rfl,h1,u3,u4,rfl,⟨q3,rfl⟩,q4,rfl⟩:=hu
   unfold kF
   rw [List.append_assoc,h1 _ (.inr (.inl rfl))]
   simp only [bnd,List.cons_append,List.nil_append]
   rw [aW (by simp)]
   simp only
   rw [ee a1]
  have ep:cE (l.map fun p=>(p.2,p.1))≠eB:=by
   cases l with
   | nil=>exact absurd rfl h3
   | cons p l=>
    intro e
    have h:=congrArg (fun x=>x.data.toList) e
    unfold cE at h
    obtain ⟨a1,a2⟩:=h5 p (by simp)
    obtain ⟨ex,hx⟩:=hX p.2 a2
    simp only [dp,List.map_cons,Lib.join_cons] at h
    rw [ar ex (aC ll)] at h
    have h':=congrArg List.length h
    simp [eB] at h'
  rw [e,ar e0 (aC kM),ar (aC kM) ep,bG ep]
  refine (hh.two ((Rd.one kM).two hl)).mono fun line u hu=>?_
  obtain ⟨u1,u2,rfl,⟨q1,q2,q3,rfl⟩,u3,u4,rfl,⟨q,rfl⟩,hx⟩:=hu
  simp only [List.cons_append,List.nil_append]
  rw [fx h1,eM h2 (p:=({ aB with k:=3,c:=ak nodes i,ex:=l.map (·.2),nm:=l.map (·.1) },[i])) (rest':=[]) ?_]
  show cS rd pf nodes (ak nodes i) i line (⟨q,1,dl⟩::u4)=_
  unfold cS
  rw [aW (by simp [ft])]
  simp only [bnd]
  have:=hx [] trivial (by show (⟨#[]⟩:ByteArray)≠dw;decide)
  rw [List.append_nil] at this
  rw [if_neg (by decide),if_pos trivial,this]
  simp
 | wind nm i ks v l h1 h2 h3 h4 h5 h6 h7=>
  have e:cH nodes ⟨nm,{ aB with k:=4,c:=ak nodes i,nm:=l.map (·.1),ks:=ks,wk:=v.1,ws:=v.2.1,wt:=v.2.2,ag:=l.map (·.2) },[i],[],0⟩=aE [aE [nm,aH,cg nodes i],pR,co (ak nodes i) ks,bQ v.1 v.2.1 v.2.2,cU (ak nodes i) (l.map (·.2)) (l.map (·.1))]:=rfl
  obtain ⟨e0,hh⟩:=jf h1 h2
  obtain ⟨ew,hw⟩:=wZ hN h6
  obtain ⟨C,hC⟩:∃ C,ak nodes i=C:=⟨_,rfl⟩
  rw [hC] at h5 h7 e ⊢
  have hk:co C ks≠eB/\Rd (co C ks).data.toList (fun line u=>∀ rest,(hd line.size rest).tx≠dw->me C line.size (u++rest)=.ok (ks,rest)):=by
   unfold co
   by_cases h0:ks=[]
   ·rw [if_pos h0]
    refine ⟨by decide,(Rd.one tQ).mono fun line u hu rest hne=>?_⟩
    obtain ⟨q,rfl⟩:=hu
    unfold me
    simp only [List.cons_append,List.nil_append]
    rw [gw]
    simp [h0]
   ·rw [if_neg h0]
    constructor
    ·cases ks with
     | nil=>exact absurd rfl h0
     | cons j l=>
      have hne:=cQ (h5 j (by simp)).nm.1
      intro e
      have h:=congrArg (fun x=>x.data.toList) e
      simp only [dp,List.map_cons,Lib.join_cons] at h
      apply hne
      apply ByteArray.ext
      apply Array.toList_inj.1
      have h2:=congrArg List.length h
      simp [eB] at h2
      rw [show (dO C j).data.toList=[] from List.eq_nil_of_length_eq_zero (by simpa using h2.1)]
      rfl
    ·rw [dp,List.map_map]
     refine (iV _ (fun line ts=>kT C line.size ts) (fun j=>(j,())) dw eL.data.toList (fun _ _=>True) mq jR (fun _ _ _ _=>trivial) ks h0 (fun j hj=>?_)).mono fun line u hu rest hne=>?_
     ·have a1:=h5 j hj
      refine (dt a1.nm.1).mono fun line u hu rest _=>?_
      obtain ⟨q,rfl⟩:=hu
      unfold kT
      simp only [List.cons_append,List.nil_append]
      rw [lH a1]
      rfl
     ·have h8:=hu rest trivial hne
      unfold me
      rw [eZ (An h8)]
      simp only
      rw [if_neg (by simp)]
      have h9:=h8
      rw [h9]
      simp only [bnd,List.map_map,jZ]
  obtain ⟨ek,hk⟩:=hk
  by_cases h0:l=[]
  ·subst h0
   rw [e,show aE [aE [nm,aH,cg nodes i],pR,co C ks,bQ v.1 v.2.1 v.2.2,cU C (([]:List (ByteArray × Oo.Ag)).map (·.2)) (([]:List (ByteArray × Oo.Ag)).map (·.1))]=aE [aE [nm,aH,cg nodes i],pR,co C ks,bQ v.1 v.2.1 v.2.2] from uy [aE [nm,aH,cg nodes i],pR,co C ks,bQ v.1 v.2.1 v.2.2]]
   rw [ar e0 (aC nQ),ar (aC nQ) ek,ar ek ew,bG ew]
   refine (hh.two ((Rd.one nQ).two (hk.two hw))).mono fun line u hu=>?_
   obtain ⟨u1,u2,rfl,⟨q1,q2,q3,rfl⟩,u3,u4,rfl,⟨q,rfl⟩,u5,u6,rfl,hx,⟨q6,u7,rfl⟩,hy⟩:=hu
   simp only [List.cons_append,List.nil_append]
   rw [fx h1,eM h2 (p:=({ aB with k:=4,c:=ak nodes i,ks:=ks,wk:=v.1,ws:=v.2.1,wt:=v.2.2 },[i])) (rest':=[]) ?_]
   ·rw [hC];rfl
   ·show cS rd pf nodes (ak nodes i) i line (⟨q,1,pR⟩::(u5++(⟨q6,1,ma⟩::u7)))=_
    rw [hC]
    unfold cS
    rw [aW (by simp [ft])]
    simp only [bnd]
    rw [if_neg (by decide),if_neg (by decide),if_pos trivial]
    unfold oS fX
    rw [hx _ (by show ma≠dw;decide)]
    simp only [bnd]
    have:=hy []
    rw [List.append_nil] at this
    rw [this]
    simp only
    rw [eZ (by show (⟨#[]⟩:ByteArray)≠eK;decide)]
    simp
  ·have ha:l.map (·.2)≠[]:=by simpa using h0
   have ea:cU C (l.map (·.2)) (l.map (·.1))=aE [eK,cE (l.map fun p=>(aS C p.2,p.1))]:=by
    unfold cU
    rw [if_neg ha]
    congr 3
    have:∀ m:List (ByteArray × Oo.Ag),((m.map (·.2)).map (aS C)).zip (m.map (·.1))=m.map fun p=>(aS C p.2,p.1):=by
     intro m
     induction m with
     | nil=>rfl
     | cons p m ih=>simp only [List.map_cons,List.zip_cons_cons,ih]
    rw [this l]
   have hl:Rd (cE (l.map fun p=>(aS C p.2,p.1))).data.toList (fun line u=>∀ rest,True->(hd line.size rest).tx≠dw->bg line.size (kB (jk C line.size) line.size) dw (u++rest)=.ok (l.map (fun p=>p),rest)):=by
    unfold cE
    rw [dp,List.map_map,List.map_map]
    refine iV _ (fun line ts=>kB (jk C line.size) line.size ts) (fun p=>p) dw eL.data.toList (fun _ _=>True) mq jR (fun _ _ _ _=>trivial) l h0 (fun p hp=>?_)
    obtain ⟨a1,a2⟩:=h7 p hp
    obtain ⟨ex,hx⟩:=uI a2
    simp only [Function.comp]
    rw [ar ex (aC ll),ar (aC ll) (cQ a1),bG (cQ a1)]
    refine (hx.two ((Rd.one ll).two (dt a1))).mono fun line u hu rest _=>?_
    obtain ⟨u1,u2,rfl,h1,u3,u4,rfl,⟨q3,rfl⟩,q4,rfl⟩:=hu
    unfold kB
    rw [List.append_assoc,h1 _]
    simp only [bnd,List.cons_append,List.nil_append]
    rw [aW (by simp)]
    simp only
    rw [ee a1]
   have et:cE (l.map fun p=>(aS C p.2,p.1))≠eB:=by
    cases l with
    | nil=>exact absurd rfl h0
    | cons p l=>
     intro e
     have h:=congrArg (fun x=>x.data.toList) e
     unfold cE at h
     obtain ⟨a1,a2⟩:=h7 p (by simp)
     obtain ⟨ex,hx⟩:=uI a2
     simp only [dp,List.map_cons,Lib.join_cons] at h
     rw [ar ex (aC ll)] at h
     have h':=congrArg List.length h
     simp [eB] at h'
   have eg:=iU (l:=[]) (aC pv) et
   rw [e,ea]
   rw [ar e0 (aC nQ),ar (aC nQ) ek,ar ek ew,ar ew eg,bG eg,ar (aC pv) et,bG et]
   refine (hh.two ((Rd.one nQ).two (hk.two (hw.two ((Rd.one pv).two hl))))).mono fun line u hu=>?_
   obtain ⟨u1,u2,rfl,⟨q1,q2,q3,rfl⟩,u3,u4,rfl,⟨q,rfl⟩,u5,u6,rfl,hx,u8,u9,rfl,⟨⟨q6,u7,rfl⟩,hy⟩,u10,u11,rfl,⟨q10,rfl⟩,hz⟩:=hu
   simp only [List.cons_append,List.nil_append]
   rw [fx h1,eM h2 (p:=({ aB with k:=4,c:=ak nodes i,nm:=l.map (·.1),ks:=ks,wk:=v.1,ws:=v.2.1,wt:=v.2.2,ag:=l.map (·.2) },[i])) (rest':=[]) ?_]
   ·rw [hC]
   ·show cS rd pf nodes (ak nodes i) i line (⟨q,1,pR⟩::(u5++(⟨q6,1,ma⟩::(u7++⟨q10,1,eK⟩::u11))))=_
    rw [hC]
    unfold cS
    rw [aW (by simp [ft])]
    simp only [bnd]
    rw [if_neg (by decide),if_neg (by decide),if_pos trivial]
    unfold oS fX
    rw [hx _ (by show ma≠dw;decide)]
    simp only [bnd]
    have h8:=hy (⟨q10,1,eK⟩::u11)
    simp only [List.cons_append] at h8
    rw [h8]
    simp only
    rw [gw]
    simp only [if_true]
    have h9:=hz [] trivial (by show (⟨#[]⟩:ByteArray)≠dw;decide)
    rw [List.append_nil] at h9
    rw [h9]
    simp
 | union nm i l h1 h2 h3 h4 h5 h6=>
  have e:cH nodes ⟨nm,{ aB with k:=6,c:=ak nodes i },i::l,[],0⟩=aE [aE [nm,aH,cg nodes i],eh,jn eL (l.map (cg nodes))]:=rfl
  obtain ⟨e0,hh⟩:=jf h1 h2
  have hl:Rd (jn eL (l.map (cg nodes))).data.toList (fun line u=>∀ rest,True->(hd line.size rest).tx≠dw->bg line.size (em nodes line.size) dw (u++rest)=.ok (l.map (fun j=>(j,())),rest)):=by
   rw [dp,List.map_map]
   refine iV _ (fun line ts=>em nodes line.size ts) (fun j=>(j,())) dw eL.data.toList (fun _ _=>True) mq jR (fun _ _ _ _=>trivial) l h3 (fun j hj=>?_)
   have a1:=h5 j hj
   refine (dt a1.nm.1).mono fun line u hu rest _=>?_
   obtain ⟨q,rfl⟩:=hu
   unfold em
   simp only [List.cons_append,List.nil_append]
   rw [tv a1]
   rfl
  have ep:jn eL (l.map (cg nodes))≠eB:=by
   cases l with
   | nil=>exact absurd rfl h3
   | cons j l=>
    have hne:=cQ (h5 j (by simp)).nm.1
    intro e
    have h:=congrArg (fun x=>x.data.toList) e
    simp only [dp,List.map_cons,Lib.join_cons] at h
    apply hne
    apply ByteArray.ext
    apply Array.toList_inj.1
    have h2:=congrArg List.length h
    simp [eB] at h2
    rw [show (cg nodes j).data.toList=[] from List.eq_nil_of_length_eq_zero (by simpa using h2.1)]
    rfl
  rw [e,ar e0 (aC ms),ar (aC ms) ep,bG ep]
  refine (hh.two ((Rd.one ms).two hl)).mono fun line u hu=>?_
  obtain ⟨u1,u2,rfl,⟨q1,q2,q3,rfl⟩,u3,u4,rfl,⟨q,rfl⟩,hx⟩:=hu
  simp only [List.cons_append,List.nil_append]
  rw [fx h1,eM h2 (p:=({ aB with k:=6,c:=ak nodes i },i::l)) (rest':=[]) ?_]
  show cS rd pf nodes (ak nodes i) i line (⟨q,1,eh⟩::u4)=_
  unfold cS
  rw [aW (by simp [ft])]
  simp only [bnd]
  have:=hx [] trivial (by show (⟨#[]⟩:ByteArray)≠dw;decide)
  rw [List.append_nil] at this
  rw [if_neg (by decide),if_neg (by decide),if_neg (by decide),if_pos trivial]
  unfold jD
  rw [this]
  simp only [bnd,List.map_map]
  simp only [jZ]
  rw [if_pos h6]
 | join nm i j ou l v h1 h2 h3 h4 h5 h6 h7=>
  have e:cH nodes ⟨nm,{ aB with k:=5,c:=ak nodes i,r:=ak nodes j,ks:=l.map (·.1),os:=l.map (·.2),wk:=v.1,ws:=v.2.1,wt:=v.2.2,ou:=ou },[i,j],[],0⟩=aE [aE [nm,aH,cg nodes i],dF ou,eN,cg nodes j,rX,cG (ak nodes i) (ak nodes j) ((l.map (·.1)).zip (l.map (·.2))),bQ v.1 v.2.1 v.2.2]:=rfl
  rw [oM] at e
  obtain ⟨e0,hh⟩:=jf h1 h2
  obtain ⟨ew,hw⟩:=wZ hN h7
  have hj:=h3.nm.1
  have hl:Rd (cG (ak nodes i) (ak nodes j) l).data.toList (fun line u=>∀ rest,True->(hd line.size rest).tx≠gC->bg line.size (gx (ak nodes i) (ak nodes j) line.size) gC (u++rest)=.ok (l.map (fun p=>p),rest)):=by
   unfold cG
   rw [dp,List.map_map]
   refine iV _ (fun line ts=>gx (ak nodes i) (ak nodes j) line.size ts) (fun p=>p) gC Au.data.toList (fun _ _=>True) Cz Cn (fun _ _ _ _=>trivial) l h4 (fun p hp=>?_)
   obtain ⟨a1,a2⟩:=h6 p hp
   simp only [Function.comp]
   rw [ar (cQ a1.nm.1) (aC gJ),ar (aC gJ) (cQ a2.nm.1),bG (cQ a2.nm.1)]
   refine ((dt a1.nm.1).two ((Rd.one gJ).two (dt a2.nm.1))).mono fun line u hu rest _=>?_
   obtain ⟨u1,u2,rfl,⟨q,rfl⟩,u3,u4,rfl,⟨q3,rfl⟩,q4,rfl⟩:=hu
   unfold gx
   simp only [List.cons_append,List.nil_append]
   rw [lH a1]
   simp only [bnd]
   rw [aW (by simp)]
   simp only
   rw [lH a2]
  have et:cG (ak nodes i) (ak nodes j) l≠eB:=by
   cases l with
   | nil=>exact absurd rfl h4
   | cons p l=>
    intro e
    have h:=congrArg (fun x=>x.data.toList) e
    unfold cG at h
    obtain ⟨a1,a2⟩:=h6 p (by simp)
    simp only [dp,List.map_cons,Lib.join_cons] at h
    rw [ar (cQ a1.nm.1) (aC gJ)] at h
    have h':=congrArg List.length h
    simp [eB] at h'
  have hJ:∀ (line:ByteArray) (q8 q9 q10:Nat) (u12 u13:List Tk),(∀ rest,True->(hd line.size rest).tx≠gC->bg line.size (gx (ak nodes i) (ak nodes j) line.size) gC (u12++rest)=.ok (l.map (fun p=>p),rest))->(∃ q u',u13=⟨q,1,ma⟩::u')->(∀ rest,kR rd line.size (u13++rest)=.ok (v,rest))->jt rd nodes (ak nodes i) ou i line.size (⟨q8,1,cg nodes j⟩::⟨q9,1,rX⟩::(u12++u13))=.ok (({ aB with k:=5,c:=ak nodes i,r:=ak nodes j,ks:=l.map (·.1),os:=l.map (·.2),wk:=v.1,ws:=v.2.1,wt:=v.2.2,ou:=ou },[i,j]),[]):=by
   intro line q8 q9 q10 u12 u13 ha hb hc
   obtain ⟨qb,ub,rfl⟩:=hb
   unfold jt
   rw [tv h3]
   simp only [bnd]
   rw [aW (by simp)]
   simp only
   rw [ha _ trivial (by show ma≠gC;decide)]
   simp only
   have:=hc []
   rw [List.append_nil] at this
   rw [this]
   simp
  cases ou with
  | true=>
   rw [e,show dF true=kK from rfl,ar e0 (aC lQ),ar (aC lQ) (aC iY),ar (aC iY) (cQ hj),ar (cQ hj) (aC nY),ar (aC nY) et,ar et ew,bG ew]
   refine (hh.two ((Rd.one lQ).two ((Rd.one iY).two ((dt hj).two ((Rd.one nY).two (hl.two hw)))))).mono fun line u hu=>?_
   obtain ⟨u1,u2,rfl,⟨q1,q2,q3,rfl⟩,u3,u4,rfl,⟨q,rfl⟩,u5,u6,rfl,⟨q5,rfl⟩,u7,u8,rfl,⟨q7,rfl⟩,u9,u10,rfl,⟨q9,rfl⟩,u12,u13,rfl,ha,hb,hc⟩:=hu
   simp only [List.cons_append,List.nil_append]
   rw [fx h1,eM h2 (p:=({ aB with k:=5,c:=ak nodes i,r:=ak nodes j,ks:=l.map (·.1),os:=l.map (·.2),wk:=v.1,ws:=v.2.1,wt:=v.2.2,ou:=true },[i,j])) (rest':=[]) ?_]
   show cS rd pf nodes (ak nodes i) i line _=_
   unfold cS
   rw [aW (by simp [ft])]
   simp only [bnd]
   rw [if_neg (by decide),if_neg (by decide),if_neg (by decide),if_neg (by decide),if_pos trivial,aW (by simp)]
   exact hJ line q7 q9 0 u12 u13 ha hb hc
  | false=>
   rw [e,show dF false=eB from rfl,Be,ar e0 (aC iY),ar (aC iY) (cQ hj),ar (cQ hj) (aC nY),ar (aC nY) et,ar et ew,bG ew]
   refine (hh.two ((Rd.one iY).two ((dt hj).two ((Rd.one nY).two (hl.two hw))))).mono fun line u hu=>?_
   obtain ⟨u1,u2,rfl,⟨q1,q2,q3,rfl⟩,u5,u6,rfl,⟨q5,rfl⟩,u7,u8,rfl,⟨q7,rfl⟩,u9,u10,rfl,⟨q9,rfl⟩,u12,u13,rfl,ha,hb,hc⟩:=hu
   simp only [List.cons_append,List.nil_append]
   rw [fx h1,eM h2 (p:=({ aB with k:=5,c:=ak nodes i,r:=ak nodes j,ks:=l.map (·.1),os:=l.map (·.2),wk:=v.1,ws:=v.2.1,wt:=v.2.2,ou:=false },[i,j])) (rest':=[]) ?_]
   show cS rd pf nodes (ak nodes i) i line _=_
   unfold cS
   rw [aW (by simp [ft])]
   simp only [bnd]
   rw [if_neg (by decide),if_neg (by decide),if_neg (by decide),if_neg (by decide),if_neg (by decide)]
   exact hJ line q7 q9 0 u12 u13 ha hb hc
def Cl (l:List UInt8):Prop:=∀ c∈l,c≠10/\c≠35
theorem Cl.app {a b:List UInt8} (ha:Cl a) (hb:Cl b):Cl (a++b):=fun c h=>(List.mem_append.1 h).elim (ha c) (hb c)
theorem Cl.cons {c:UInt8} {b:List UInt8} (h:c≠10/\c≠35) (hb:Cl b):Cl (c::b):=fun x hx=>by
 rcases List.mem_cons.1 hx with rfl | hx
 ·exact h
 ·exact hb x hx
theorem gN:Cl []:=fun c h=>by cases h
theorem uj {sep:List UInt8} (hs:Cl sep):∀ l:List (List UInt8),(∀ x∈l,Cl x)->Cl (Lib.join l sep)
 | [],_=>gN
 | x::l,h=>by
  rw [Lib.join_cons]
  refine (h x (by simp)).app ?_
  have:∀ m:List (List UInt8),(∀ x∈m,Cl x)->Cl (Lib.joinTail sep m):=by
   intro m
   induction m with
   | nil=>intro _;exact gN
   | cons y m ih=>
    intro hm
    have e:Lib.joinTail sep (y::m)=sep++y++Lib.joinTail sep m:=by simp [Lib.joinTail]
    rw [e]
    exact (hs.app (hm y (by simp))).app (ih (fun z hz=>hm z (by simp [hz])))
  exact this l (fun y hy=>h y (by simp [hy]))
def eV (s:ByteArray):Prop:=Cl s.data.toList
theorem mX {sep:ByteArray} {l:List ByteArray} (hs:eV sep) (h:∀ x∈l,eV x):eV (jn sep l):=by
 unfold eV
 rw [dp]
 exact uj hs _ (fun x hx=>by obtain ⟨y,hy,rfl⟩:=List.mem_map.1 hx;exact h y hy)
theorem dv {l:List ByteArray} (h:∀ x∈l,eV x):eV (aE l):=mX (fun c hc=>by simp [DO] at hc;subst hc;decide) (fun x hx=>h x (List.mem_filter.1 hx).1)
instance (l:List UInt8):Decidable (Cl l):=by unfold Cl;infer_instance
theorem xv {l:List UInt8} (h:bp l=l.length):Cl l:=by
 induction l with
 | nil=>exact gN
 | cons c r ih=>
  rw [Bp.wLen_cons] at h
  by_cases hc:dZ c=true
  ·rw [if_pos hc] at h
   refine Cl.cons ⟨?_,?_⟩ (ih (by simpa using h))
   ·rintro rfl;exact absurd hc (by decide)
   ·rintro rfl;exact absurd hc (by decide)
  ·rw [if_neg hc] at h;simp at h
theorem ip {s:ByteArray} (h:iX s):eV s:=by
 have h1:=h.1
 unfold pg jm at h1
 unfold eV
 cases e:s.data.toList with
 | nil=>exact gN
 | cons c r=>
  rw [e] at h1
  simp only [Bool.and_eq_true,Bool.not_eq_true',decide_eq_true_eq,decide_eq_false_iff_not] at h1
  exact xv h1.1.1.2
theorem dS {a b:ByteArray} (ha:eV a) (hb:eV b):eV (a++b):=by unfold eV;rw [nA];exact Cl.app ha hb
theorem pd {ws:List (ByteArray × Int)} (h:∀ p∈ws,eV p.1) (k:Int):eV (aL ws k):=by
 unfold aL
 cases hf:ws.find? fun p=>decide (p.2=k) with
 | none=>exact gN
 | some p=>exact h p (List.mem_of_find?_eq_some hf)
instance (s:ByteArray):Decidable (eV s):=by unfold eV;infer_instance
theorem zI:∀ p∈bF,eV p.1:=by decide
theorem yM:∀ p∈bE,eV p.1:=by decide
theorem xR:∀ p∈dh,eV p.1:=by decide
def BC (rd:R1):Prop:=∀ n,Nu rd n->eV (gy n)
def CW (pf:P1):Prop:=∀ x,CV pf x->eV x
theorem v8 {P:ByteArray->Prop} {a b:ByteArray} (ha:P a) (hb:P b):∀ x∈[a,b],P x:=fun x hx=>by simp at hx;rcases hx with rfl | rfl<;>assumption
theorem sw {P:ByteArray->Prop} {a b c:ByteArray} (ha:P a) (hb:P b) (hc:P c):∀ x∈[a,b,c],P x:=fun x hx=>by simp at hx;rcases hx with rfl | rfl | rfl<;>assumption
theorem zk {rd:R1} (hN:BC rd) {v:Int × Int × Int} (h:jT rd v):eV (bQ v.1 v.2.1 v.2.2):=by
 have h0:eV (aE [ma,aL bE v.1]):=dv (v8 (by decide) (pd yM _))
 obtain ⟨k,s,t⟩:=v
 simp only at h0
 rcases h with ⟨h1,h2,h3⟩ | ⟨h1,h2,h3⟩ | ⟨h1,h2,h3⟩
 ·simp only at h1;subst h1;exact h0
 ·simp only at h1 h2 h3
  subst h1
  show eV (aE [aE [ma,aL bE 2],gy s,gh,gy t])
  refine dv fun x hx=>?_
  simp at hx
  rcases hx with rfl | rfl | rfl | rfl
  ·exact h0
  ·exact hN s h2
  ·decide
  ·exact hN t h3
 ·simp only at h1 h2 h3
  have e:bQ k s t=aE [aE [ma,aL bE k],gy s]:=by unfold bQ;rw [if_neg (by omega),if_neg (by omega)]
  show eV (bQ k s t)
  rw [e]
  exact dv (v8 h0 (hN s h2))
theorem AM {c:List Co} {a:Oo.Ag} (h:qH c a):eV (aS c a):=by
 unfold aS
 refine dS (dS (dS (pd xR _) (by decide)) ?_) (by decide)
 split
 ·exact gN
 ·rcases h with ⟨h1,_⟩ | ⟨_,_,h3⟩
  ·exact absurd h1 (by assumption)
  ·exact ip h3.nm.1
theorem BL {rd:R1} {pf:P1} {nodes:List aJ} {n:aJ} (hN:BC rd) (hX:CW pf) (h:jV rd pf nodes n):eV (cH nodes n):=by
 have hh:∀ {nm i},iX nm->fC nodes i->eV (aE [nm,aH,cg nodes i]):=fun h1 h2=>dv (sw (ip h1) (by decide) (ip h2.nm.1))
 cases h with
 | stream nm cs bd h1 h2 h3 h4 h5=>
  have e:cH nodes ⟨nm,{ aB with k:=1,c:=cs },[],[],bd⟩=aE [aX,nm,jb++cy cs++ii,cC bd]:=rfl
  rw [e]
  refine dv fun x hx=>?_
  simp at hx
  rcases hx with rfl | rfl | rfl | rfl
  ·decide
  ·exact ip h1
  ·refine dS (dS (by decide) (mX (by decide) fun y hy=>?_)) (by decide)
   obtain ⟨c,hc,rfl⟩:=List.mem_map.1 hy
   exact dv (v8 (ip (h4 c hc).1) (pd zI _))
  ·unfold cC
   split
   ·exact gN
   ·exact dv (v8 (by decide) (hN bd (h5.resolve_left (by assumption))))
 | sink nm i h1 h2=>
  have e:cH nodes ⟨nm,{ aB with k:=7,c:=ak nodes i },[i],[],0⟩=aE [cA,aE [nm,aH,cg nodes i]]:=rfl
  rw [e]
  exact dv (v8 (by decide) (hh h1 h2))
 | wher nm i x h1 h2 h3=>
  have e:cH nodes ⟨nm,{ aB with k:=2,c:=ak nodes i,ex:=[x] },[i],[],0⟩=aE [aE [nm,aH,cg nodes i],ey,x]:=rfl
  rw [e]
  exact dv (sw (hh h1 h2) (by decide) (hX x h3))
 | selct nm i l h1 h2 h3 h4 h5=>
  have e:cH nodes ⟨nm,{ aB with k:=3,c:=ak nodes i,ex:=l.map (·.2),nm:=l.map (·.1) },[i],[],0⟩=aE [aE [nm,aH,cg nodes i],dl,cE ((l.map (·.2)).zip (l.map (·.1)))]:=rfl
  rw [e,oY]
  refine dv (sw (hh h1 h2) (by decide) (mX (by decide) fun y hy=>?_))
  rw [List.map_map] at hy
  obtain ⟨p,hp,rfl⟩:=List.mem_map.1 hy
  exact dv (sw (hX _ (h5 p hp).2) (by decide) (ip (h5 p hp).1))
 | wind nm i ks v l h1 h2 h3 h4 h5 h6 h7=>
  have e:cH nodes ⟨nm,{ aB with k:=4,c:=ak nodes i,nm:=l.map (·.1),ks:=ks,wk:=v.1,ws:=v.2.1,wt:=v.2.2,ag:=l.map (·.2) },[i],[],0⟩=aE [aE [nm,aH,cg nodes i],pR,co (ak nodes i) ks,bQ v.1 v.2.1 v.2.2,cU (ak nodes i) (l.map (·.2)) (l.map (·.1))]:=rfl
  rw [e]
  refine dv fun x hx=>?_
  simp at hx
  rcases hx with rfl | rfl | rfl | rfl | rfl
  ·exact hh h1 h2
  ·decide
  ·unfold co
   split
   ·decide
   ·refine mX (by decide) fun y hy=>?_
    obtain ⟨k,hk,rfl⟩:=List.mem_map.1 hy
    exact ip (h5 k hk).nm.1
  ·exact zk hN h6
  ·unfold cU
   split
   ·exact gN
   ·refine dv (v8 (by decide) (mX (by decide) fun y hy=>?_))
    have e2:∀ m:List (ByteArray × Oo.Ag),((m.map (·.2)).map (aS (ak nodes i))).zip (m.map (·.1))=m.map fun p=>(aS (ak nodes i) p.2,p.1):=by
     intro m
     induction m with
     | nil=>rfl
     | cons p m ih=>simp only [List.map_cons,List.zip_cons_cons,ih]
    rw [e2 l,List.map_map] at hy
    obtain ⟨p,hp,rfl⟩:=List.mem_map.1 hy
    exact dv (sw (AM (h7 p hp).2) (by decide) (ip (h7 p hp).1))
 | union nm i l h1 h2 h3 h4 h5 h6=>
  have e:cH nodes ⟨nm,{ aB with k:=6,c:=ak nodes i },i::l,[],0⟩=aE [aE [nm,aH,cg nodes i],eh,jn eL (l.map (cg nodes))]:=rfl
  rw [e]
  refine dv (sw (hh h1 h2) (by decide) (mX (by decide) fun y hy=>?_))
  obtain ⟨j,hj,rfl⟩:=List.mem_map.1 hy
  exact ip (h5 j hj).nm.1
 | join nm i j ou l v h1 h2 h3 h4 h5 h6 h7=>
  have e:cH nodes ⟨nm,{ aB with k:=5,c:=ak nodes i,r:=ak nodes j,ks:=l.map (·.1),os:=l.map (·.2),wk:=v.1,ws:=v.2.1,wt:=v.2.2,ou:=ou },[i,j],[],0⟩=aE [aE [nm,aH,cg nodes i],dF ou,eN,cg nodes j,rX,cG (ak nodes i) (ak nodes j) ((l.map (·.1)).zip (l.map (·.2))),bQ v.1 v.2.1 v.2.2]:=rfl
  rw [e,oM]
  refine dv fun x hx=>?_
  simp at hx
  rcases hx with rfl | rfl | rfl | rfl | rfl | rfl | rfl
  ·exact hh h1 h2
  ·cases ou<;>decide
  ·decide
  ·exact ip h3.nm.1
  ·decide
  ·refine mX (by decide) fun y hy=>?_
   obtain ⟨p,hp,rfl⟩:=List.mem_map.1 hy
   exact dv (sw (ip (h6 p hp).1.nm.1) (by decide) (ip (h6 p hp).2.nm.1))
  ·exact zk hN h7
def iF (l:List UInt8):List (List UInt8):=Lib.splitK [10] 0 (Lib.count l [10]) l
theorem ju (s:ByteArray):(bZ s).map (·.data.toList)=iF s.data.toList:=Lib.splitB_data zM 0 _ s
theorem mB {c:UInt8}:∀ {l:List UInt8},(∀ x∈l,x≠c)->Lib.index l [c]=-1
 | [],_=>by simp [Lib.index]
 | b::l,h=>by
  have ih:=mB (c:=c) (l:=l) (fun x hx=>h x (by simp [hx]))
  have hb:=h b (by simp)
  rw [Lib.index,ih]
  have hp:([c]:List UInt8).isPrefixOf (b::l)=false:=by simp [List.isPrefixOf,Ne.symm hb]
  rw [hp];simp
theorem qR {c:UInt8} {rest:List UInt8}:∀ {l:List UInt8},(∀ x∈l,x≠c)->Lib.index (l++c::rest) [c]=(l.length:Int)
 | [],_=>by rw [List.nil_append,Lib.index];simp [List.isPrefixOf]
 | b::l,h=>by
  have ih:=qR (c:=c) (rest:=rest) (l:=l) (fun x hx=>h x (by simp [hx]))
  have hb:=h b (by simp)
  rw [List.cons_append,Lib.index,ih]
  have hp:([c]:List UInt8).isPrefixOf (b::(l++c::rest))=false:=by simp [List.isPrefixOf,Ne.symm hb]
  rw [hp]
  have:¬ (((l.length:Int)==-1)=true):=by simp
  simp [this]
theorem ij {a:List UInt8} (h:∀ x∈a,x≠10):iF a=[a]:=by
 unfold iF
 rw [Lib.count_miss (mB h)]
 rfl
theorem iP {a rest:List UInt8} (h:∀ x∈a,x≠10):iF (a++10::rest)=a::iF rest:=by
 unfold iF
 have hi:=qR (rest:=rest) h
 rw [Lib.count_hit (by simp) hi]
 have e1:(a++10::rest).drop (a.length+[(10:UInt8)].length)=rest:=by simp
 have e2:(a++10::rest).take (a.length+0)=a:=by simp
 rw [e1,Nat.add_comm,Lib.splitK,hi,if_neg (by simp),Int.toNat_natCast,e1,e2]
def j8 (nodes:List aJ):List aJ->List UInt8
 | []=>[]
 | n::l=>(cH nodes n).data.toList++10::j8 nodes l
theorem kh {s:ByteArray} (h:eV s):dH s=s:=by
 unfold dH Lib.cut
 rw [show Lib.index s.data.toList DK.data.toList=-1 from mB (fun x hx=>(h x hx).2)]
 simp
end Go.Proofs.YtiiliobffnhpmaaGreatDoor.Jp
