import Derived.Test.YtiiliobffnhpmaaGreatDoorGag
import Derived.Deep.Cut
set_option linter.all false
set_option maxRecDepth 100000
set_option maxHeartbeats 4000000
namespace Go.Proofs.YtiiliobffnhpmaaGreatDoor
open Go.RowKit
theorem pH (t:ByteArray) (r:Int) (g:Nat) (w:World) (hg:g<w.heap.size) (hs:(t=dz/\r=2)\/(t=bh/\r=6)) :
 Calls Tryz.prog 324 #[.string t] w (cM w g (bj t) (jo t)):=by
 rcases hs with ⟨rfl,_⟩ | ⟨rfl,_⟩
 ·exact oT g w hg
 ·exact mj g w hg
def eF (w:World) (B pl:Nat) (s:ByteArray) (u p:Value):Prop:=∃ tk f ps,p=.agg #[.int .i64 pl,tk,.int .i64 (bj s).2,f,ps,.string s,.int .i64 (az s)]/\cK w B tk ((bj s).1.map (Value.int .i64 ·))/\aF w B (jo s) f/\cK w B ps [u]
theorem eF.nd {w:World} {g pl:Nat} {s:ByteArray} {u p:Value} {x:X} (h:eF w g pl s u p) (hx:Nd w g x u):Nd w g (.pre pl s x) (.iface 297 p):=by
 obtain ⟨tk,f,ps,rfl,h2,h3,h4⟩:=h
 rw [Nd]
 exact ⟨tk,f,ps,u,rfl,h2,h3,h4,hx⟩
theorem eF.grown {w w':World} {B pl:Nat} {s:ByteArray} {u p:Value} (h:eF w B pl s u p) (hg:w.grownBy w' (some B)):eF w' B pl s u p:=by
 obtain ⟨tk,f,ps,h1,h2,h3,h4⟩:=h
 exact ⟨tk,f,ps,h1,h2.grown hg,h3.grown hg,h4.grown hg⟩
theorem eF.up {w:World} {B B' pl:Nat} {s:ByteArray} {u p:Value} (h:eF w B pl s u p) (hb:B'<=B):eF w B' pl s u p:=by
 obtain ⟨tk,f,ps,h1,h2,h3,h4⟩:=h
 exact ⟨tk,f,ps,h1,h2.up hb,aF.up hb h3,h4.up hb⟩
theorem eF.form {w:World} {B pl:Nat} {s:ByteArray} {u p:Value} (h:eF w B pl s u p):∃ ta tn tc fn fc pa pn pc,p=.agg #[.int .i64 pl,.slice ta tn tc,.int .i64 (bj s).2,.func (.func fn) #[] fc,.slice pa pn pc,.string s,.int .i64 (az s)]:=by
 obtain ⟨tk,f,ps,rfl,h2,h3,h4⟩:=h
 obtain ⟨ta,tn,tc,rfl⟩:=h2.form
 obtain ⟨fn,fc,rfl⟩:=h3.form
 obtain ⟨pa,pn,pc,rfl⟩:=h4.form
 exact ⟨_,_,_,_,_,_,_,_,rfl⟩
theorem fZ (t:Tk) (r:Int) (ut:TypeId) (up:Value) (w:World) (hs:(t.tx=dz/\r=2)\/(t.tx=bh/\r=6)) :
 Calls Tryz.prog 313 #[eA t,.int .i64 r,.iface ut up] w fun e w'=>Below w.heap.size w w'/\∃ p,e=.returned p/\eF w' w.heap.size t.pl t.tx (.iface ut up) p:=by
 have HO:Hid (∀ W,w.heap.size+1<W.heap.size->Calls Tryz.prog 324 #[.string t.tx] W (cM W (w.heap.size+1) (bj t.tx) (jo t.tx))):=fun W h=>pH t.tx r _ W h hs
 have HS:Hid (r=az t.tx):=by
  unfold Hid az
  rcases hs with ⟨h,rfl⟩ | ⟨h,rfl⟩<;>rw [h]<;>decide +kernel
 clear hs
 unfold eA
 go_in
 go_wp2_with fail
 go_region_held3 (fun w'=>w'.cell? ⟨w.heap.size,0,none⟩=some (.int .i64 t.pl)/\w'.cell? ⟨w.heap.size,1,none⟩=some (.int .i64 t.kd)/\w'.cell? ⟨w.heap.size,2,none⟩=some (.string t.tx))
  (first | go_keep)
  (first | (go_at_call 324;refine (HO.out _ ?_).mono ?_;(simp);rintro e w1 ⟨hb1,tk,f,rfl,hL1,hC1⟩;have s0:w1.cell? ⟨w.heap.size,0,none⟩=some (.int .i64 t.pl):=af hb1 (by go_keep);have s1:w1.cell? ⟨w.heap.size,1,none⟩=some (.int .i64 t.kd):=af hb1 (by go_keep);have s2:w1.cell? ⟨w.heap.size,2,none⟩=some (.string t.tx):=af hb1 (by go_keep);obtain ⟨ta,tn,tc,rfl⟩:=hL1.form;obtain ⟨fn,fc,rfl⟩:=hC1.form;have hlt:=bL (af (a:=⟨w.heap.size+1,0,none⟩) (v:=.int .i64 0) hb1 (by go_simp));have q0:=af (a:=⟨w.heap.size+1,0,none⟩) (v:=.int .i64 0) hb1 (by go_simp);have qf0:=cF (a:=⟨w.heap.size+1,0,none⟩) hb1 (by simp) (by go_simp);have q1:=af (a:=⟨w.heap.size+1,1,none⟩) (v:=.slice none 0 0) hb1 (by go_simp);have qf1:=cF (a:=⟨w.heap.size+1,1,none⟩) hb1 (by simp) (by go_simp);have q2:=af (a:=⟨w.heap.size+1,2,none⟩) (v:=.int .i64 0) hb1 (by go_simp);have qf2:=cF (a:=⟨w.heap.size+1,2,none⟩) hb1 (by simp) (by go_simp);have q3:=af (a:=⟨w.heap.size+1,3,none⟩) (v:=.nilFunc) hb1 (by go_simp);have qf3:=cF (a:=⟨w.heap.size+1,3,none⟩) hb1 (by simp) (by go_simp);have q4:=af (a:=⟨w.heap.size+1,4,none⟩) (v:=.slice none 0 0) hb1 (by go_simp);have qf4:=cF (a:=⟨w.heap.size+1,4,none⟩) hb1 (by simp) (by go_simp);have q5:=af (a:=⟨w.heap.size+1,5,none⟩) (v:=.string ⟨#[]⟩) hb1 (by go_simp);have qf5:=cF (a:=⟨w.heap.size+1,5,none⟩) hb1 (by simp) (by go_simp);have q6:=af (a:=⟨w.heap.size+1,6,none⟩) (v:=.int .i64 0) hb1 (by go_simp);have qf6:=cF (a:=⟨w.heap.size+1,6,none⟩) hb1 (by simp) (by go_simp);skip))
 all_goals
  clear q0 q1 q2 q3 q4 q5 q6 qf0 qf1 qf2 qf3 qf4 qf5 qf6 s0 s1 s2
  have hbb:Below ((w.alloc (.cells #[.int .i64 t.pl,.int .i64 t.kd,.string t.tx] 136)).alloc (.cells #[.int .i64 0,.slice none 0 0,.int .i64 0,.nilFunc,.slice none 0 0,.string ⟨#[]⟩,.int .i64 0] 297)).heap.size ((w.alloc (.cells #[.int .i64 t.pl,.int .i64 t.kd,.string t.tx] 136)).alloc (.cells #[.int .i64 0,.slice none 0 0,.int .i64 0,.nilFunc,.slice none 0 0,.string ⟨#[]⟩,.int .i64 0] 297)) w1:=by
   refine Below.trans ?_ (hb1.mono (by simp))
   first | exact bR.drew | exact bR.drew.alloc (by simp) _
  have hO0:aD w1 (w.heap.size+1) 297 7 [.int .i64 0,.slice none 0 0,.int .i64 0,.nilFunc,.slice none 0 0,.string ⟨#[]⟩,.int .i64 0]:=by
   have:=(aD.new (w.alloc (.cells #[.int .i64 t.pl,.int .i64 t.kd,.string t.tx] 136)) 297 7 #[.int .i64 0,.slice none 0 0,.int .i64 0,.nilFunc,.slice none 0 0,.string ⟨#[]⟩,.int .i64 0] rfl).later hbb
   simpa using this
  have hB1:=((ae w _).alloc (by simp) _).trans (hbb.mono (by simp;omega))
 ·obtain ⟨hG,hZ⟩:=s7 w1 (w.heap.size+1) (.int .i64 t.pl) (.slice ta tn tc) (.int .i64 (bj t.tx).2) (.func (.func fn) #[] fc) (.slice (some ⟨w1.heap.size,0,none⟩) 1 1) (.string t.tx) (.int .i64 r)
  have hO7:=((((((((hO0.put 0 (.int .i64 t.pl)).1.put 1 (.slice ta tn tc)).1.put 2 (.int .i64 (bj t.tx).2)).1.put 3 (.func (.func fn) #[] fc)).1.put 4 (.slice (some ⟨w1.heap.size,0,none⟩) 1 1)).1.put 5 (.string t.tx)).1.put 6 (.int .i64 r)).1)
  have hPW:Hid (w1=w1):=rfl
  generalize World.setCell _ ⟨w.heap.size+1,6,none⟩ _=W7 at hG hZ hO7 ⊢
  have c0:=hO7.c 0 rfl
  have c1:=hO7.c 1 rfl
  have c2:=hO7.c 2 rfl
  have c3:=hO7.c 3 rfl
  have c4:=hO7.c 4 rfl
  have c5:=hO7.c 5 rfl
  have c6:=hO7.c 6 rfl
  have hL7:cK W7 w.heap.size (.slice ta tn tc) ((bj t.tx).1.map (Value.int .i64 ·)):=(hL1.grown hG).up (by omega)
  have hC7:aF W7 w.heap.size (jo t.tx) (.func (.func fn) #[] fc):=aF.up (by omega) (hC1.grown hG)
  have hB7:=eE hB1 hG (fun k hk=>by cases hk;omega)
  have hl7:=hO7.lt
  have hPP:cK (W7.alloc (.cells #[.iface ut up] 256)) w.heap.size (.slice (some ⟨w1.heap.size,0,none⟩) 1 1) [.iface ut up]:=by
   rw [<-hZ]
   exact cK.one (by omega) (by decide) (by decide) (by go_simp)
  have FIN:Hid (Below w.heap.size w (W7.alloc (.cells #[.iface ut up] 256))/\eF (W7.alloc (.cells #[.iface ut up] 256)) w.heap.size t.pl t.tx (.iface ut up) (.agg #[.int .i64 t.pl,.slice ta tn tc,.int .i64 (bj t.tx).2,.func (.func fn) #[] fc,.slice (some ⟨w1.heap.size,0,none⟩) 1 1,.string t.tx,.int .i64 r])):=by
   have hbF:Below W7.heap.size W7 (W7.alloc (.cells #[.iface ut up] 256)):=by first | exact bR | exact ae _ _
   have hBF:=hB7.trans (hbF.mono hB7.size)
   refine ⟨hBF,?_⟩
   rw [HS.out]
   exact ⟨_,_,_,rfl,hL7.later hbF,hC7.later hbF,hPP⟩
  clear hG hZ hO7 hL7 hC7 hB7 hPP hL1 hC1 hb1 hbb hO0 hB1 HO
  go_wp2_with fail
  exact bodyPost_ret (v:=.agg #[.int .i64 t.pl,.slice ta tn tc,.int .i64 (bj t.tx).2,.func (.func fn) #[] fc,.slice (some ⟨w1.heap.size,0,none⟩) 1 1,.string t.tx,.int .i64 r]) (by simp [results,Tryz.results313,go_sem,c0,c1,c2,c3,c4,c5,c6,hl7]) rfl ⟨FIN.out.1,_,rfl,FIN.out.2⟩
 ·obtain ⟨hG,hZ⟩:=s7 w1 (w.heap.size+1) (.int .i64 t.pl) (.slice ta tn tc) (.int .i64 (bj t.tx).2) (.func (.func fn) #[] fc) (.slice (some ⟨w.heap.size+1+1,0,none⟩) 1 1) (.string t.tx) (.int .i64 r)
  have hO7:=((((((((hO0.put 0 (.int .i64 t.pl)).1.put 1 (.slice ta tn tc)).1.put 2 (.int .i64 (bj t.tx).2)).1.put 3 (.func (.func fn) #[] fc)).1.put 4 (.slice (some ⟨w.heap.size+1+1,0,none⟩) 1 1)).1.put 5 (.string t.tx)).1.put 6 (.int .i64 r)).1)
  have hPW:Hid (w1=w1):=rfl
  generalize World.setCell _ ⟨w.heap.size+1,6,none⟩ _=W7 at hG hZ hO7 ⊢
  have c0:=hO7.c 0 rfl
  have c1:=hO7.c 1 rfl
  have c2:=hO7.c 2 rfl
  have c3:=hO7.c 3 rfl
  have c4:=hO7.c 4 rfl
  have c5:=hO7.c 5 rfl
  have c6:=hO7.c 6 rfl
  have hL7:cK W7 w.heap.size (.slice ta tn tc) ((bj t.tx).1.map (Value.int .i64 ·)):=(hL1.grown hG).up (by omega)
  have hC7:aF W7 w.heap.size (jo t.tx) (.func (.func fn) #[] fc):=aF.up (by omega) (hC1.grown hG)
  have hB7:=eE hB1 hG (fun k hk=>by cases hk;omega)
  have hl7:=hO7.lt
  have hPP:cK W7 w.heap.size (.slice (some ⟨w.heap.size+1+1,0,none⟩) 1 1) [.iface ut up]:=by
   have h0:w1.cell? ⟨w.heap.size+1+1,0,none⟩=some (.iface ut up):=af hb1 (by go_simp)
   exact cK.one (by omega) (by decide) (by decide) (hG.cell h0 (by simp))
  have FIN:Hid (Below w.heap.size w (W7)/\eF (W7) w.heap.size t.pl t.tx (.iface ut up) (.agg #[.int .i64 t.pl,.slice ta tn tc,.int .i64 (bj t.tx).2,.func (.func fn) #[] fc,.slice (some ⟨w.heap.size+1+1,0,none⟩) 1 1,.string t.tx,.int .i64 r])):=by
   have hbF:Below W7.heap.size W7 (W7):=by first | exact bR | exact ae _ _
   have hBF:=hB7.trans (hbF.mono hB7.size)
   refine ⟨hBF,?_⟩
   rw [HS.out]
   exact ⟨_,_,_,rfl,hL7.later hbF,hC7.later hbF,hPP⟩
  clear hG hZ hO7 hL7 hC7 hB7 hPP hL1 hC1 hb1 hbb hO0 hB1 HO
  go_wp2_with fail
  exact bodyPost_ret (v:=.agg #[.int .i64 t.pl,.slice ta tn tc,.int .i64 (bj t.tx).2,.func (.func fn) #[] fc,.slice (some ⟨w.heap.size+1+1,0,none⟩) 1 1,.string t.tx,.int .i64 r]) (by simp [results,Tryz.results313,go_sem,c0,c1,c2,c3,c4,c5,c6,hl7]) rfl ⟨FIN.out.1,_,rfl,FIN.out.2⟩
theorem BA:(Tryz.prog.info? 302).map (·.size)=some 7:=by kernel_rfl
theorem aD.row {w:World} {g t n:Nat} {xs:List Value} (h:aD w g t n xs):w.heap[g]?=some (.cells xs.toArray t (0,0)):=by
 rcases h.2 with ⟨h1,_⟩ | ⟨g',c,cur,h1,h2,h3,h4,h5,h6,h7⟩
 ·cases h1
 ·cases h1
  rw [h3]
  congr 2
  apply Array.toList_inj.1
  have hl:=h.1
  rw [<-h7]
  simp only [Nat.one_mul] at *
  rw [List.take_of_length_le (by simp;omega)]
theorem iq (w:World) (g:Nat) (cs:Array Value):w.grownBy (w.setRow g cs) (some g):=⟨rfl,rfl,rfl,by simp,fun k _ hk=>setRow_other w g k cs (fun e=>hk (by rw [e]))⟩
theorem qh (t:Tk) (l:List X) (pa:Option Addr) (pn pc:Nat) (us:List Value) (g:Nat) (w:World) (hg:g<w.heap.size) (hp:cK w g (.slice pa pn pc) us) (hl:ez w g l us) :
 Calls Tryz.prog 343 #[eA t,.slice pa pn pc] w fun e w'=>Below w.heap.size w w'/\∃ p,e=.returned p/\Nd w' g (.app t.pl t.tx l) (.iface 302 p):=by
 have HL:=jg hl
 have HP:=jg hp
 have HO:Hid (∀ W,w.heap.size+1<W.heap.size->Calls Tryz.prog 344 #[.string t.tx] W (dW W (w.heap.size+1) t.tx)):=fun W h=>pM t.tx _ W h
 clear hl hp
 unfold eA
 go_in
 go_wp2_with fail
 refine (HO.out _ (by simp)).mono ?_
 rintro e w1 ⟨hb1,tk,gv,f,rfl,⟨ta,tn,tc,rfl⟩,hf,hO⟩
 have HF:=jg hO
 have hO0:aD w1 (w.heap.size+1) 302 7 [.int .i64 0,.slice none 0 0,.int .i64 0,.nilFunc,.slice none 0 0,.string ⟨#[]⟩,.bool false]:=by
  have:=(aD.new (w.alloc (.cells #[.int .i64 t.pl,.int .i64 t.kd,.string t.tx] 136)) 302 7 #[.int .i64 0,.slice none 0 0,.int .i64 0,.nilFunc,.slice none 0 0,.string ⟨#[]⟩,.bool false] rfl).later hb1
  simpa using this
 have hB1:=((ae w _).alloc (by simp) _).trans (hb1.mono (by simp;omega))
 have s0:w1.cell? ⟨w.heap.size,0,none⟩=some (.int .i64 t.pl):=af hb1 (by go_simp)
 have s2:w1.cell? ⟨w.heap.size,2,none⟩=some (.string t.tx):=af hb1 (by go_simp)
 have hlt:=hO0.lt
 have hlt0:w.heap.size<w1.heap.size:=by omega
 have HO0:=jg hO0
 have HB1:=jg hB1
 clear hO hO0 hB1 hb1 HO
 obtain ⟨B,hB⟩:∃ B,B=(eQ t.tx).isSome:=⟨_,rfl⟩
 rw [<-hB]
 have HBB:=jg hB
 clear hB
 rcases hf with rfl | ⟨fn,fc,rfl⟩
 ·have hrow:(w1.alloc (.cells #[.slice ta tn tc,.int .i64 gv,.nilFunc] 291)).heap[w.heap.size+1]?=some (.cells #[.int .i64 0,.slice none 0 0,.int .i64 0,.nilFunc,.slice none 0 0,.string ⟨#[]⟩,.bool false] 302 (0,0)):=(HO0.out.later (ae _ _)).row
  have hi7:=BA
  have HROW:=jg hrow
  clear hrow
  have ho1:Hid ((#[.int .i64 t.pl,.slice ta tn tc,.int .i64 gv,.nilFunc,.slice pa pn pc,.string t.tx,.bool B]:Array Value).all (·.oneCell')=true):=by unfold Hid;simp [Value.oneCell']
  go_wp2_with (refine wpList_store_row rfl 302 _ _ rfl (w.heap.size+1) #[.int .i64 t.pl,.slice ta tn tc,.int .i64 gv,.nilFunc,.slice pa pn pc,.string t.tx,.bool B] rfl rfl 302 #[.int .i64 0,.slice none 0 0,.int .i64 0,.nilFunc,.slice none 0 0,.string ⟨#[]⟩,.bool false] HROW.out hi7 rfl ho1.out ?_)
  have hG:=iq (w1.alloc (.cells #[.slice ta tn tc,.int .i64 gv,.nilFunc] 291)) (w.heap.size+1) #[.int .i64 t.pl,.slice ta tn tc,.int .i64 gv,.nilFunc,.slice pa pn pc,.string t.tx,.bool B]
  have hc:∀ j,((w1.alloc (.cells #[.slice ta tn tc,.int .i64 gv,.nilFunc] 291)).setRow (w.heap.size+1) #[.int .i64 t.pl,.slice ta tn tc,.int .i64 gv,.nilFunc,.slice pa pn pc,.string t.tx,.bool B]).cell? ⟨w.heap.size+1,j,none⟩=(#[.int .i64 t.pl,.slice ta tn tc,.int .i64 gv,.nilFunc,.slice pa pn pc,.string t.tx,.bool B]:Array Value)[j]?:=fun j=>cell_setRow_same _ _ _ _ _ _ _ HROW.out
  have hb2:=ae w1 (.cells #[.slice ta tn tc,.int .i64 gv,.nilFunc] 291)
  have hz:((w1.alloc (.cells #[.slice ta tn tc,.int .i64 gv,.nilFunc] 291)).setRow (w.heap.size+1) #[.int .i64 t.pl,.slice ta tn tc,.int .i64 gv,.nilFunc,.slice pa pn pc,.string t.tx,.bool B]).heap.size=(w1.alloc (.cells #[.slice ta tn tc,.int .i64 gv,.nilFunc] 291)).heap.size:=setRow_size _ _ _
  generalize ((w1.alloc (.cells #[.slice ta tn tc,.int .i64 gv,.nilFunc] 291)).setRow (w.heap.size+1) #[.int .i64 t.pl,.slice ta tn tc,.int .i64 gv,.nilFunc,.slice pa pn pc,.string t.tx,.bool B])=W7 at *
  have hB7:=eE (HB1.out.trans (hb2.mono HB1.out.size)) hG (fun k hk=>by cases hk;omega)
  clear hz
  go_wp2_with fail
  have c0:=hc 0
  have c1:=hc 1
  have c2:=hc 2
  have c3:=hc 3
  have c4:=hc 4
  have c5:=hc 5
  have c6:=hc 6
  simp only [List.getElem?_toArray,List.getElem?_cons_zero,List.getElem?_cons_succ] at c0 c1 c2 c3 c4 c5 c6
  have hN:Nd W7 g (.app t.pl t.tx l) (.iface 302 (.agg #[.int .i64 t.pl,.slice ta tn tc,.int .i64 gv,.nilFunc,.slice pa pn pc,.string t.tx,.bool B])):=by
   rw [Nd,HBB.out]
   refine ⟨_,_,_,_,us,rfl,fun o ho=>?_,HP.out.later hB7,HL.out.later hB7,⟨_,_,_,rfl⟩,by first | exact .inl rfl | exact .inr ⟨_,_,rfl⟩⟩
   obtain ⟨e1,e2,e3⟩:=HF.out o ho
   exact ⟨e1,((e2.later hb2).grown hG).up (by omega),aF.up (by omega) ((e3.later hb2).grown hG)⟩
  exact bodyPost_ret (v:=.agg #[.int .i64 t.pl,.slice ta tn tc,.int .i64 gv,.nilFunc,.slice pa pn pc,.string t.tx,.bool B]) (by simp [results,Tryz.results343,go_sem,c0,c1,c2,c3,c4,c5,c6]) rfl ⟨hB7,_,rfl,hN⟩
 ·have hrow:(w1.alloc (.cells #[.slice ta tn tc,.int .i64 gv,.func (.func fn) #[] fc] 291)).heap[w.heap.size+1]?=some (.cells #[.int .i64 0,.slice none 0 0,.int .i64 0,.nilFunc,.slice none 0 0,.string ⟨#[]⟩,.bool false] 302 (0,0)):=(HO0.out.later (ae _ _)).row
  have hi7:=BA
  have HROW:=jg hrow
  clear hrow
  have ho1:Hid ((#[.int .i64 t.pl,.slice ta tn tc,.int .i64 gv,.func (.func fn) #[] fc,.slice pa pn pc,.string t.tx,.bool B]:Array Value).all (·.oneCell')=true):=by unfold Hid;simp [Value.oneCell']
  go_wp2_with (refine wpList_store_row rfl 302 _ _ rfl (w.heap.size+1) #[.int .i64 t.pl,.slice ta tn tc,.int .i64 gv,.func (.func fn) #[] fc,.slice pa pn pc,.string t.tx,.bool B] rfl rfl 302 #[.int .i64 0,.slice none 0 0,.int .i64 0,.nilFunc,.slice none 0 0,.string ⟨#[]⟩,.bool false] HROW.out hi7 rfl ho1.out ?_)
  have hG:=iq (w1.alloc (.cells #[.slice ta tn tc,.int .i64 gv,.func (.func fn) #[] fc] 291)) (w.heap.size+1) #[.int .i64 t.pl,.slice ta tn tc,.int .i64 gv,.func (.func fn) #[] fc,.slice pa pn pc,.string t.tx,.bool B]
  have hc:∀ j,((w1.alloc (.cells #[.slice ta tn tc,.int .i64 gv,.func (.func fn) #[] fc] 291)).setRow (w.heap.size+1) #[.int .i64 t.pl,.slice ta tn tc,.int .i64 gv,.func (.func fn) #[] fc,.slice pa pn pc,.string t.tx,.bool B]).cell? ⟨w.heap.size+1,j,none⟩=(#[.int .i64 t.pl,.slice ta tn tc,.int .i64 gv,.func (.func fn) #[] fc,.slice pa pn pc,.string t.tx,.bool B]:Array Value)[j]?:=fun j=>cell_setRow_same _ _ _ _ _ _ _ HROW.out
  have hb2:=ae w1 (.cells #[.slice ta tn tc,.int .i64 gv,.func (.func fn) #[] fc] 291)
  have hz:((w1.alloc (.cells #[.slice ta tn tc,.int .i64 gv,.func (.func fn) #[] fc] 291)).setRow (w.heap.size+1) #[.int .i64 t.pl,.slice ta tn tc,.int .i64 gv,.func (.func fn) #[] fc,.slice pa pn pc,.string t.tx,.bool B]).heap.size=(w1.alloc (.cells #[.slice ta tn tc,.int .i64 gv,.func (.func fn) #[] fc] 291)).heap.size:=setRow_size _ _ _
  generalize ((w1.alloc (.cells #[.slice ta tn tc,.int .i64 gv,.func (.func fn) #[] fc] 291)).setRow (w.heap.size+1) #[.int .i64 t.pl,.slice ta tn tc,.int .i64 gv,.func (.func fn) #[] fc,.slice pa pn pc,.string t.tx,.bool B])=W7 at *
  have hB7:=eE (HB1.out.trans (hb2.mono HB1.out.size)) hG (fun k hk=>by cases hk;omega)
  clear hz
  go_wp2_with fail
  have c0:=hc 0
  have c1:=hc 1
  have c2:=hc 2
  have c3:=hc 3
  have c4:=hc 4
  have c5:=hc 5
  have c6:=hc 6
  simp only [List.getElem?_toArray,List.getElem?_cons_zero,List.getElem?_cons_succ] at c0 c1 c2 c3 c4 c5 c6
  have hN:Nd W7 g (.app t.pl t.tx l) (.iface 302 (.agg #[.int .i64 t.pl,.slice ta tn tc,.int .i64 gv,.func (.func fn) #[] fc,.slice pa pn pc,.string t.tx,.bool B])):=by
   rw [Nd,HBB.out]
   refine ⟨_,_,_,_,us,rfl,fun o ho=>?_,HP.out.later hB7,HL.out.later hB7,⟨_,_,_,rfl⟩,by first | exact .inl rfl | exact .inr ⟨_,_,rfl⟩⟩
   obtain ⟨e1,e2,e3⟩:=HF.out o ho
   exact ⟨e1,((e2.later hb2).grown hG).up (by omega),aF.up (by omega) ((e3.later hb2).grown hG)⟩
  exact bodyPost_ret (v:=.agg #[.int .i64 t.pl,.slice ta tn tc,.int .i64 gv,.func (.func fn) #[] fc,.slice pa pn pc,.string t.tx,.bool B]) (by simp [results,Tryz.results343,go_sem,c0,c1,c2,c3,c4,c5,c6]) rfl ⟨hB7,_,rfl,hN⟩
theorem Ps.suffix {L:ByteArray->Int->Int->ByteArray->Prop} {E:Nat} {m:Mode} {lev:Nat} {ts:List Tk} {o:PR} (h:Ps L E m lev ts o) :
 ∀ x ts',o=.ok (x,ts')->∀ t∈ts',t∈ts:=by
 induction h with
 | jend h=>intro x ts' e;cases e;exact fun t h=>h
 | jok _ _ _ ih1 ih2=>intro x ts' e t ht;exact ih1 _ _ rfl t (ih2 _ _ e t ht)
 | jstep _ _ _ ih1 ih2=>intro x ts' e t ht;exact List.mem_cons_of_mem _ (ih1 _ _ rfl t (ih2 _ _ e t ht))
 | pok _ _ _ _ ih1=>intro x ts' e;cases e;exact fun t ht=>List.mem_cons_of_mem _ (ih1 _ _ rfl t ht)
 | pnone _ _ _ ih1=>intro x ts' e;exact ih1 _ _ e
 | cnone _ _ ih1=>intro x ts' e;cases e;exact ih1 _ _ rfl
 | cok _ _ _ ih1 ih2=>intro x ts' e;cases e;exact fun t ht=>ih1 _ _ rfl t (List.mem_cons_of_mem _ (ih2 _ _ rfl t ht))
 | lit=>intro x ts' e;cases e;exact fun t ht=>List.mem_cons_of_mem _ ht
 | ncol=>intro x ts' e;cases e;exact fun t ht=>List.mem_cons_of_mem _ ht
 | zend=>intro x ts' e;cases e;exact fun t ht=>List.mem_cons_of_mem _ ht
 | aend=>intro x ts' e;cases e;exact fun t ht=>List.mem_cons_of_mem _ ht
 | ook _ _ _ _ _ ih1=>intro x ts' e;cases e;exact fun t ht=>List.mem_cons_of_mem _ (ih1 _ _ rfl t (List.mem_cons_of_mem _ ht))
 | nargs _ _ _ _ _ _ _ _ ih1=>intro x ts' e t ht;exact List.mem_cons_of_mem _ (List.mem_cons_of_mem _ (ih1 _ _ e t ht))
 | zok _ _ _ ih1 ih2=>intro x ts' e t ht;exact ih1 _ _ rfl t (ih2 _ _ e t ht)
 | aok _ _ _ ih1 ih2=>intro x ts' e t ht;exact List.mem_cons_of_mem _ (ih1 _ _ rfl t (ih2 _ _ e t ht))
 | _=>intro x ts' e;cases e
def kp (ts:List Tk):Prop:=∀ t∈ts,t.tx.size<=200
theorem kp.on {L:ByteArray->Int->Int->ByteArray->Prop} {E:Nat} {m:Mode} {lev:Nat} {ts ts':List Tk} {x:X} (h:Ps L E m lev ts (.ok (x,ts'))) (hf:kp ts):kp ts':=fun t ht=>hf t (h.suffix x ts' rfl t ht)
theorem cK.grownB {w w':World} {B:Nat} {x:Value} {vs:List Value} {r:Option Nat} (h:cK w B x vs) (hg:w.grownBy w' r) (hr:∀ k,r=some k->k<=B):cK w' B x vs:=by
 rcases h with h | ⟨b,c,h1,h2,h3,h4,h5⟩
 ·exact .inl h
 ·exact .inr ⟨b,c,h1,h2,h3,h4,fun i hi=>hg.cell (h5 i hi) (fun e=>by have h:=hr _ e.symm;simp only at h;omega)⟩
theorem aF.grownB {w w':World} {B:Nat} {r:Option Nat} (hg:w.grownBy w' r) (hr:∀ k,r=some k->k<=B):∀ {c:pQ} {v:Value},aF w B c v->aF w' B c v
 | .raw n,v,h=>h
 | .bool n b,v,⟨a,h1,h2,h3⟩=>⟨a,h1,h2,hg.cell h3 (fun e=>by have h:=hr _ e.symm;simp only at h;omega)⟩
 | .one n c,v,⟨a,u,h1,h2,h3,h4⟩=>⟨a,u,h1,h2,hg.cell h3 (fun e=>by have h:=hr _ e.symm;simp only at h;omega),aF.grownB hg hr h4⟩
mutual
theorem Nd.grownB {w w':World} {B:Nat} {r:Option Nat} (hg:w.grownBy w' r) (hr:∀ k,r=some k->k<=B):∀ (x:X) (v:Value),Nd w B x v->Nd w' B x v
 | .lit k n t,v,h=>h
 | .col pl nm,v,h=>h
 | .pre pl s x,v,h=>by
  rw [Nd] at h ⊢
  obtain ⟨tk,f,ps,u,h1,h2,h3,h4,h5⟩:=h
  exact ⟨tk,f,ps,u,h1,h2.grownB hg hr,h3.grownB hg hr,h4.grownB hg hr,Nd.grownB hg hr x u h5⟩
 | .inf pl s l r',v,h=>by
  rw [Nd] at h ⊢
  obtain ⟨tk,f,ps,u,u',h1,h0,h2,h3,h4,h5,h6⟩:=h
  exact ⟨tk,f,ps,u,u',h1,h0,h2.grownB hg hr,h3.grownB hg hr,h4.grownB hg hr,Nd.grownB hg hr l u h5,Nd.grownB hg hr r' u' h6⟩
 | .app pl nm l,v,h=>by
  rw [Nd] at h ⊢
  obtain ⟨tk,gv,f,ps,us,h1,h2,h3,h4,h9⟩:=h
  exact ⟨tk,gv,f,ps,us,h1,fun o ho=>⟨(h2 o ho).1,(h2 o ho).2.1.grownB hg hr,(h2 o ho).2.2.grownB hg hr⟩,h3.grownB hg hr,ez.grownB hg hr l us h4,h9⟩
theorem ez.grownB {w w':World} {B:Nat} {r:Option Nat} (hg:w.grownBy w' r) (hr:∀ k,r=some k->k<=B):∀ (l:List X) (us:List Value),ez w B l us->ez w' B l us
 | [],us,h=>h
 | x::l,us,h=>by
  rw [ez] at h ⊢
  obtain ⟨u,us',h1,h2,h3⟩:=h
  exact ⟨u,us',h1,Nd.grownB hg hr x u h2,ez.grownB hg hr l us' h3⟩
end
mutual
theorem Nd.up {w:World} {B B':Nat} (hb:B'<=B):∀ (x:X) (v:Value),Nd w B x v->Nd w B' x v
 | .lit k n t,v,h=>h
 | .col pl nm,v,h=>h
 | .pre pl s x,v,h=>by
  rw [Nd] at h ⊢
  obtain ⟨tk,f,ps,u,h1,h2,h3,h4,h5⟩:=h
  exact ⟨tk,f,ps,u,h1,h2.up hb,aF.up hb h3,h4.up hb,Nd.up hb x u h5⟩
 | .inf pl s l r',v,h=>by
  rw [Nd] at h ⊢
  obtain ⟨tk,f,ps,u,u',h1,h0,h2,h3,h4,h5,h6⟩:=h
  exact ⟨tk,f,ps,u,u',h1,h0,h2.up hb,aF.up hb h3,h4.up hb,Nd.up hb l u h5,Nd.up hb r' u' h6⟩
 | .app pl nm l,v,h=>by
  rw [Nd] at h ⊢
  obtain ⟨tk,gv,f,ps,us,h1,h2,h3,h4,h9⟩:=h
  exact ⟨tk,gv,f,ps,us,h1,fun o ho=>⟨(h2 o ho).1,(h2 o ho).2.1.up hb,aF.up hb (h2 o ho).2.2⟩,h3.up hb,ez.up hb l us h4,h9⟩
theorem ez.up {w:World} {B B':Nat} (hb:B'<=B):∀ (l:List X) (us:List Value),ez w B l us->ez w B' l us
 | [],us,h=>h
 | x::l,us,h=>by
  rw [ez] at h ⊢
  obtain ⟨u,us',h1,h2,h3⟩:=h
  exact ⟨u,us',h1,Nd.up hb x u h2,ez.up hb l us' h3⟩
end
def bI (L:ByteArray->Int->Int->ByteArray->Prop) (w:World) (g E:Nat) (m:Mode) (lev:Nat) (ts:List Tk) (e:Ending) (w':World):Prop:=w.grownBy w' (some g)/\∃ o,Ps L E m lev ts o/\
 match o with
 | .ok (x,ts')=>∃ v,e=.returned v/\Nd w' (w.heap.size-1) x v/\PS w' g E ts' lev
 | .error f=>e=px f.pl f.why
def gu (L:ByteArray->Int->Int->ByteArray->Prop) (G:World->Prop) (g E fn r n:Nat):Prop:=
 ∀ (ts:List Tk) (lev:Nat) (W:World),ts.length<=n->kp ts->PS W g E ts lev->G W->Calls Tryz.prog fn #[.pointer (some ⟨g,0,none⟩)] W (bI L W g E (.D r) lev ts)
theorem bI.iface {L:ByteArray->Int->Int->ByteArray->Prop} {w w':World} {g E:Nat} {m:Mode} {lev:Nat} {ts:List Tk} {e:Ending} (h:bI L w g E m lev ts e w') :
 (w.grownBy w' (some g)/\∃ x ts' t p,Ps L E m lev ts (.ok (x,ts'))/\e=.returned (.iface t p)/\Nd w' (w.heap.size-1) x (.iface t p)/\PS w' g E ts' lev)\/(w.grownBy w' (some g)/\∃ f,Ps L E m lev ts (.error f)/\e=px f.pl f.why):=by
 obtain ⟨hg,o,hp,ho⟩:=h
 cases o with
 | error f=>exact .inr ⟨hg,f,hp,ho⟩
 | ok q=>
  obtain ⟨x,ts'⟩:=q
  obtain ⟨v,h1,h2,h3⟩:=ho
  obtain ⟨t,p,rfl⟩:=h2.iface
  exact .inl ⟨hg,x,ts',t,p,hp,h1,h2,h3⟩
def fl (L:ByteArray->Int->Int->ByteArray->Prop):Prop:=∀ s k n t k' n' t',L s k n t->L s k' n' t'->k=k'/\n=n'/\t=t'
theorem gu.exi {L:ByteArray->Int->Int->ByteArray->Prop} {G:World->Prop} {g E fn r n:Nat} (h:gu L G g E fn r n) {ts:List Tk} {lev:Nat} {W:World} (hn:ts.length<=n) (hf:kp ts) (hp:PS W g E ts lev) (hw:G W):∃ o,Ps L E (.D r) lev ts o:=by
 obtain ⟨e,w',fr,⟨_,o,ho,_⟩,_⟩:=h ts lev W hn hf hp hw []
 exact ⟨o,ho⟩
theorem gu.ok {L:ByteArray->Int->Int->ByteArray->Prop} {G:World->Prop} {g E fn r n:Nat} (hL:fl L) (h:gu L G g E fn r n) {ts ts':List Tk} {lev:Nat} {x:X} (hx:Ps L E (.D r) lev ts (.ok (x,ts'))) (W:World) (hn:ts.length<=n) (hf:kp ts) (hp:PS W g E ts lev) (hw:G W) :
 Calls Tryz.prog fn #[.pointer (some ⟨g,0,none⟩)] W fun e w'=>W.grownBy w' (some g)/\∃ t p,e=.returned (.iface t p)/\Nd w' (W.heap.size-1) x (.iface t p)/\PS w' g E ts' lev:=by
 refine (h ts lev W hn hf hp hw).mono ?_
 intro e w' hpp
 rcases hpp.iface with ⟨hg1,y,ts1,t,p,hp1,rfl,hn1,hs1⟩ | ⟨hg1,f,hp1,rfl⟩
 ·cases hp1.one hL _ hx
  exact ⟨hg1,t,p,rfl,hn1,hs1⟩
 ·cases hp1.one hL _ hx
theorem gu.bad {L:ByteArray->Int->Int->ByteArray->Prop} {G:World->Prop} {g E fn r n:Nat} (hL:fl L) (h:gu L G g E fn r n) {ts:List Tk} {lev:Nat} {f:jK} (hx:Ps L E (.D r) lev ts (.error f)) (W:World) (hn:ts.length<=n) (hf:kp ts) (hp:PS W g E ts lev) (hw:G W) :
 Calls Tryz.prog fn #[.pointer (some ⟨g,0,none⟩)] W fun e w'=>W.grownBy w' (some g)/\e=px f.pl f.why:=by
 refine (h ts lev W hn hf hp hw).mono ?_
 intro e w' hpp
 rcases hpp.iface with ⟨hg1,y,ts1,t,p,hp1,rfl,hn1,hs1⟩ | ⟨hg1,f',hp1,rfl⟩
 ·cases hp1.one hL _ hx
 ·cases hp1.one hL _ hx
  exact ⟨hg1,rfl⟩
theorem an {fn:Func} {R:Ending->World->Prop} {c:List PanicEntry} {t:Array Value} {w:World}:bodyPost Tryz.prog fn R (.panic c) { tmps:=t,defers:=[] } w=R (.panicked c) w:=by simp [bodyPost]
attribute [local go_sem] an
theorem pp (a b:Int) (c:ByteArray) (w:World):(Instr.field 136 (.agg #[.int .i64 a,.int .i64 b,.string c]) 2).run Tryz.prog w=.ok (.string c) w:=by
 simp [Instr.field,go_sem,part]
 try rfl
theorem gR {L:ByteArray->Int->Int->ByteArray->Prop} {G:World->Prop} {g:Nat} (hL:fl L) (hG:∀ W W',G W->W.grownBy W' (some g)->G W') (E fn r:Nat) (hr:jr r) (ts:List Tk) (lev:Nat) (w:World) (hent:∀ (a:Array Value) (W:World),(callFunc fn a).run Tryz.prog W=.ok (.enter fn a) W) (hP:gu L G g E fn (r+1) ts.length) (hf:kp ts) (h:PS w g E ts lev) (hw:G w) :
 Calls Tryz.prog 269 #[.pointer (some ⟨g,0,none⟩),.int .i64 r,.func (.func fn) #[.pointer (some ⟨g,0,none⟩)] #[]] w (bI L w g E (.D r) lev ts):=by
 have HP:=jg hP
 have HG:=jg hG
 have HF:=jg hf
 have HJ:=jg hr
 have HLL:=jg hL
 have H:=jg h
 have HW:=jg hw
 have hgw:g<=w.heap.size-1:=by have:=h.lt;omega
 have hgw0:0<w.heap.size:=by have:=h.lt;omega
 clear hP hG hf hr h hw hL
 have hf2:=pp
 go_in
 go_wp2_with fail
 refine (HP.out ts lev _ lR HF.out H.out HW.out).mono ?_
 intro e w1 hpp
 rcases hpp.iface with ⟨hg1,x,ts1,t,p,hp1,rfl,hn1,hs1⟩ | ⟨hg1,f,hp1,rfl⟩
 ·have HG1:=jg hg1
  have HN1:=jg hn1
  have HS1:=jg hs1
  have HP1:=jg hp1
  clear hg1 hn1 hs1 hp1 hpp H
  go_wp2_with fail
  go_loopg [7] ts1.length (fun k left wr=>∃ (l:X) (ts2:List Tk) (t:TypeId) (p:Value),left=.iface t p/\ts2.length=k/\ts2.length<=ts.length/\kp ts2/\Nd wr (w.heap.size-1) l left/\PS wr g E ts2 lev/\w.grownBy wr (some g)/\G wr/\∀ o,Ps L E (.J r l) lev ts2 o->Ps L E (.D r) lev ts o)
  case atStart=>
   exact ⟨x,ts1,t,p,rfl,rfl,Nat.le_of_lt HP1.out.less,kp.on HP1.out HF.out,HN1.out,HS1.out,HG1.out,HG.out _ _ HW.out HG1.out,fun o ho=>.jok HJ.out HP1.out ho⟩
  case round=>
   obtain ⟨l,ts2,t2,p2,rfl,hk,hle,hfew,hnd,hps,hgr,hgw,himp⟩:=hrel
   have A1:=jg hk
   have A2:=jg hfew
   have A3:=jg hnd
   have A4:=jg hps
   have A5:=jg hgr
   have A6:=jg hgw
   have A7:=jg himp
   clear hk hfew hnd hps hgr hgw himp HN1 HS1 HP1 HG1
   go_wp2_with fail
   refine (bK g E lev ts2 _ A4.out).mono ?_
   rintro e w2 ⟨rfl,hb2⟩
   have B4:=jg (A4.out.later hb2)
   have B3:=jg (A3.out.later hb2)
   have B5:=jg (ai A5.out (aj hb2))
   have B6:=jg (HG.out _ _ A6.out (aj hb2))
   clear hb2 A3 A4 A5 A6
   unfold eA
   go_wp2_with fail
   refine (gF _ _).mono ?_
   rintro e w3 ⟨rfl,h3⟩
   have h3:=h3.symm
   subst h3
   by_cases hsg:bW (hd E ts2).tx=r
   ·cases ts2 with
    | nil=>
     exfalso
     have:bW (hd E []).tx=7:=by show bW ⟨#[]⟩=7;decide +kernel
     rw [this] at hsg
     have hj:=HJ.out
     unfold jr at hj
     omega
    | cons t3 ts3=>
     have HSG:Hid (bW t3.tx=r):=hsg
     have heq:(((bW (hd E (t3::ts3)).tx:Nat):Int)==(r:Int))=true:=by rw [hsg];simp
     clear hsg
     generalize hN:((bW (hd E (t3::ts3)).tx:Nat):Int)=N at *
     clear hN
     go_wp2_with fail
     refine (bt g E lev (t3::ts3) _ B4.out).mono ?_
     rintro e w4 ⟨rfl,hg4,hp4⟩
     have C3:=jg (Nd.grownB hg4 (fun k hk=>by cases hk;exact hgw) _ _ B3.out)
     have C4:Hid (PS w4 g E ts3 lev):=hp4
     have C5:=jg (ai B5.out hg4)
     have C6:=jg (HG.out _ _ B6.out hg4)
     have hgl:=hp4.lt
     clear hg4 hp4 B3 B4 B5 B6
     rw [show hd E (t3::ts3)=t3 from rfl]
     have hle3:ts3.length<=ts.length:=by have:(t3::ts3).length<=ts.length:=hle;simp at this;omega
     have D2:Hid (kp ts3):=fun t ht=>A2.out t (by simp [ht])
     have D1:Hid (ts3.length<gk):=by have:=A1.out;unfold Hid;simp at this;omega
     obtain ⟨o,ho⟩:=HP.out.exi hle3 D2.out C4.out C6.out
     have hs7:bW t3.tx≠7:=by
      have hj:=HJ.out
      have:=HSG.out
      unfold jr at hj
      omega
     have HS7:=jg hs7
     clear hs7 A1 A2 hle
     unfold eA
     cases o with
     | error f=>
      have HO:=jg ho
      clear ho
      go_wp2_with fail
      have hC4:PS (w4.alloc (.cells #[.int .i64 t3.pl,.int .i64 t3.kd,.string t3.tx] 136)).drew g E ts3 lev:=C4.out.later (ae w4 _).drew
      have hC6:G (w4.alloc (.cells #[.int .i64 t3.pl,.int .i64 t3.kd,.string t3.tx] 136)).drew:=HG.out _ _ C6.out (aj (ae w4 _).drew)
      have HB:=gu.bad HLL.out HP.out HO.out _ hle3 D2.out hC4 hC6
      have HBB:Hid (Calls Tryz.prog fn #[.pointer (some ⟨g,0,none⟩)] (w4.alloc (.cells #[.int .i64 t3.pl,.int .i64 t3.kd,.string t3.tx] 136)).drew fun e w'=>(w4.alloc (.cells #[.int .i64 t3.pl,.int .i64 t3.kd,.string t3.tx] 136)).drew.grownBy w' (some g)/\e=.panicked [{ v:=df f.pl f.why,recovered:=false }]):=HB
      clear HB hC4 hC6
      have FIN:Hid (∀ w5,(w4.alloc (.cells #[.int .i64 t3.pl,.int .i64 t3.kd,.string t3.tx] 136)).drew.grownBy w5 (some g)->bI L w g E (.D r) lev ts (.panicked [{ v:=df f.pl f.why,recovered:=false }]) w5):=fun w5 hg5=>⟨ai C5.out (ai (aj (ae w4 _).drew) hg5),.error f,A7.out _ (.jsbad HSG.out HO.out),rfl⟩
      refine wp_region_any (by kernel_rfl) ?_
      change wpAny _ _ _ _ _ _ _ (World.drew _)
      refine wpAny_take (i:=1) (v:=.iface t2 p2) rfl (by kernel_rfl) (by kernel_rfl) (by kernel_rfl) (fun _ _ _ h=>h) (Or.inl ⟨by rfl,?_⟩) ?_
      ·intro w;go_simp
      refine wpAny_take (i:=2) (v:=.func (.func fn) #[.pointer (some ⟨g,0,none⟩)] #[]) rfl (by kernel_rfl) (by kernel_rfl) (by kernel_rfl) (fun _ _ _ h=>h) (Or.inl ⟨by rfl,?_⟩) ?_
      ·intro w;go_simp
      refine wpAny_ready (rs:=[0,3]) (by kernel_rfl) (by simp) ?_
      refine AllReady.cons rfl (fun K hK=>?_) ?_
      ·go_simp
       refine hK _ _ ?_
       clear hK K
       refine aY 3 (by kernel_rfl) rfl (fun K hK=>?_)
       go_simp
       refine HBB.out.mono ?_
       rintro e w5 ⟨hg5,rfl⟩
       exact FIN.out w5 hg5
      ·refine AllReady.cons rfl (fun K hK=>?_) AllReady.nil
       go_simp
       refine HBB.out.mono ?_
       rintro e w5 ⟨hg5,rfl⟩
       exact FIN.out w5 hg5
     | ok q=>
      obtain ⟨y,ts5⟩:=q
      have HO:=jg ho
      clear ho
      go_wp2_with fail
      have hC4:PS (w4.alloc (.cells #[.int .i64 t3.pl,.int .i64 t3.kd,.string t3.tx] 136)).drew g E ts3 lev:=C4.out.later (ae w4 _).drew
      have hC6:G (w4.alloc (.cells #[.int .i64 t3.pl,.int .i64 t3.kd,.string t3.tx] 136)).drew:=HG.out _ _ C6.out (aj (ae w4 _).drew)
      have HB:=gu.ok HLL.out HP.out HO.out _ hle3 D2.out hC4 hC6
      have HBB:=jg HB
      clear HB hC4 hC6
      have hwy:w.heap.size-1<=(w4.alloc (.cells #[.int .i64 t3.pl,.int .i64 t3.kd,.string t3.tx] 136)).drew.heap.size-1:=by have:=C5.out.size;simp;omega
      have hw4l:w.heap.size-1<(w4.alloc (.cells #[.int .i64 t3.pl,.int .i64 t3.kd,.string t3.tx] 136)).drew.heap.size:=by have:=C5.out.size;simp;omega
      go_region_held3 (fun w'=>w'.cell? ⟨w4.heap.size,0,none⟩=some (.int .i64 t3.pl)/\w'.cell? ⟨w4.heap.size,1,none⟩=some (.int .i64 t3.kd)/\w'.cell? ⟨w4.heap.size,2,none⟩=some (.string t3.tx))
       (first | go_keep)
       (first | (go_at_call 283;refine (ko t3 l y _ _ (w.heap.size-1) _ hw5l HS7.out n5l n5y).mono ?_;rintro e w6 ⟨hb6,v6,rfl,n6⟩;have s0:=af hb6 s0;have s1:=af hb6 s1;have s2:=af hb6 s2) | (refine HBB.out.mono ?_;rintro e w5 ⟨hg5,t5,p5,rfl,n5y,ps5⟩;have s0:w5.cell? ⟨w4.heap.size,0,none⟩=some (.int .i64 t3.pl):=hg5.cell (by go_simp) (fun e=>by have h:=sI e;simp only at h;omega);have s1:w5.cell? ⟨w4.heap.size,1,none⟩=some (.int .i64 t3.kd):=hg5.cell (by go_simp) (fun e=>by have h:=sI e;simp only at h;omega);have s2:w5.cell? ⟨w4.heap.size,2,none⟩=some (.string t3.tx):=hg5.cell (by go_simp) (fun e=>by have h:=sI e;simp only at h;omega);have hg5l:=ps5.lt;have n5l:Nd w5 (w.heap.size-1) l (.iface t2 p2):=Nd.grownB hg5 (fun k hk=>(by cases hk;exact hgw)) _ _ (C3.out.later (ae w4 _).drew);have n5y:=Nd.up hwy _ _ n5y;have hw5l:w.heap.size-1<w5.heap.size:=lL hw4l hg5.size))
      have E3:=jg n6
      have E4:=jg (ps5.later hb6)
      have E5:=jg (ai C5.out (ai (aj (ae w4 _).drew) (ai hg5 (aj hb6))))
      have E6:=jg (HG.out _ _ C6.out (ai (aj (ae w4 _).drew) (ai hg5 (aj hb6))))
      clear n6 ps5 hb6 hg5 n5l n5y s0 s1 s2 hg5l C3 C4 C5 C6 HBB
      go_wp2_with fail
      go_roundg ts5.length
      case measure=>have h1:=HO.out.less;have h2:=D1.out;omega
      case rel=>exact ⟨_,ts5,_,_,rfl,rfl,by have h1:=HO.out.less;omega,kp.on HO.out D2.out,E3.out,E4.out,E5.out,E6.out,fun o ho=>A7.out _ (.jstep HSG.out HO.out ho)⟩
   ·have hne:(((bW (hd E ts2).tx:Nat):Int)==(r:Int))=false:=by rw [beq_eq_false_iff_ne];omega
    have HSG:=jg hsg
    clear hsg
    generalize hN:((bW (hd E ts2).tx:Nat):Int)=N at *
    clear hN
    go_wp2_with fail
    go_ret
    exact ⟨B5.out,.ok (l,ts2),A7.out _ (.jend HSG.out),_,rfl,B3.out,B4.out⟩
 ·refine ⟨rfl,?_⟩
  exact ⟨hg1,.error f,.jbad HJ.out hp1,rfl⟩
end Go.Proofs.YtiiliobffnhpmaaGreatDoor
