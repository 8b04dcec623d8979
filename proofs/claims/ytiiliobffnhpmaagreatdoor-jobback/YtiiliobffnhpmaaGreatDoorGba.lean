import Derived.Test.YtiiliobffnhpmaaGreatDoorGaz
set_option linter.all false
set_option maxRecDepth 100000
set_option maxHeartbeats 4000000
namespace Go.Proofs.YtiiliobffnhpmaaGreatDoor
open Go.RowKit
theorem PX.size {L:ByteArray->Int->Int->ByteArray->Prop} {s:ByteArray} {x:X} (h:PX L s (.ok x)):jh x<=200:=by
 cases h with
 | ok a b c=>
  have h1:=c.size _ _ rfl
  obtain ⟨h2,_⟩:=fS _ _ _ _ b
  have h3:s.data.toList.length=s.size:=by simp
  rw [h3] at h2
  simp only [rZ,List.length_nil] at h1
  omega
open Classical in
noncomputable def yA (c:List Co):Except jK X->Except jK (X × Int)
 | .error f=>.error f
 | .ok x=>if bP c then (bY c x).bind fun k=>.ok (x,k) else .error ⟨0,4⟩
def lP (L:ByteArray->Int->Int->ByteArray->Prop) (w:World) (s:ByteArray) (c:List Co) (e:Ending) (w':World):Prop:=Below w.heap.size w w'/\∃ o,PX L s o/\
 match yA c o with
 | .ok (x,k)=>∃ t p,e=.returned (.tuple #[.iface t p,.int .i64 k])/\Nd w' (w.heap.size-1) x (.iface t p)
 | .error f=>e=.panicked [{ v:=df f.pl f.why,recovered:=false }]
theorem qi {L:ByteArray->Int->Int->ByteArray->Prop} {G:World->Prop} (hL:fl L) (hR:oB L G) (s:ByteArray) (a:Option Addr) (cc:Nat) (c:List Co) (w:World) (hG:∀ W W' r,(∀ k,r=some k->w.heap.size<=k)->G W->W.grownBy W' r->G W') (hw:G w) (hc:ap w a c) (hm:c.length<=maxLen) (hz:∀ x∈c,x.nm.size<=140737488355328) :
 Calls Tryz.prog 250 #[.string s,.slice a c.length cc] w (lP L w s c):=by
 have HP:=jg (parse_any hL hR s w hG hw)
 have HC:=jg hc
 have HM:=jg hm
 have HZ:=jg hz
 clear hL hR hG hw hc hm hz
 go_in
 go_wp2_with fail
 refine HP.out.mono ?_
 rintro e w1 ⟨hb1,o,hpx,ho⟩
 have HPX:=jg hpx
 have HB1:=jg hb1
 clear hpx hb1
 cases o with
 | error f=>
  subst ho
  have FIN:Hid (lP L w s c (.panicked [{ v:=df f.pl f.why,recovered:=false }]) w1):=⟨HB1.out,.error f,HPX.out,rfl⟩
  first | exact FIN.out | exact ⟨rfl,FIN.out⟩
 | ok x=>
  obtain ⟨t,p,rfl,hnd⟩:=ho
  have HN:=jg hnd
  clear hnd
  go_wp2_with fail
  refine (iQ a cc c w1 (HC.out.later HB1.out) HM.out HZ.out).mono ?_
  rintro e w2 ⟨⟨r,rfl,hr⟩,hb2⟩
  have HB2:=jg (HB1.out.trans (hb2.mono HB1.out.size))
  have HN2:=jg (HN.out.later hb2)
  clear hb2 HN
  by_cases hcol:bP c
  ·obtain rfl:r=true:=hr.2 hcol
   obtain ⟨t',p',fn,rc,hv,hme,hna,hent,hca⟩:=jU c a cc HM.out w2 _ (HC.out.later HB2.out) x _ HN2.out HPX.out.size
   cases hv
   have HCA:=jg hca
   have HCO:=jg hcol
   clear hca hcol hr
   cases hk:bY c x with
   | error f=>
    have FIN:Hid (∀ w',Below w2.heap.size w2 w'->lP L w s c (.panicked [{ v:=df f.pl f.why,recovered:=false }]) w'):=fun w' h=>⟨HB2.out.trans (h.mono HB2.out.size),.ok x,HPX.out,by rw [yA,if_pos HCO.out,hk];rfl⟩
    have HC2:Hid (∀ W,Below w2.heap.size w2 W->Calls Tryz.prog fn #[rc,.slice a c.length cc] W fun e w'=>Below w2.heap.size w2 w'/\e=.panicked [{ v:=df f.pl f.why,recovered:=false }]):=fun W hW=>by
     refine (HCA.out W hW).mono ?_
     rintro e w' h
     rw [hk] at h
     exact ⟨hW.trans (h.1.mono hW.size),h.2⟩
    clear hk HCA
    go_wp2_with fail
    refine (HC2.out _ bR).mono ?_
    rintro e w3 ⟨hb3,rfl⟩
    first | exact FIN.out w3 hb3 | exact ⟨rfl,FIN.out w3 hb3⟩
   | ok k=>
    have FIN:Hid (∀ w',Below w2.heap.size w2 w'->lP L w s c (.returned (.tuple #[.iface t p,.int .i64 k])) w'):=fun w' h=>⟨HB2.out.trans (h.mono HB2.out.size),.ok x,HPX.out,by rw [yA,if_pos HCO.out,hk];exact ⟨_,_,rfl,HN2.out.later h⟩⟩
    have HC2:Hid (∀ W,Below w2.heap.size w2 W->Calls Tryz.prog fn #[rc,.slice a c.length cc] W fun e w'=>Below w2.heap.size w2 w'/\e=.returned (.int .i64 k)):=fun W hW=>by
     refine (HCA.out W hW).mono ?_
     rintro e w' h
     rw [hk] at h
     exact ⟨hW.trans (h.1.mono hW.size),h.2⟩
    clear hk HCA
    go_wp2_with fail
    refine (HC2.out _ bR).mono ?_
    rintro e w3 ⟨hb3,rfl⟩
    have F3:=jg (FIN.out w3 hb3)
    clear FIN hb3
    go_wp2_with fail
    go_ret2
    exact F3.out
  ·obtain rfl:r=false:=by cases r with | false=>rfl | true=>exact absurd (hr.1 rfl) hcol
   have FIN:Hid (lP L w s c (.panicked [{ v:=df 0 4,recovered:=false }]) w2):=⟨HB2.out,.ok x,HPX.out,by rw [yA,if_neg hcol]⟩
   clear hr hcol
   go_wp2_with fail
   first | exact FIN.out | exact ⟨rfl,FIN.out⟩
theorem yG {L:ByteArray->Int->Int->ByteArray->Prop} {G:World->Prop} (hL:fl L) (hR:oB L G) (s:ByteArray) (w:World) (hG:∀ W W' r,(∀ k,r=some k->w.heap.size<=k)->G W->W.grownBy W' r->G W') (hw:G w):∃ o,PX L s o:=by
 obtain ⟨e,w',fr,⟨_,o,ho,_⟩,_⟩:=parse_any hL hR s w hG hw []
 exact ⟨o,ho⟩
theorem sS {L:ByteArray->Int->Int->ByteArray->Prop} {G:World->Prop} (hL:fl L) (hR:oB L G) (s:ByteArray) (a:Option Addr) (cc:Nat) (c:List Co) (w:World) (hG:∀ W W' r,(∀ k,r=some k->w.heap.size<=k)->G W->W.grownBy W' r->G W') (hw:G w) (hc:ap w a c) (hm:c.length<=maxLen) (hz:∀ x∈c,x.nm.size<=140737488355328) {o:Except jK X} (ho:PX L s o) :
 Calls Tryz.prog 250 #[.string s,.slice a c.length cc] w fun e w'=>Below w.heap.size w w'/\
  match yA c o with
  | .ok (x,k)=>∃ t p,e=.returned (.tuple #[.iface t p,.int .i64 k])/\Nd w' (w.heap.size-1) x (.iface t p)
  | .error f=>e=.panicked [{ v:=df f.pl f.why,recovered:=false }]:=by
 refine (qi hL hR s a cc c w hG hw hc hm hz).mono ?_
 rintro e w' ⟨h1,o',h2,h3⟩
 cases h2.one hL ho
 exact ⟨h1,h3⟩
theorem vI (s:ByteArray) (a:Option Addr) (n cc:Nat) (b b1 b2:Nat) (k k0:Int) (W:World) (h0:W.cell? ⟨b,0,none⟩=some (.string s)) (h1:W.cell? ⟨b1,0,none⟩=some (.slice a n cc)) (h2:aD W b2 93 1 [.int .i64 k0])
 (hc:Calls Tryz.prog 250 #[.string s,.slice a n cc] W fun e w'=>Below W.heap.size W w'/\∃ t p,e=.returned (.tuple #[.iface t p,.int .i64 k])) :
 Calls Tryz.prog 249 #[.pointer (some ⟨b,0,none⟩),.pointer (some ⟨b1,0,none⟩),.pointer (some ⟨b2,0,none⟩)] W fun e w'=>e=.returned (.tuple #[])/\W.grownBy w' (some b2)/\w'.cell? ⟨b2,0,none⟩=some (.int .i64 k):=by
 have HC:=jg hc
 have HO:=jg h2
 go_in
 go_wp2_with fail
 refine HC.out.mono ?_
 rintro e w2 ⟨hb2,t,p,rfl⟩
 have HO2:=jg (HO.out.later hb2)
 have HB2:=jg hb2
 have q0:=HO2.out.c 0 rfl
 have q1:=HO2.out.soft 0
 go_wp2_with fail
 obtain ⟨hp1,hp2⟩:=HO2.out.put 0 (.int .i64 k)
 have F1:=ai (aj HB2.out) hp2
 have F2:=hp1.c 0 rfl
 simp [bodyPost,results,Tryz.results249,go_sem]
 exact ⟨F1,F2⟩
theorem tL (s:ByteArray) (a:Option Addr) (n cc:Nat) (b b1 b2:Nat) (f:jK) (W:World) (h0:W.cell? ⟨b,0,none⟩=some (.string s)) (h1:W.cell? ⟨b1,0,none⟩=some (.slice a n cc))
 (hc:Calls Tryz.prog 250 #[.string s,.slice a n cc] W fun e w'=>Below W.heap.size W w'/\e=.panicked [{ v:=df f.pl f.why,recovered:=false }]) :
 Calls Tryz.prog 249 #[.pointer (some ⟨b,0,none⟩),.pointer (some ⟨b1,0,none⟩),.pointer (some ⟨b2,0,none⟩)] W fun e w'=>e=.panicked [{ v:=df f.pl f.why,recovered:=false }]/\Below W.heap.size W w':=by
 have HC:=jg hc
 go_in
 go_wp2_with fail
 refine HC.out.mono ?_
 rintro e w2 ⟨hb2,rfl⟩
 first | exact ⟨rfl,hb2⟩ | exact ⟨rfl,rfl,hb2⟩
theorem l8 (a:Array Value) (W:World):(callFunc 249 a).run Tryz.prog W=.ok (.enter 249 a) W:=eP Tryz.func249 (by kernel_rfl) (by rfl) a W
noncomputable def Eh (c:List Co) (o:Except jK X):Value:=match yA c o with
 | .ok (x,k)=>.tuple #[.int .i64 k,.int .i64 0,.nilIface]
 | .error f=>.tuple #[.int .i64 0,.int .i64 f.pl,.iface 37 (.int .i64 f.why)]
def ss (L:ByteArray->Int->Int->ByteArray->Prop) (w:World) (s:ByteArray) (c:List Co) (e:Ending) (w':World):Prop:=Below w.heap.size w w'/\∃ o,PX L s o/\e=.returned (Eh c o)
theorem wN.cell {w w':World} {b1 b2:Nat} (h:wN w w' b1 b2) {a:Addr} {v:Value} (hc:w.cell? a=some v) (n1:a.block≠b1) (n2:a.block≠b2):w'.cell? a=some v:=by
 have hl:=bL hc
 have:=h.block _ hl n1 n2
 rw [<-hc]
 simp only [World.cell?,this]
theorem wN.below {w0 w w':World} {b1 b2:Nat} (h:wN w w' b1 b2) (hb:Below w0.heap.size w0 w) (n1:w0.heap.size<=b1) (n2:w0.heap.size<=b2):Below w0.heap.size w0 w':=
 ⟨h.os.trans hb.os,h.tape.trans hb.tape,h.output.trans hb.output,Nat.le_trans hb.size h.size,fun i hi=>(h.block i (lL hi hb.size) (by omega) (by omega)).trans (hb.block i hi)⟩
theorem pX {W w':World} (h:Below ((W.alloc (.cells #[.int .i64 0] 3)).alloc (.cells #[.nilIface] 26)).heap.size ((W.alloc (.cells #[.int .i64 0] 3)).alloc (.cells #[.nilIface] 26)) w'):lp W w':=by
 have hs:((W.alloc (.cells #[.int .i64 0] 3)).alloc (.cells #[.nilIface] 26)).heap.size=W.heap.size+1+1:=by simp
 refine ⟨by have:=h.size;omega,?_,?_⟩
 ·rw [h.block _ (by omega),(ae (W.alloc (.cells #[.int .i64 0] 3)) _).block W.heap.size (by simp)]
  exact heap_alloc_new W _
 ·rw [h.block _ (by omega)]
  have:=heap_alloc_new (W.alloc (.cells #[.int .i64 0] 3)) (.cells #[.nilIface] 26)
  rw [show (W.alloc (.cells #[.int .i64 0] 3)).heap.size=W.heap.size+1 from by simp] at this
  exact this
theorem pW {W w':World} {r:Option Nat} (h:((W.alloc (.cells #[.int .i64 0] 3)).alloc (.cells #[.nilIface] 26)).grownBy w' r) (hr:∀ n,r=some n->n<W.heap.size):lp W w':=by
 have hs:((W.alloc (.cells #[.int .i64 0] 3)).alloc (.cells #[.nilIface] 26)).heap.size=W.heap.size+1+1:=by simp
 refine ⟨by have:=h.size;omega,?_,?_⟩
 ·rw [h.block _ (by omega) (fun e=>by have:=hr _ e.symm;omega),(ae (W.alloc (.cells #[.int .i64 0] 3)) _).block W.heap.size (by simp)]
  exact heap_alloc_new W _
 ·rw [h.block _ (by omega) (fun e=>by have:=hr _ e.symm;omega)]
  have:=heap_alloc_new (W.alloc (.cells #[.int .i64 0] 3)) (.cells #[.nilIface] 26)
  rw [show (W.alloc (.cells #[.int .i64 0] 3)).heap.size=W.heap.size+1 from by simp] at this
  exact this
theorem vR {L:ByteArray->Int->Int->ByteArray->Prop} {G:World->Prop} (hL:fl L) (hR:oB L G) (s:ByteArray) (a:Option Addr) (cc:Nat) (c:List Co) (w:World) (hG:∀ W W' r,(∀ k,r=some k->w.heap.size<=k)->G W->W.grownBy W' r->G W') (hw:G w) (hc:ap w a c) (hm:c.length<=maxLen) (hz:∀ x∈c,x.nm.size<=140737488355328) :
 Calls Tryz.prog 217 #[.string s,.slice a c.length cc] w (ss L w s c):=by
 obtain ⟨o,ho⟩:=yG hL hR s w hG hw
 have HCK:Hid (∀ W,Below w.heap.size w W->Calls Tryz.prog 250 #[.string s,.slice a c.length cc] W fun e w'=>Below W.heap.size W w'/\
  match yA c o with
  | .ok (x,k)=>∃ t p,e=.returned (.tuple #[.iface t p,.int .i64 k])/\Nd w' (W.heap.size-1) x (.iface t p)
  | .error f=>e=.panicked [{ v:=df f.pl f.why,recovered:=false }]):=fun W hW=>
  sS hL hR s a cc c W (fun V V' r h1 h2 h3=>hG V V' r (fun k hk=>Nat.le_trans hW.size (h1 k hk)) h2 h3) (hG w W none (fun k hk=>by cases hk) hw (aj hW)) (hc.later hW) hm hz ho
 have HO:=jg ho
 have hmf:=ff
 cases hck:yA c o with
 | error f=>
  have FIN:Hid (∀ w',Below w.heap.size w w'->ss L w s c (.returned (.tuple #[.int .i64 0,.int .i64 f.pl,.iface 37 (.int .i64 f.why)])) w'):=fun w' h=>⟨h,o,HO.out,by rw [Eh,hck]⟩
  have HC2:Hid (∀ W,Below w.heap.size w W->Calls Tryz.prog 250 #[.string s,.slice a c.length cc] W fun e w'=>Below W.heap.size W w'/\e=.panicked [{ v:=df f.pl f.why,recovered:=false }]):=fun W hW=>by
   refine (HCK.out W hW).mono ?_
   rintro e w' ⟨h1,h2⟩
   rw [hck] at h2
   exact ⟨h1,h2⟩
  go_in
  go_wp2_with fail
  have HB0:Hid (Below w.heap.size w (((w.alloc (.cells #[.string s] 9)).alloc (.cells #[.slice a c.length cc] 54)).alloc (.cells #[.int .i64 0] 93))):=((ae w _).alloc (by simp) _).alloc (by simp;omega) _
  have p0:(((w.alloc (.cells #[.string s] 9)).alloc (.cells #[.slice a c.length cc] 54)).alloc (.cells #[.int .i64 0] 93)).cell? ⟨w.heap.size,0,none⟩=some (.string s):=by go_simp
  have p1:(((w.alloc (.cells #[.string s] 9)).alloc (.cells #[.slice a c.length cc] 54)).alloc (.cells #[.int .i64 0] 93)).cell? ⟨w.heap.size+1,0,none⟩=some (.slice a c.length cc):=by go_simp
  have hsz:(((w.alloc (.cells #[.string s] 9)).alloc (.cells #[.slice a c.length cc] 54)).alloc (.cells #[.int .i64 0] 93)).heap.size=w.heap.size+1+1+1:=by simp
  have p2:aD (((w.alloc (.cells #[.string s] 9)).alloc (.cells #[.slice a c.length cc] 54)).alloc (.cells #[.int .i64 0] 93)) (w.heap.size+1+1) 93 1 [.int .i64 0]:=by
   have:=aD.new ((w.alloc (.cells #[.string s] 9)).alloc (.cells #[.slice a c.length cc] 54)) 93 1 #[.int .i64 0] rfl
   simpa using this
  generalize (((w.alloc (.cells #[.string s] 9)).alloc (.cells #[.slice a c.length cc] 54)).alloc (.cells #[.int .i64 0] 93))=W0 at *
  have hb2:Below W0.heap.size W0 ((W0.alloc (.cells #[.int .i64 0] 3)).alloc (.cells #[.nilIface] 26)):=(ae W0 _).alloc (by simp) _
  have HD:=tL s a c.length cc w.heap.size (w.heap.size+1) (w.heap.size+1+1) f _ (af hb2 p0) (af hb2 p1) (HC2.out _ (HB0.out.trans (hb2.mono HB0.out.size)))
  have HE:=mn 249 _ W0 (fun w'=>Below W0.heap.size W0 w') f.pl f.why l8 (HD.mono (fun e w' ⟨h1,h2⟩=>⟨h1,pX h2,hb2.trans (h2.mono hb2.size)⟩))
  refine HE.mono ?_
  rintro e w2 ⟨rfl,w1,hb1,hex⟩
  have q2:=hex.cell (af hb1 (by rw [p2.cell 0 (by decide)];rfl)) (by simp;omega) (by simp;omega)
  have F3:=jg (FIN.out w2 (hex.below (HB0.out.trans (hb1.mono HB0.out.size)) (by omega) (by omega)))
  go_wp2_with fail
  refine bodyPost_ret (v:=.tuple #[.int .i64 0,.int .i64 f.pl,.iface 37 (.int .i64 f.why)]) (by simp [results,Tryz.results217,go_sem]) rfl ?_
  exact F3.out
 | ok q=>
  obtain ⟨x,k⟩:=q
  have FIN:Hid (∀ w',Below w.heap.size w w'->ss L w s c (.returned (.tuple #[.int .i64 k,.int .i64 0,.nilIface])) w'):=fun w' h=>⟨h,o,HO.out,by rw [Eh,hck]⟩
  have HC2:Hid (∀ W,Below w.heap.size w W->Calls Tryz.prog 250 #[.string s,.slice a c.length cc] W fun e w'=>Below W.heap.size W w'/\∃ t p,e=.returned (.tuple #[.iface t p,.int .i64 k])):=fun W hW=>by
   refine (HCK.out W hW).mono ?_
   rintro e w' ⟨h1,h2⟩
   rw [hck] at h2
   obtain ⟨t,p,h3,_⟩:=h2
   exact ⟨h1,t,p,h3⟩
  go_in
  go_wp2_with fail
  have HB0:Hid (Below w.heap.size w (((w.alloc (.cells #[.string s] 9)).alloc (.cells #[.slice a c.length cc] 54)).alloc (.cells #[.int .i64 0] 93))):=((ae w _).alloc (by simp) _).alloc (by simp;omega) _
  have p0:(((w.alloc (.cells #[.string s] 9)).alloc (.cells #[.slice a c.length cc] 54)).alloc (.cells #[.int .i64 0] 93)).cell? ⟨w.heap.size,0,none⟩=some (.string s):=by go_simp
  have p1:(((w.alloc (.cells #[.string s] 9)).alloc (.cells #[.slice a c.length cc] 54)).alloc (.cells #[.int .i64 0] 93)).cell? ⟨w.heap.size+1,0,none⟩=some (.slice a c.length cc):=by go_simp
  have hsz:(((w.alloc (.cells #[.string s] 9)).alloc (.cells #[.slice a c.length cc] 54)).alloc (.cells #[.int .i64 0] 93)).heap.size=w.heap.size+1+1+1:=by simp
  have p2:aD (((w.alloc (.cells #[.string s] 9)).alloc (.cells #[.slice a c.length cc] 54)).alloc (.cells #[.int .i64 0] 93)) (w.heap.size+1+1) 93 1 [.int .i64 0]:=by
   have:=aD.new ((w.alloc (.cells #[.string s] 9)).alloc (.cells #[.slice a c.length cc] 54)) 93 1 #[.int .i64 0] rfl
   simpa using this
  generalize (((w.alloc (.cells #[.string s] 9)).alloc (.cells #[.slice a c.length cc] 54)).alloc (.cells #[.int .i64 0] 93))=W0 at *
  have hb2:Below W0.heap.size W0 ((W0.alloc (.cells #[.int .i64 0] 3)).alloc (.cells #[.nilIface] 26)):=(ae W0 _).alloc (by simp) _
  have HD:=vI s a c.length cc w.heap.size (w.heap.size+1) (w.heap.size+1+1) k 0 _ (af hb2 p0) (af hb2 p1) (p2.later hb2) (HC2.out _ (HB0.out.trans (hb2.mono HB0.out.size)))
  have HE:=nV 249 _ W0 (fun w'=>W0.grownBy w' (some (w.heap.size+1+1))/\w'.cell? ⟨w.heap.size+1+1,0,none⟩=some (.int .i64 k)) l8 (HD.mono (fun e w' ⟨h1,h2,h3⟩=>⟨h1,pW h2 (fun n hn=>by cases hn;omega),ai (aj hb2) h2,h3⟩))
  refine HE.mono ?_
  rintro e w2 ⟨rfl,w1,⟨hb1,hc1⟩,hex⟩
  have q2:=hex.cell hc1 (by simp;omega) (by simp;omega)
  have F3:=jg (FIN.out w2 (hex.below (eE HB0.out hb1 (fun n hn=>by cases hn;omega)) (by omega) (by omega)))
  go_wp2_with fail
  refine bodyPost_ret (v:=.tuple #[.int .i64 k,.int .i64 0,.nilIface]) (by simp [results,Tryz.results217,go_sem]) rfl ?_
  exact F3.out
end Go.Proofs.YtiiliobffnhpmaaGreatDoor
