import Derived.Test.YtiiliobffnhpmaaGreatDoorGaa
import Derived.Test.YtiiliobffnhpmaaGreatDoorGbb
import Derived.WalkSmall
import Derived.Laws.Cover1
import Derived.Handy
import Derived.Deep.RegionHeld3
import Derived.Deep.DrawnRows
import Derived.Deep.AppendLies
import Derived.Lib.ItoaLen
import Derived.Lib.AppendIntMem
set_option linter.all false
set_option maxRecDepth 100000
set_option maxHeartbeats 4000000
namespace Go.Proofs.YtiiliobffnhpmaaGreatDoor
namespace Vl
open Go.RowKit
theorem fw {a b:Bool} (h:a=b):Ending.returned (.bool a)=.returned (.bool b):=by rw [h]
theorem je {a b:ByteArray} (h:a=b):Ending.returned (.string a)=.returned (.string b):=by rw [h]
theorem al {w wx:World} {a:Addr} {v:Value} (hb:Below w.heap.size w wx) (h:w.cell? a=some v):wx.cell? a=some v:=(hb.cell (bL h)).trans h
theorem dI (w:World) (o1:Obj):Below w.heap.size w (w.alloc o1):=bR.alloc lR _
theorem uc {w w1:World} {o:Obj} (h:Below (w.alloc o).drew.heap.size (w.alloc o).drew w1):Below w.heap.size w w1:=(dI w o).drew.trans (h.mono (by simp))
def so (k1 n1:Int) (s1:ByteArray) (k2 n2:Int) (s2:ByteArray):Bool:=k1==k2&&(n1==n2&&s1.toList==s2.toList)
theorem DM (k1 n1:Int) (s1:ByteArray) (k2 n2:Int) (s2:ByteArray) (w:World) :
 (Op.equalIn 10000 148 (.agg #[.int .i64 k1,.int .i64 n1,.string s1]) (.agg #[.int .i64 k2,.int .i64 n2,.string s2])).run Tryz.prog w=.ok (so k1 n1 s1 k2 n2 s2) w:=by
 have u24:=Tryz.underlying93
 have u2:=Tryz.underlying2
 have u9:=Tryz.underlying9
 have a24:=Tryz.isAgg93
 have z24:=Tryz.sizeOf93
 have a2:=Tryz.isAgg2
 have z2:=Tryz.sizeOf2
 have a9:=Tryz.isAgg9
 have z9:=Tryz.sizeOf9
 have hS:Tryz.prog.underlying 148=some (.struct (Tryz.prog.fieldsOf 148)):=by kernel_rfl
 rw [show (10000:Nat)=9999+1 from rfl,run_equalIn_agg w 9999 148 _ _ hS (by kernel_rfl)]
 simp only [Program.fieldsOf,Tryz.underlying148]
 go_simp
 unfold so
 by_cases h1:k1=k2<;>by_cases h2:n1=n2<;>by_cases h3:s1.toList=s2.toList<;>simp [h1,h2,h3]
theorem lG:Tryz.prog.eqGuardType Tryz.prog.depth 148=false:=by kernel_rfl
theorem uo (k1 n1:Int) (s1:ByteArray) (k2 n2:Int) (s2:ByteArray) (w:World) :
 (binOp .neq 148 (.agg #[.int .i64 k1,.int .i64 n1,.string s1]) (.agg #[.int .i64 k2,.int .i64 n2,.string s2])).run Tryz.prog w=.ok (.bool (!so k1 n1 s1 k2 n2 s2)) w:=by
 rw [run_neq_struct,DM];rfl
theorem uA (k1 n1:Int) (s1:ByteArray) (k2 n2:Int) (s2:ByteArray) (w:World) :
 (binOp .eql 148 (.agg #[.int .i64 k1,.int .i64 n1,.string s1]) (.agg #[.int .i64 k2,.int .i64 n2,.string s2])).run Tryz.prog w=.ok (.bool (so k1 n1 s1 k2 n2 s2)) w:=by
 rw [run_eql_struct,DM];rfl
attribute [local go_sem ↓] uo uA
attribute [local go_sem] lG
theorem s4 (n:Int) (w:World):Calls Tryz.prog 238 #[.int .i64 n] w fun e w'=>e=.returned (.agg #[.int .i64 1,.int .i64 n,.string ⟨#[]⟩])/\Below w.heap.size w w':=by
 go_in
 go_wp2
 exact bodyPost_ret (v:=.agg #[.int .i64 1,.int .i64 n,.string ⟨#[]⟩]) (by simp [results,Tryz.results238,go_sem]) rfl ⟨rfl,dI _ _⟩
theorem ky (s:ByteArray) (w:World):Calls Tryz.prog 233 #[.string s] w fun e w'=>e=.returned (.agg #[.int .i64 3,.int .i64 0,.string s])/\Below w.heap.size w w':=by
 go_in
 go_wp2
 exact bodyPost_ret (v:=.agg #[.int .i64 3,.int .i64 0,.string s]) (by simp [results,Tryz.results233,go_sem]) rfl ⟨rfl,dI _ _⟩
theorem xI (s:ByteArray) (w:World):Calls Tryz.prog 233 #[.string s] w fun e w'=>e=.returned (.agg #[.int .i64 3,.int .i64 0,.string s])/\w'=w.alloc (.cells #[.int .i64 3,.int .i64 0,.string s] 148):=by
 go_in
 go_wp2
 exact bodyPost_ret (v:=.agg #[.int .i64 3,.int .i64 0,.string s]) (by simp [results,Tryz.results233,go_sem]) rfl ⟨rfl,rfl⟩
theorem mC (w:World):Calls Tryz.prog 236 #[.bool true] w fun e w'=>e=.returned (.agg #[.int .i64 2,.int .i64 1,.string ⟨#[]⟩])/\Below w.heap.size w w':=by
 go_in
 go_wp2
 exact bodyPost_ret (v:=.agg #[.int .i64 2,.int .i64 1,.string ⟨#[]⟩]) (by simp [results,Tryz.results236,go_sem]) rfl ⟨rfl,dI _ _⟩
theorem kY (w:World):Calls Tryz.prog 236 #[.bool false] w fun e w'=>e=.returned (.agg #[.int .i64 2,.int .i64 0,.string ⟨#[]⟩])/\Below w.heap.size w w':=by
 go_in
 go_wp2
 exact bodyPost_ret (v:=.agg #[.int .i64 2,.int .i64 0,.string ⟨#[]⟩]) (by simp [results,Tryz.results236,go_sem]) rfl ⟨rfl,dI _ _⟩
def validB (k n:Int) (s:ByteArray):Bool:=
 if k=0 then (n==0&&s.toList==[])
 else if k=1 then s.toList==[]
 else if k=2 then s.toList==[]&&(n==0||n==1)
 else if k=3 then n==0&&decide ((s.size:Int)<=60)
 else false
theorem jB:(⟨#[]⟩:ByteArray).toList=[]:=by simp
theorem At (n:Int) (s:ByteArray) (w:World) :
 Calls Tryz.prog 239 #[.agg #[.int .i64 0,.int .i64 n,.string s]] w fun e w'=>e=.returned (.bool (validB 0 n s))/\Below w.heap.size w w':=by
 have H:Hid (validB 0 n s=so 0 n s 0 0 ⟨#[]⟩):=by unfold Hid validB so;simp
 go_in
 go_wp2
 go_ret
 exact ⟨fw H.out.symm,dI _ _⟩
theorem Ap (n:Int) (s:ByteArray) (w:World) :
 Calls Tryz.prog 239 #[.agg #[.int .i64 1,.int .i64 n,.string s]] w fun e w'=>e=.returned (.bool (validB 1 n s))/\Below w.heap.size w w':=by
 have H:Hid (validB 1 n s=so 1 n s 1 n ⟨#[]⟩):=by unfold Hid validB so;simp
 go_in
 go_wp2
 go_region_held3 (fun w'=>w'.cell? ⟨w.heap.size,0,none⟩=some (.int .i64 1)/\w'.cell? ⟨w.heap.size,1,none⟩=some (.int .i64 n)/\w'.cell? ⟨w.heap.size,2,none⟩=some (.string s))
  (first | go_keep | (go_split_ands;exact ⟨al ‹_› ‹_›,al ‹_› ‹_›,al ‹_› ‹_›⟩))
  (first | (go_at_call 238;refine (s4 _ _).mono ?_;rintro e w1 ⟨rfl,hbb⟩))
 go_wp2
 go_ret
 exact ⟨fw H.out.symm,uc hbb⟩
theorem zU (n:Int) (s:ByteArray) (w:World) :
 Calls Tryz.prog 239 #[.agg #[.int .i64 2,.int .i64 n,.string s]] w fun e w'=>e=.returned (.bool (validB 2 n s))/\Below w.heap.size w w':=by
 cases hn:(n==1) with
 | true=>
  have H:Hid (validB 2 n s=so 2 n s 2 1 ⟨#[]⟩):=by unfold Hid validB so;simp only [jB];cases h:(s.toList==[])<;>simp [hn]
  go_in
  go_wp2
  go_region_held3 (fun w'=>w'.cell? ⟨w.heap.size,0,none⟩=some (.int .i64 2)/\w'.cell? ⟨w.heap.size,1,none⟩=some (.int .i64 n)/\w'.cell? ⟨w.heap.size,2,none⟩=some (.string s))
   (first | go_keep | (go_split_ands;exact ⟨al ‹_› ‹_›,al ‹_› ‹_›,al ‹_› ‹_›⟩))
   (first | (go_at_call 236;refine (mC _).mono ?_;rintro e w1 ⟨rfl,hbb⟩))
  go_wp2
  go_ret
  exact ⟨fw H.out.symm,uc hbb⟩
 | false=>
  have H:Hid (validB 2 n s=so 2 n s 2 0 ⟨#[]⟩):=by unfold Hid validB so;simp only [jB];cases h:(s.toList==[])<;>simp [hn]
  go_in
  go_wp2
  go_region_held3 (fun w'=>w'.cell? ⟨w.heap.size,0,none⟩=some (.int .i64 2)/\w'.cell? ⟨w.heap.size,1,none⟩=some (.int .i64 n)/\w'.cell? ⟨w.heap.size,2,none⟩=some (.string s))
   (first | go_keep | (go_split_ands;exact ⟨al ‹_› ‹_›,al ‹_› ‹_›,al ‹_› ‹_›⟩))
   (first | (go_at_call 236;refine (kY _).mono ?_;rintro e w1 ⟨rfl,hbb⟩))
  go_wp2
  go_ret
  exact ⟨fw H.out.symm,uc hbb⟩
theorem Ar (n:Int) (s:ByteArray) (w:World) (hs:s.size<=maxLen) :
 Calls Tryz.prog 239 #[.agg #[.int .i64 3,.int .i64 n,.string s]] w fun e w'=>e=.returned (.bool (validB 3 n s))/\Below w.heap.size w w':=by
 unfold maxLen at hs
 cases hq:so 3 n s 3 0 s with
 | true=>
  have H:Hid (validB 3 n s=decide ((s.size:Int)<=60)):=by
   unfold Hid validB;unfold so at hq;simp at hq;simp [hq]
  go_in
  go_wp2
  go_region_held3 (fun w'=>w'.cell? ⟨w.heap.size,0,none⟩=some (.int .i64 3)/\w'.cell? ⟨w.heap.size,1,none⟩=some (.int .i64 n)/\w'.cell? ⟨w.heap.size,2,none⟩=some (.string s))
   (first | go_keep | (go_split_ands;exact ⟨al ‹_› ‹_›,al ‹_› ‹_›,al ‹_› ‹_›⟩))
   (first | (go_at_call 233;refine (ky _ _).mono ?_;rintro e w1 ⟨rfl,hbb⟩))
  go_wp2
  go_ret
  exact ⟨fw H.out.symm,uc hbb⟩
 | false=>
  have H:Hid (validB 3 n s=false):=by
   unfold Hid validB;unfold so at hq;simp at hq;simp [hq]
  go_in
  go_wp2
  first | (go_region_with (first | (go_at_call 233;refine (xI _ _).mono ?_;rintro e w1 ⟨rfl,rfl⟩))) | fail
  all_goals go_wp2
  all_goals go_ret
  all_goals exact ⟨fw H.out.symm,by repeat (first | exact dI _ _ | apply Below.drew | refine Below.alloc ?_ (by simp) _)⟩
theorem Av (k n:Int) (s:ByteArray) (w:World) (h0:k≠0) (h1:k≠1) (h2:k≠2) (h3:k≠3) :
 Calls Tryz.prog 239 #[.agg #[.int .i64 k,.int .i64 n,.string s]] w fun e w'=>e=.returned (.bool (validB k n s))/\Below w.heap.size w w':=by
 have H:Hid (validB k n s=false):=by unfold Hid validB;rw [if_neg h0,if_neg h1,if_neg h2,if_neg h3]
 have g0:(k==0)=false:=by simpa using h0
 have g1:(k==1)=false:=by simpa using h1
 have g2:(k==2)=false:=by simpa using h2
 have g3:(k==3)=false:=by simpa using h3
 go_in
 go_wp2
 go_ret
 exact ⟨fw H.out.symm,dI _ _⟩
theorem valid_any (k n:Int) (s:ByteArray) (w:World) (hs:s.size<=maxLen) :
 Calls Tryz.prog 239 #[.agg #[.int .i64 k,.int .i64 n,.string s]] w fun e w'=>e=.returned (.bool (validB k n s))/\Below w.heap.size w w':=by
 by_cases h0:k=0
 ·subst h0;exact At n s w
 by_cases h1:k=1
 ·subst h1;exact Ap n s w
 by_cases h2:k=2
 ·subst h2;exact zU n s w
 by_cases h3:k=3
 ·subst h3;exact Ar n s w hs
 exact Av k n s w h0 h1 h2 h3
end Vl
namespace Vl
open Go.RowKit
attribute [local go_sem ↓] uo uA
attribute [local go_sem] lG
structure V where
 k:Int
 n:Int
 s:ByteArray
end Vl
namespace Vl
open Go.RowKit
def gz (c:UInt8):Bool:=decide (32<=c.toNat)&&(decide (c.toNat<=126)&&(!(c.toNat==39)&&!(c.toNat==92)))
def db (d:Nat):UInt8:=if d<10 then UInt8.ofNat (48+d) else UInt8.ofNat (87+d)
def nH (c:UInt8):List UInt8:=if gz c=true then [c] else [92,db (c.toNat / 16),db (c.toNat % 16)]
def av (l:List UInt8):List UInt8:=l.flatMap nH
theorem lh (l:List UInt8) (c:UInt8):av (l++[c])=av l++nH c:=by unfold av;simp
theorem Ay (c:UInt8):(nH c).length<=3:=by unfold nH;split<;>simp
theorem fo:∀ l:List UInt8,(av l).length<=3*l.length
 | []=>by simp [av]
 | c::l=>by
  have h1:=fo l
  have h2:=Ay c
  unfold av at *
  simp only [List.flatMap_cons,List.length_append,List.length_cons]
  omega
theorem vE (s:ByteArray) (k:Nat) (h:k<s.size):s.data.toList.take (k+1)=s.data.toList.take k++[s[k]]:=by
 rw [List.take_succ_eq_append_getElem (by simpa using h)];rfl
theorem s6 (c:UInt8):(gz c=true/\¬ ((c.toNat:Int)<32)/\¬ (126<(c.toNat:Int))/\((c.toNat:Int)==39)=false/\((c.toNat:Int)==92)=false)\/
 (gz c=false/\(c.toNat:Int)<32)\/(gz c=false/\¬ ((c.toNat:Int)<32)/\126<(c.toNat:Int))\/
 (gz c=false/\¬ ((c.toNat:Int)<32)/\¬ (126<(c.toNat:Int))/\((c.toNat:Int)==39)=true)\/
 (gz c=false/\¬ ((c.toNat:Int)<32)/\¬ (126<(c.toNat:Int))/\((c.toNat:Int)==39)=false/\((c.toNat:Int)==92)=true):=by
 unfold gz
 by_cases h1:c.toNat<32
 ·right;left;simp;omega
 by_cases h2:126<c.toNat
 ·right;right;left;simp;omega
 by_cases h3:c.toNat=39
 ·right;right;right;left;simp [h3]
 by_cases h4:c.toNat=92
 ·right;right;right;right;simp [h4]
 left;simp;omega
theorem xX {a b:ByteArray} (h:a=b):Ending.returned (.string a)=.returned (.string b):=by rw [h]
attribute [local go_sem ↓] Go.wp_at_zero Go.wp_at_succ
def lB (c:UInt8):Value:=.int .u8 (c.toNat:Int)
theorem qC (c:UInt8) (w:World):Calls Tryz.prog 267 #[.int .u8 (c.toNat:Int)] w fun e w'=>e=.returned (.bool (gz c))/\w'=w:=by
 have t1:(0:Int)<=(c.toNat:Int):=by omega
 have t2:(c.toNat:Int)<=255:=by have:=UInt8.toNat_lt c;omega
 rcases s6 c with ⟨hb,c1,c2,c3,c4⟩ | ⟨hb,c1⟩ | ⟨hb,c1,c2⟩ | ⟨hb,c1,c2,c3⟩ | ⟨hb,c1,c2,c3,c4⟩
 ·have HB:=jg hb
  have d3:((c.toNat:Int) != 39)=true:=by rw [bne,c3];rfl
  have d4:((c.toNat:Int) != 92)=true:=by rw [bne,c4];rfl
  clear hb c3 c4
  go_in
  go_wp2
  go_ret
  exact ⟨by rw [HB.out];rfl,rfl⟩
 ·have HB:=jg hb
  clear hb
  go_in
  go_wp2
  go_ret
  exact ⟨by rw [HB.out];rfl,rfl⟩
 ·have HB:=jg hb
  clear hb
  go_in
  go_wp2
  go_ret
  exact ⟨by rw [HB.out];rfl,rfl⟩
 ·have HB:=jg hb
  have d3:((c.toNat:Int) != 39)=false:=by rw [bne,c3];rfl
  clear hb c3
  go_in
  go_wp2
  go_ret
  exact ⟨by rw [HB.out];rfl,rfl⟩
 ·have HB:=jg hb
  have d3:((c.toNat:Int) != 39)=true:=by rw [bne,c3];rfl
  have d4:((c.toNat:Int) != 92)=false:=by rw [bne,c4];rfl
  clear hb c3 c4
  go_in
  go_wp2
  go_ret
  exact ⟨by rw [HB.out];rfl,rfl⟩
theorem Dr (n:Nat) (h:n<256):bits .and .u8 (n:Int) 15=(n:Int) % 16:=by
 revert n;decide +kernel
theorem nJ (d:Nat) (h1:d<16) (w:World) :
 (Instr.index 9 (.string ⟨#[48,49,50,51,52,53,54,55,56,57,97,98,99,100,101,102]⟩) (.int .u8 (d:Int))).run Tryz.prog w=.ok (lB (db d)) w:=by
 have:d=0\/d=1\/d=2\/d=3\/d=4\/d=5\/d=6\/d=7\/d=8\/d=9\/d=10\/d=11\/d=12\/d=13\/d=14\/d=15:=by omega
 rcases this with rfl | rfl | rfl | rfl | rfl | rfl | rfl | rfl | rfl | rfl | rfl | rfl | rfl | rfl | rfl | rfl
 all_goals (show Sem.run Tryz.prog _ w=_;kernel_rfl)
theorem zy (c:UInt8) (w:World) :
 (Instr.index 9 (.string ⟨#[48,49,50,51,52,53,54,55,56,57,97,98,99,100,101,102]⟩) (.int .u8 ((c.toNat:Int) / 16))).run Tryz.prog w=.ok (.int .u8 ((db (c.toNat / 16)).toNat:Int)) w:=
 nJ (c.toNat / 16) (by have:=UInt8.toNat_lt c;omega) w
theorem iS (c:UInt8) (w:World) :
 (Instr.index 9 (.string ⟨#[48,49,50,51,52,53,54,55,56,57,97,98,99,100,101,102]⟩) (.int .u8 ((c.toNat:Int) % 16))).run Tryz.prog w=.ok (.int .u8 ((db (c.toNat % 16)).toNat:Int)) w:=
 nJ (c.toNat % 16) (by omega) w
attribute [local go_sem ↓] zy iS
theorem Bl:(Tryz.prog.info? 5).map (fun i=>(i.zero,i.size,i.bytes))=some (some (.int .u8 0),1,1):=by kernel_rfl
theorem qE {w1:World} {B g n cap:Nat} (l:List UInt8) (h:w1.ownsRow B 5 1 (.slice (some ⟨g,0,none⟩) n cap) n (l.map lB)) :
 (convert 64 9 (.slice (some ⟨g,0,none⟩) n cap)).run Tryz.prog w1=.ok (.string ⟨l.toArray⟩) w1:=by
 have hn:l.length=n:=by have:=h.1;simpa using this
 subst hn
 refine run_convert_bytes_back w1 64 9 5 ⟨g,0,none⟩ cap l Tryz.underlying64 Tryz.underlying5 Tryz.underlying9 ?_
 intro j hj
 have:=h.cellAt j (by omega)
 rw [Go.WideShapes.add_plain,Nat.zero_add,this]
 simp [hj,lB]
set_option maxRecDepth 100000 in
theorem tN (t:ByteArray) (w:World) (h:t.size<=60) :
 Calls Tryz.prog 241 #[.string t] w fun e w'=>e=.returned (.string ⟨(39::av t.data.toList++[39]).toArray⟩)/\Below w.heap.size w w':=by
 obtain ⟨i0,hi0,hz0,hz1,hz2⟩:=info_parts Bl
 go_in
 go_wp2
 go_loopw [3,9] (fun v i w'=>∃ k:Nat,k<=t.size/\i=.int .i64 k/\w'.ownsRow w.heap.size 5 1 v (1+(av (t.data.toList.take k)).length) ((39::av (t.data.toList.take k)).map lB)/\Below w.heap.size w w') (fun _ i _=>t.size-(intOf i).toNat)
 case atStart=>exact ⟨0,Nat.zero_le _,rfl,World.ownsRow_lit w #[.int .u8 39] 1 lR (by decide) rfl,bR.alloc lR _⟩
 case round=>
  obtain ⟨k,hk,rfl,hown,hb⟩:=hrel
  have hbs:=hb.size
  by_cases hlt:k<t.size
  ·have hi:(k:Int)<(t.size:Int):=by omega
   have hl:=fo (t.data.toList.take k)
   have hll:(t.data.toList.take k).length<=k:=List.length_take_le _ _
   have HX:(av (t.data.toList.take k)).length<=180:=by omega
   have HE:Hid (av (t.data.toList.take (k+1))=av (t.data.toList.take k)++nH t[k]):=by unfold Hid;rw [vE t k hlt,lh]
   clear hl hll
   generalize hXX:av (t.data.toList.take k)=X at *
   clear hXX
   have t1:(0:Int)<=(t[k].toNat:Int):=by omega
   have t2:(t[k].toNat:Int)<=255:=by have:=UInt8.toNat_lt t[k];omega
   cases hbr:gz t[k] with
   | true=>
    have HE':Hid (av (t.data.toList.take (k+1))=X++[t[k]]):=by unfold Hid;rw [HE.out];unfold nH;rw [if_pos hbr]
    have HO:=jg hown
    clear HE hown
    go_wp2_with (first
     | (go_at_call 267;refine (qC _ _).mono ?_;rw [hbr];rintro e w2 ⟨rfl,hw2⟩;have hw3:=hw2.symm;subst hw3)
     | (at_builtin;refine wpList_append_own _ rfl _ _ 64 rfl w.heap.size 5 i0 (.int .u8 0) 1 1 Tryz.underlying64 hi0 hz0 hz1 hz2 rfl (by decide) _ _ _ rfl (HO.out.alloc _) ⟨wr.heap.size,0,none⟩ 1 1 [lB t[k]] rfl rfl ?c1 ?c2 ?c3 ?c4 ?c5 ?_))
    case c1=>
     intro j u hj
     match j,hj with
     | 0,hj=>simp at hj;subst hj;simp [Addr.add,lB]
    case c2=>intro u hu;simp at hu;subst hu;rfl
    case c3=>unfold maxLen;omega
    case c4=>omega
    case c5=>simp;omega
    ·intro v' w1 hown' hgrow _
     have hB:=(hb.alloc hbs _).grown hgrow (by simp;omega) (fun j hj=>(HO.out.lt j hj).1)
     have HO':Hid (w1.ownsRow w.heap.size 5 1 v' (1+(X++[t[k]]).length) ((39::(X++[t[k]])).map lB)):=by unfold Hid;simpa [Nat.add_assoc] using hown'
     clear hown' hgrow HO hb
     go_wp2
     go_roundw
     case rel=>exact ⟨k+1,by omega,by go_num,by rw [HE'.out];exact HO'.out,hB⟩
     case measure=>simp [intOf];omega
   | false=>
    have HE':Hid (av (t.data.toList.take (k+1))=X++[92,db (t[k].toNat / 16),db (t[k].toNat % 16)]):=by unfold Hid;rw [HE.out];unfold nH;rw [if_neg (by simp [hbr])]
    have HO:=jg hown
    have ha:=Dr t[k].toNat (UInt8.toNat_lt _)
    clear HE hown
    go_wp2_with (first | (go_at_call 267;refine (qC _ _).mono ?_;rw [hbr];rintro e w2 ⟨rfl,hw2⟩;have hw3:=hw2.symm;subst hw3) | (at_builtin;fail))
    go_region_held3 (fun _=>True) (trivial) ((refine step_append_lies _ (by rfl) _ _ 64 (by rfl) w.heap.size 5 i0 (.int .u8 0) 1 1 Tryz.underlying64 hi0 hz0 hz1 hz2 rfl (by decide) u3 (1+X.length) ((39::X).map lB) (by rfl) (HO.out.drew.alloc _) ⟨wr.heap.size,0,none⟩ 3 3 [lB 92,lB (db (t[k].toNat / 16)),lB (db (t[k].toNat % 16))] (by rfl) (by rfl) (by intro j u hj;match j,hj with | 0,hj=>(simp at hj;subst hj;simp [Addr.add,lB]) | 1,hj=>(simp at hj;subst hj;simp [Addr.add,lB]) | 2,hj=>(simp at hj;subst hj;simp [Addr.add,lB])) (by intro u hu;simp at hu;rcases hu with rfl | rfl | rfl<;>rfl) (by decide) (by unfold maxLen;omega) (by omega) (by simp;omega) _ rfl ?_;intro g cap w1 hown' hgrow hat hlt1))
    all_goals
     have hB:=(hb.drew.alloc hbs _).grown hgrow (by simp;omega) (fun j hj=>(HO.out.lt j hj).1)
     have HO':Hid (w1.ownsRow w.heap.size 5 1 (Value.slice (some ⟨g,0,none⟩) (1+X.length+3) cap) (1+(X++[92,db (t[k].toNat / 16),db (t[k].toNat % 16)]).length) ((39::(X++[92,db (t[k].toNat / 16),db (t[k].toNat % 16)])).map lB)):=by unfold Hid;simpa [Nat.add_assoc] using hown'
     clear hown' hgrow HO hb hat
     go_wp2
     go_roundw
     case rel=>exact ⟨k+1,by omega,by go_num,by rw [HE'.out];exact HO'.out,hB⟩
     case measure=>simp [intOf];omega
  ·have HF:Hid (av (t.data.toList.take k)=av t.data.toList):=by unfold Hid;rw [List.take_of_length_le (by simp;omega)]
   have hl:=fo (t.data.toList.take k)
   have hll:(t.data.toList.take k).length<=k:=List.length_take_le _ _
   have HX:(av (t.data.toList.take k)).length<=180:=by omega
   clear hl hll
   generalize hXX:av (t.data.toList.take k)=X at *
   clear hXX
   have HO:=jg hown
   clear hown
   go_wp2_with (first
    | (at_builtin;refine wpList_append_lies _ rfl _ _ 64 rfl w.heap.size 5 i0 (.int .u8 0) 1 1 Tryz.underlying64 hi0 hz0 hz1 hz2 rfl (by decide) u3 (1+X.length) ((39::X).map lB) rfl (HO.out.alloc _) ⟨wr.heap.size,0,none⟩ 1 1 [lB 39] rfl rfl (by intro j u hj;match j,hj with | 0,hj=>(simp at hj;subst hj;simp [Addr.add,lB])) (by intro u hu;simp at hu;subst hu;rfl) (by decide) (by unfold maxLen;omega) (by omega) (by simp;omega) _ rfl ?_;intro g cap w1 hown' hgrow hat hlt1;have hcv:=qE (39::(X++[39])) (by simpa using hown')))
   have hB:=(hb.alloc hbs _).grown hgrow (by simp;omega) (fun j hj=>(HO.out.lt j hj).1)
   go_ret
   exact ⟨xX (by rw [<-HF.out]),hB⟩
end Vl
namespace Vl
open Go.RowKit
theorem below_grow (w:World) (k:Nat) (os:Array Obj):Below w.heap.size w (Sort.grow (w.drewN k) os):=
 ⟨rfl,rfl,rfl,by simp,fun j hj=>Sort.heap_grow_old (w.drewN k) os (by simpa using hj)⟩
def showB (k n:Int) (s:ByteArray):ByteArray:=
 if validB k n s=true then
  (if k=1 then ⟨(Lib.itoa n).toArray⟩ else if k=2 then (if n=1 then ⟨#[116,114,117,101]⟩ else ⟨#[102,97,108,115,101]⟩) else if k=3 then ⟨(39::av s.data.toList++[39]).toArray⟩ else ⟨#[110,117,108,108]⟩)
 else ⟨#[]⟩
theorem sF {k n:Int} {s:ByteArray} (h:validB k n s=true):k=0\/k=1\/(k=2/\n=1)\/(k=2/\n=0)\/(k=3/\s.size<=60):=by
 unfold validB at h
 by_cases h0:k=0
 ·exact .inl h0
 by_cases h1:k=1
 ·exact .inr (.inl h1)
 rw [if_neg h0,if_neg h1] at h
 by_cases h2:k=2
 ·rw [if_pos h2] at h
  simp at h
  rcases h.2 with e | e
  ·exact .inr (.inr (.inr (.inl ⟨h2,e⟩)))
  ·exact .inr (.inr (.inl ⟨h2,e⟩))
 rw [if_neg h2] at h
 by_cases h3:k=3
 ·rw [if_pos h3] at h
  simp at h
  exact .inr (.inr (.inr (.inr ⟨h3,by omega⟩)))
 rw [if_neg h3] at h
 cases h
abbrev Tab (w : World) : Prop := Lib.TabIs Tryz.prog w "internal/strconv.uint64pow10" .u64 Lib.pow10Tab
theorem Tab.later {w w':World} (h:Tab w) (hb:Below w.heap.size w w'):Tab w':=Lib.tabBelow_of_tabIs h w' hb
theorem show_any (k n:Int) (s:ByteArray) (w:World) (hs:s.size<=maxLen) (h0:-9223372036854775808<=n) (h1:n<=9223372036854775807) (ht:Tab w) :
 Calls Tryz.prog 207 #[.agg #[.int .i64 k,.int .i64 n,.string s]] w fun e w'=>e=.returned (.string (showB k n s))/\Below w.heap.size w w':=by
 have HT:=jg ht
 have H0:=jg h0
 have H1:=jg h1
 have HS:=jg hs
 cases hv:validB k n s with
 | false=>
  have H:Hid (showB k n s=⟨#[]⟩):=by unfold Hid showB;rw [if_neg (by simp [hv])]
  go_in
  go_wp2_with (first | (go_at_call 239;refine (valid_any _ _ _ _ HS.out).mono ?_;rw [hv];rintro e w2 ⟨rfl,hbb⟩))
  go_ret
  exact ⟨je H.out.symm,(dI w _).trans (hbb.mono (by simp))⟩
 | true=>
  rcases sF hv with rfl | rfl | ⟨rfl,rfl⟩ | ⟨rfl,rfl⟩ | ⟨rfl,hs60⟩
  ·have H:Hid (showB 0 n s=⟨#[110,117,108,108]⟩):=by unfold Hid showB;rw [if_pos hv];rfl
   go_in
   go_wp2_with (first | (go_at_call 239;refine (valid_any _ _ _ _ HS.out).mono ?_;rw [hv];rintro e w2 ⟨rfl,hbb⟩;have c0:=al hbb (a:=⟨w.heap.size,0,none⟩) (v:=.int .i64 0) (by go_simp)))
   go_ret
   exact ⟨je H.out.symm,(dI w _).trans (hbb.mono (by simp))⟩
  ·have H:Hid (showB 1 n s=⟨(Lib.itoa n).toArray⟩):=by unfold Hid showB;rw [if_pos hv];rfl
   go_in
   go_wp2_with (first
    | (go_at_call 239;refine (valid_any _ _ _ _ HS.out).mono ?_;rw [hv];rintro e w2 ⟨rfl,hbb⟩;have c0:=al hbb (a:=⟨w.heap.size,0,none⟩) (v:=.int .i64 1) (by go_simp);have c1:=al hbb (a:=⟨w.heap.size,1,none⟩) (v:=.int .i64 n) (by go_simp))
    | (go_at_call 167;refine (Tryz.strconv_FormatInt_10 n H0.out H1.out _ (HT.out.later ((dI w _).trans (hbb.mono (by simp))))).mono ?_;rintro e w3 ⟨rfl,k3,os3,rfl⟩))
   go_ret
   exact ⟨je H.out.symm,((dI w _).trans (hbb.mono (by simp))).trans ((below_grow w2 k3 os3).mono ((dI w _).trans (hbb.mono (by simp))).size)⟩
  ·have H:Hid (showB 2 1 s=⟨#[116,114,117,101]⟩):=by unfold Hid showB;rw [if_pos hv];rfl
   go_in
   go_wp2_with (first
    | (go_at_call 239;refine (valid_any _ _ _ _ HS.out).mono ?_;rw [hv];rintro e w2 ⟨rfl,hbb⟩;have c0:=al hbb (a:=⟨w.heap.size,0,none⟩) (v:=.int .i64 2) (by go_simp);have c1:=al hbb (a:=⟨w.heap.size,1,none⟩) (v:=.int .i64 1) (by go_simp))
    | go_in)
   go_ret
   exact ⟨je H.out.symm,(dI w _).trans (hbb.mono (by simp))⟩
  ·have H:Hid (showB 2 0 s=⟨#[102,97,108,115,101]⟩):=by unfold Hid showB;rw [if_pos hv];rfl
   go_in
   go_wp2_with (first
    | (go_at_call 239;refine (valid_any _ _ _ _ HS.out).mono ?_;rw [hv];rintro e w2 ⟨rfl,hbb⟩;have c0:=al hbb (a:=⟨w.heap.size,0,none⟩) (v:=.int .i64 2) (by go_simp);have c1:=al hbb (a:=⟨w.heap.size,1,none⟩) (v:=.int .i64 0) (by go_simp))
    | go_in)
   go_ret
   exact ⟨je H.out.symm,(dI w _).trans (hbb.mono (by simp))⟩
  ·have H:Hid (showB 3 n s=⟨(39::av s.data.toList++[39]).toArray⟩):=by unfold Hid showB;rw [if_pos hv];rfl
   go_in
   go_wp2_with (first
    | (go_at_call 239;refine (valid_any _ _ _ _ HS.out).mono ?_;rw [hv];rintro e w2 ⟨rfl,hbb⟩;have c0:=al hbb (a:=⟨w.heap.size,0,none⟩) (v:=.int .i64 3) (by go_simp);have c1:=al hbb (a:=⟨w.heap.size,2,none⟩) (v:=.string s) (by go_simp))
    | (go_at_call 241;refine (tN s _ hs60).mono ?_;rintro e w3 ⟨rfl,hb3⟩))
   go_ret
   exact ⟨je H.out.symm,((dI w _).trans (hbb.mono (by simp))).trans (hb3.mono ((dI w _).trans (hbb.mono (by simp))).size)⟩
def Ea (c a:Nat):Prop:=(a<10/\c=48+a)\/(10<=a/\a<16/\c=87+a)
theorem qI (a:Nat) (h:a<16):Ea (db a).toNat a:=by
 unfold db Ea
 by_cases h1:a<10
 ·left;rw [if_pos h1];simp;omega
 ·right;rw [if_neg h1];simp;omega
theorem kP (a:Nat) (h1:10<=a) (h2:a<16):bits .or .u8 (87+(a:Int)) 32=87+(a:Int):=by
 have:a=10\/a=11\/a=12\/a=13\/a=14\/a=15:=by omega
 rcases this with rfl | rfl | rfl | rfl | rfl | rfl<;>decide +kernel
theorem j5 {k:IntKind} {a b:Int} {v:Value} (h:a=b):Ending.returned (.tuple #[.int k a,v])=.returned (.tuple #[.int k b,v]):=by rw [h]
theorem oH (s:ByteArray) (c1 c2 a b cap:Nat) (w W:World) (hsz:s.size=2) (hne:s.toList.isEmpty=false)
 (hcv:(convert 9 64 (.string s)).run Tryz.prog w=.ok (.slice (some ⟨w.heap.size,0,none⟩) 2 cap) W)
 (k0:W.cell? ⟨w.heap.size,0,none⟩=some (.int .u8 (c1:Int))) (k1:W.cell? ⟨w.heap.size,1,none⟩=some (.int .u8 (c2:Int))) (d1:Ea c1 a) (d2:Ea c2 b) :
 Calls Tryz.prog 275 #[.string s,.int .i64 16,.int .i64 8] w fun e w'=>e=.returned (.tuple #[.int .u64 ((16*a+b:Nat):Int),.nilIface])/\w'=W:=by
 rcases d1 with ⟨ha,rfl⟩ | ⟨ha1,ha2,rfl⟩
 ·rcases d2 with ⟨hb,rfl⟩ | ⟨hb1,hb2,rfl⟩
  ·go_in
   go_wp2
   refine wp_loop_rounds 3 ?_
   rw [rounds_succ];go_wp2
   rw [rounds_succ];go_wp2
   rw [rounds_succ];go_wp2
   go_ret2
   exact ⟨j5 (by omega),rfl⟩
  ·have l2:=kP b hb1 hb2
   go_in
   go_wp2
   refine wp_loop_rounds 3 ?_
   rw [rounds_succ];go_wp2
   rw [rounds_succ];go_wp2
   rw [rounds_succ];go_wp2
   go_ret2
   exact ⟨j5 (by omega),rfl⟩
 ·have l1:=kP a ha1 ha2
  rcases d2 with ⟨hb,rfl⟩ | ⟨hb1,hb2,rfl⟩
  ·go_in
   go_wp2
   refine wp_loop_rounds 3 ?_
   rw [rounds_succ];go_wp2
   rw [rounds_succ];go_wp2
   rw [rounds_succ];go_wp2
   go_ret2
   exact ⟨j5 (by omega),rfl⟩
  ·have l2:=kP b hb1 hb2
   go_in
   go_wp2
   refine wp_loop_rounds 3 ?_
   rw [rounds_succ];go_wp2
   rw [rounds_succ];go_wp2
   rw [rounds_succ];go_wp2
   go_ret2
   exact ⟨j5 (by omega),rfl⟩
theorem fW (w:World) (e:TypeId) (s:ByteArray):Below w.heap.size w (Lib.bytesWorld w e s):=
 ⟨rfl,rfl,rfl,by rw [Lib.bytesWorld_size];omega,fun j hj=>Lib.bytesWorld_at_old w e s j hj⟩
theorem AP (a b:Nat) (ha:a<16) (hb:b<16) (w:World) :
 Calls Tryz.prog 275 #[.string ⟨#[db a,db b]⟩,.int .i64 16,.int .i64 8] w fun e w'=>e=.returned (.tuple #[.int .u64 ((16*a+b:Nat):Int),.nilIface])/\Below w.heap.size w w':=by
 refine (oH ⟨#[db a,db b]⟩ (db a).toNat (db b).toNat a b _ w (Lib.bytesWorld w 5 ⟨#[db a,db b]⟩) rfl (by simp) (Lib.run_convert_string_bytes w 9 64 5 _ Tryz.underlying9 Tryz.underlying64 Tryz.underlying5)
  (Lib.bytesWorld_cell w 5 ⟨#[db a,db b]⟩ 0 (by show (0:Nat)<2;omega)) (Lib.bytesWorld_cell w 5 ⟨#[db a,db b]⟩ 1 (by show (1:Nat)<2;omega)) (qI a ha) (qI b hb)).mono ?_
 rintro e w' ⟨rfl,rfl⟩
 exact ⟨rfl,fW _ _ _⟩
theorem p7 (a b:Nat) (ha:a<16) (hb:b<16) (w:World) :
 Calls Tryz.prog 262 #[.string ⟨#[db a,db b]⟩,.int .i64 16,.int .i64 8] w fun e w'=>e=.returned (.tuple #[.int .u64 ((16*a+b:Nat):Int),.nilIface])/\Below w.heap.size w w':=by
 go_in
 go_wp2_with (first | (go_at_call 275;refine (AP a b ha hb _).mono ?_;rintro e w2 ⟨rfl,hbb⟩))
 go_ret2
 exact ⟨rfl,hbb⟩
def Eb (X L:Nat):Prop:=(48<=X/\X<=57)\/(57<X/\97<=L/\L<=102)
def Ek (X L:Nat):Prop:=(X<48/\L<97)\/(57<X/\L<97)\/(57<X/\122<L)\/(57<X/\102<L/\L<=122)
theorem wq:∀ X:Fin 256,(48<=X.val/\X.val<=57)\/(57<X.val/\97<=X.val ||| 32/\X.val ||| 32<=102)\/(X.val<48/\X.val ||| 32<97)\/(57<X.val/\X.val ||| 32<97)\/(57<X.val/\122<X.val ||| 32)\/(57<X.val/\102<X.val ||| 32/\X.val ||| 32<=122):=by decide
theorem xE (X:Nat) (h:X<256):Eb X (X ||| 32)\/Ek X (X ||| 32):=by
 rcases wq ⟨X,h⟩ with h | h | h | h | h | h
 ·exact .inl (.inl h)
 ·exact .inl (.inr h)
 ·exact .inr (.inl h)
 ·exact .inr (.inr (.inl h))
 ·exact .inr (.inr (.inr (.inl h)))
 ·exact .inr (.inr (.inr (.inr h)))
theorem AN {X L:Nat} (hl:bits .or .u8 (X:Int) 32=(L:Int)) (h:L<=102):((X:Int)==95)=false:=by
 rw [beq_eq_false_iff_ne]
 intro h95
 rw [h95,show bits .or .u8 95 32=127 by decide +kernel] at hl
 omega
def CP (W:World) (e:Ending) (w':World):Prop:=w'=W/\((∃ v:Nat,v<256/\e=.returned (.tuple #[.int .u64 (v:Int),.nilIface]))\/e=.returned (.tuple #[.int .u64 0,.iface 327 (.int .i64 2)]))
theorem rD (s:ByteArray) (X1 X2 L1 cap:Nat) (w W:World) (hsz:s.size=2) (hne:s.toList.isEmpty=false)
 (hcv:(convert 9 64 (.string s)).run Tryz.prog w=.ok (.slice (some ⟨w.heap.size,0,none⟩) 2 cap) W)
 (k0:W.cell? ⟨w.heap.size,0,none⟩=some (.int .u8 (X1:Int))) (k1:W.cell? ⟨w.heap.size,1,none⟩=some (.int .u8 (X2:Int))) (x1:X1<256) (hl1:bits .or .u8 (X1:Int) 32=(L1:Int)) (b1:L1<256) (d1:Ek X1 L1) :
 Calls Tryz.prog 275 #[.string s,.int .i64 16,.int .i64 8] w (CP W):=by
 have FIN:Hid (CP W (.returned (.tuple #[.int .u64 0,.iface 327 (.int .i64 2)])) W):=⟨rfl,.inr rfl⟩
 rcases d1 with ⟨h1,h2⟩ | ⟨h1,h2⟩ | ⟨h1,h2⟩ | ⟨h1,h2,h3⟩
 ·have i1:¬ (48:Int)<=(X1:Int):=by omega
  have i2:¬ (97:Int)<=(L1:Int):=by omega
  go_in
  go_wp2
  refine wp_loop_rounds 3 ?_
  rw [rounds_succ];go_wp2
  all_goals go_ret2
  all_goals exact FIN.out
 ·have i0:(48:Int)<=(X1:Int):=by omega
  have i1:¬ (X1:Int)<=57:=by omega
  have i2:¬ (97:Int)<=(L1:Int):=by omega
  go_in
  go_wp2
  refine wp_loop_rounds 3 ?_
  rw [rounds_succ];go_wp2
  all_goals go_ret2
  all_goals exact FIN.out
 ·have i0:(48:Int)<=(X1:Int):=by omega
  have i1:¬ (X1:Int)<=57:=by omega
  have i2:(97:Int)<=(L1:Int):=by omega
  have i3:¬ (L1:Int)<=122:=by omega
  go_in
  go_wp2
  refine wp_loop_rounds 3 ?_
  rw [rounds_succ];go_wp2
  all_goals go_ret2
  all_goals exact FIN.out
 ·have i0:(48:Int)<=(X1:Int):=by omega
  have i1:¬ (X1:Int)<=57:=by omega
  have i2:(97:Int)<=(L1:Int):=by omega
  have i3:(L1:Int)<=122:=by omega
  have i4:(103:Int)<=(L1:Int):=by omega
  go_in
  go_wp2
  refine wp_loop_rounds 3 ?_
  rw [rounds_succ];go_wp2
  all_goals go_ret2
  all_goals exact FIN.out
theorem qr (s:ByteArray) (X1 X2 L1 L2 cap:Nat) (w W:World) (hsz:s.size=2) (hne:s.toList.isEmpty=false)
 (hcv:(convert 9 64 (.string s)).run Tryz.prog w=.ok (.slice (some ⟨w.heap.size,0,none⟩) 2 cap) W)
 (k0:W.cell? ⟨w.heap.size,0,none⟩=some (.int .u8 (X1:Int))) (k1:W.cell? ⟨w.heap.size,1,none⟩=some (.int .u8 (X2:Int))) (x1:X1<256) (x2:X2<256) (hl1:bits .or .u8 (X1:Int) 32=(L1:Int)) (hl2:bits .or .u8 (X2:Int) 32=(L2:Int)) (b1:L1<256) (b2:L2<256) (d1:Eb X1 L1) (d2:Ek X2 L2) :
 Calls Tryz.prog 275 #[.string s,.int .i64 16,.int .i64 8] w (CP W):=by
 have FIN:Hid (CP W (.returned (.tuple #[.int .u64 0,.iface 327 (.int .i64 2)])) W):=⟨rfl,.inr rfl⟩
 rcases d1 with ⟨h1,h2⟩ | ⟨h1,h2,h3⟩
 ·have i10:(48:Int)<=(X1:Int):=by omega
  have i11:(X1:Int)<=57:=by omega
  have i19:((X1:Int)==95)=false:=by rw [beq_eq_false_iff_ne];omega
  rcases d2 with ⟨g1,g2⟩ | ⟨g1,g2⟩ | ⟨g1,g2⟩ | ⟨g1,g2,g3⟩
  ·have i20:¬ (48:Int)<=(X2:Int):=by omega
   have i22:¬ (97:Int)<=(L2:Int):=by omega
   go_in
   go_wp2
   refine wp_loop_rounds 3 ?_
   rw [rounds_succ];go_wp2
   rw [rounds_succ];go_wp2
   all_goals go_ret2
   all_goals exact FIN.out
  ·have i20:(48:Int)<=(X2:Int):=by omega
   have i21:¬ (X2:Int)<=57:=by omega
   have i22:¬ (97:Int)<=(L2:Int):=by omega
   go_in
   go_wp2
   refine wp_loop_rounds 3 ?_
   rw [rounds_succ];go_wp2
   rw [rounds_succ];go_wp2
   all_goals go_ret2
   all_goals exact FIN.out
  ·have i20:(48:Int)<=(X2:Int):=by omega
   have i21:¬ (X2:Int)<=57:=by omega
   have i22:(97:Int)<=(L2:Int):=by omega
   have i23:¬ (L2:Int)<=122:=by omega
   go_in
   go_wp2
   refine wp_loop_rounds 3 ?_
   rw [rounds_succ];go_wp2
   rw [rounds_succ];go_wp2
   all_goals go_ret2
   all_goals exact FIN.out
  ·have i20:(48:Int)<=(X2:Int):=by omega
   have i21:¬ (X2:Int)<=57:=by omega
   have i22:(97:Int)<=(L2:Int):=by omega
   have i23:(L2:Int)<=122:=by omega
   have i24:(103:Int)<=(L2:Int):=by omega
   go_in
   go_wp2
   refine wp_loop_rounds 3 ?_
   rw [rounds_succ];go_wp2
   rw [rounds_succ];go_wp2
   all_goals go_ret2
   all_goals exact FIN.out
 ·have i10:(48:Int)<=(X1:Int):=by omega
  have i11:¬ (X1:Int)<=57:=by omega
  have i12:(97:Int)<=(L1:Int):=by omega
  have i13:(L1:Int)<=122:=by omega
  have i14:(L1:Int)<=102:=by omega
  have i19:=AN hl1 (by omega)
  rcases d2 with ⟨g1,g2⟩ | ⟨g1,g2⟩ | ⟨g1,g2⟩ | ⟨g1,g2,g3⟩
  ·have i20:¬ (48:Int)<=(X2:Int):=by omega
   have i22:¬ (97:Int)<=(L2:Int):=by omega
   go_in
   go_wp2
   refine wp_loop_rounds 3 ?_
   rw [rounds_succ];go_wp2
   rw [rounds_succ];go_wp2
   all_goals go_ret2
   all_goals exact FIN.out
  ·have i20:(48:Int)<=(X2:Int):=by omega
   have i21:¬ (X2:Int)<=57:=by omega
   have i22:¬ (97:Int)<=(L2:Int):=by omega
   go_in
   go_wp2
   refine wp_loop_rounds 3 ?_
   rw [rounds_succ];go_wp2
   rw [rounds_succ];go_wp2
   all_goals go_ret2
   all_goals exact FIN.out
  ·have i20:(48:Int)<=(X2:Int):=by omega
   have i21:¬ (X2:Int)<=57:=by omega
   have i22:(97:Int)<=(L2:Int):=by omega
   have i23:¬ (L2:Int)<=122:=by omega
   go_in
   go_wp2
   refine wp_loop_rounds 3 ?_
   rw [rounds_succ];go_wp2
   rw [rounds_succ];go_wp2
   all_goals go_ret2
   all_goals exact FIN.out
  ·have i20:(48:Int)<=(X2:Int):=by omega
   have i21:¬ (X2:Int)<=57:=by omega
   have i22:(97:Int)<=(L2:Int):=by omega
   have i23:(L2:Int)<=122:=by omega
   have i24:(103:Int)<=(L2:Int):=by omega
   go_in
   go_wp2
   refine wp_loop_rounds 3 ?_
   rw [rounds_succ];go_wp2
   rw [rounds_succ];go_wp2
   all_goals go_ret2
   all_goals exact FIN.out
theorem tD (s:ByteArray) (X1 X2 L1 L2 cap:Nat) (w W:World) (hsz:s.size=2) (hne:s.toList.isEmpty=false)
 (hcv:(convert 9 64 (.string s)).run Tryz.prog w=.ok (.slice (some ⟨w.heap.size,0,none⟩) 2 cap) W)
 (k0:W.cell? ⟨w.heap.size,0,none⟩=some (.int .u8 (X1:Int))) (k1:W.cell? ⟨w.heap.size,1,none⟩=some (.int .u8 (X2:Int))) (x1:X1<256) (x2:X2<256) (hl1:bits .or .u8 (X1:Int) 32=(L1:Int)) (hl2:bits .or .u8 (X2:Int) 32=(L2:Int)) (b1:L1<256) (b2:L2<256) (d1:Eb X1 L1) (d2:Eb X2 L2) :
 Calls Tryz.prog 275 #[.string s,.int .i64 16,.int .i64 8] w (CP W):=by
 have FIN:Hid (∀ v:Int,0<=v->v<256->CP W (.returned (.tuple #[.int .u64 v,.nilIface])) W):=fun v h0 h1=>⟨rfl,.inl ⟨v.toNat,by omega,by rw [show ((v.toNat:Nat):Int)=v by omega]⟩⟩
 rcases d1 with ⟨h1,h2⟩ | ⟨h1,h2,h3⟩
 ·have i10:(48:Int)<=(X1:Int):=by omega
  have i11:(X1:Int)<=57:=by omega
  have i19:((X1:Int)==95)=false:=by rw [beq_eq_false_iff_ne];omega
  rcases d2 with ⟨g1,g2⟩ | ⟨g1,g2,g3⟩
  ·have i20:(48:Int)<=(X2:Int):=by omega
   have i21:(X2:Int)<=57:=by omega
   have i29:((X2:Int)==95)=false:=by rw [beq_eq_false_iff_ne];omega
   go_in
   go_wp2
   refine wp_loop_rounds 3 ?_
   rw [rounds_succ];go_wp2
   rw [rounds_succ];go_wp2
   rw [rounds_succ];go_wp2
   go_ret2
   exact FIN.out _ (by omega) (by omega)
  ·have i20:(48:Int)<=(X2:Int):=by omega
   have i21:¬ (X2:Int)<=57:=by omega
   have i22:(97:Int)<=(L2:Int):=by omega
   have i23:(L2:Int)<=122:=by omega
   have i24:(L2:Int)<=102:=by omega
   have i29:=AN hl2 (by omega)
   go_in
   go_wp2
   refine wp_loop_rounds 3 ?_
   rw [rounds_succ];go_wp2
   rw [rounds_succ];go_wp2
   rw [rounds_succ];go_wp2
   go_ret2
   exact FIN.out _ (by omega) (by omega)
 ·have i10:(48:Int)<=(X1:Int):=by omega
  have i11:¬ (X1:Int)<=57:=by omega
  have i12:(97:Int)<=(L1:Int):=by omega
  have i13:(L1:Int)<=122:=by omega
  have i14:(L1:Int)<=102:=by omega
  have i19:=AN hl1 (by omega)
  rcases d2 with ⟨g1,g2⟩ | ⟨g1,g2,g3⟩
  ·have i20:(48:Int)<=(X2:Int):=by omega
   have i21:(X2:Int)<=57:=by omega
   have i29:((X2:Int)==95)=false:=by rw [beq_eq_false_iff_ne];omega
   go_in
   go_wp2
   refine wp_loop_rounds 3 ?_
   rw [rounds_succ];go_wp2
   rw [rounds_succ];go_wp2
   rw [rounds_succ];go_wp2
   go_ret2
   exact FIN.out _ (by omega) (by omega)
  ·have i20:(48:Int)<=(X2:Int):=by omega
   have i21:¬ (X2:Int)<=57:=by omega
   have i22:(97:Int)<=(L2:Int):=by omega
   have i23:(L2:Int)<=122:=by omega
   have i24:(L2:Int)<=102:=by omega
   have i29:=AN hl2 (by omega)
   go_in
   go_wp2
   refine wp_loop_rounds 3 ?_
   rw [rounds_succ];go_wp2
   rw [rounds_succ];go_wp2
   rw [rounds_succ];go_wp2
   go_ret2
   exact FIN.out _ (by omega) (by omega)
end Vl
namespace Vl
theorem jd (d:Nat) (h:d<10):(UInt8.ofNat (48+d)).toNat=48+d:=by
 rw [UInt8.toNat_ofNat'];omega
theorem wl (M:Nat) (hM:M<=18446744073709551615) (u:Nat) (r:List UInt8) (h:u<=M):Lib.parseUintM M 0 (Lib.decDigits u++r)=Lib.parseUintM M u r:=by
 induction u using Nat.strongRecOn generalizing r with
 | _ u ih=>
  by_cases hu:u<10
  ·rw [Lib.decDigits_one hu,List.singleton_append,Lib.parseUintM,jd u hu]
   rw [if_pos (by omega),if_neg (by omega),if_neg (by omega)]
   congr 1
   omega
  ·rw [Lib.decDigits,dif_neg hu,List.append_assoc,ih (u / 10) (by omega) _ (by omega),List.singleton_append,Lib.parseUintM,jd (u % 10) (by omega)]
   rw [if_pos (by omega),if_neg (by omega),if_neg (by omega)]
   congr 1
   omega
theorem kj (u:Nat):∃ c r,Lib.decDigits u=c::r/\48<=c.toNat/\c.toNat<=57:=by
 induction u using Nat.strongRecOn with
 | _ u ih=>
  by_cases hu:u<10
  ·exact ⟨_,_,Lib.decDigits_one hu,by rw [jd u hu];omega,by rw [jd u hu];omega⟩
  ·obtain ⟨c,r,e,h1,h2⟩:=ih (u / 10) (by omega)
   exact ⟨c,r++[UInt8.ofNat (48+u % 10)],by rw [Lib.decDigits,dif_neg hu,e];rfl,h1,h2⟩
theorem lT (u:Nat) (h:u<=18446744073709551615):Lib.parseUintB 64 (Lib.decDigits u)=.ok u:=by
 obtain ⟨c,r,e,_,_⟩:=kj u
 unfold Lib.parseUintB
 rw [if_neg (by rw [e];simp)]
 have:=wl 18446744073709551615 (by omega) u [] h
 rw [List.append_nil] at this
 rw [show (2 ^ 64-1:Nat)=18446744073709551615 from rfl,this]
 rfl
theorem jH (n:Int) (h0:-9223372036854775808<=n) (h1:n<=9223372036854775807):Lib.parseIntB 64 (Lib.itoa n)=.ok n:=by
 by_cases hn:n<0
 ·have e:Lib.itoa n=45::Lib.decDigits n.natAbs:=by unfold Lib.itoa;rw [if_pos hn]
  rw [e]
  unfold Lib.parseIntB
  have e2:=lT n.natAbs (by omega)
  have k1:¬ (¬ True/\2 ^ (64-1)<=n.natAbs):=by simp
  have k2:¬ (True/\2 ^ (64-1)<n.natAbs):=by simp;omega
  simp only [show (45:UInt8).toNat=45 from rfl,or_true,if_true,e2,k1,k2,if_false]
  congr 1
  omega
 ·have e:Lib.itoa n=Lib.decDigits n.toNat:=by unfold Lib.itoa;rw [if_neg hn]
  obtain ⟨c,r,e3,hc1,hc2⟩:=kj n.toNat
  have e2:=lT n.toNat (by omega)
  rw [e]
  rw [e3] at e2 ⊢
  unfold Lib.parseIntB
  have hc:¬ c.toNat=43:=by omega
  have hc':¬ c.toNat=45:=by omega
  have k1:¬ (¬ False/\2 ^ (64-1)<=n.toNat):=by simp;omega
  have k2:¬ (False/\2 ^ (64-1)<n.toNat):=by simp
  simp only [hc,hc',or_self,if_false,e2,k1,k2]
  congr 1
  omega
theorem zB:∀ a,a<16->∀ b,b<16->db a=db b->a=b:=by decide
theorem rC {a b:Nat} (ha:a<16) (hb:b<16) (h:db a=db b):a=b:=zB a ha b hb h
theorem pL (c:UInt8) (h:gz c=true):c≠92:=by
 rintro rfl;revert h;decide
theorem iB:∀ l m:List UInt8,av l=av m->l=m
 | [],[]=>fun _=>rfl
 | [],c::m=>by
  intro h
  have:(av (c::m)).length=0:=by rw [<-h];rfl
  unfold av nH at this
  simp at this
  split at this<;>simp at this
 | c::l,[]=>by
  intro h
  have:(av (c::l)).length=0:=by rw [h];rfl
  unfold av nH at this
  simp at this
  split at this<;>simp at this
 | c::l,d::m=>by
  intro h
  have e1:av (c::l)=nH c++av l:=by simp [av]
  have e2:av (d::m)=nH d++av m:=by simp [av]
  rw [e1,e2] at h
  unfold nH at h
  cases hc:gz c<;>cases hd:gz d<;>simp only [hc,hd,if_true,if_false,Bool.false_eq_true] at h
  ·simp at h
   have hi:=rC (by have:=UInt8.toNat_lt c;omega) (by have:=UInt8.toNat_lt d;omega) h.1
   have lo:=rC (by omega) (by omega) h.2.1
   have:c=d:=UInt8.toNat_inj.1 (by omega)
   rw [this,iB l m h.2.2]
  ·simp at h
   exact absurd h.1.symm (pL d hd)
  ·simp at h
   exact absurd h.1 (pL c hc)
  ·simp at h
   rw [h.1,iB l m h.2]
end Vl
end Go.Proofs.YtiiliobffnhpmaaGreatDoor
