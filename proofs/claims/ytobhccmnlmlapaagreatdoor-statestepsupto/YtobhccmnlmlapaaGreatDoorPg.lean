import Derived.Test.YtobhccmnlmlapaaGreatDoorPf
import Derived.Test.YtobhccmnlmlapaaGreatDoorCards
import Derived.Test.YtobhccmnlmlapaaGreatDoorTie
import Derived.Test.YtobhccmnlmlapaaGreatDoorQStZq
import Derived.WalkKit
import Derived.ProofKit
import Derived.OpenShut
import Derived.ShutString
import Derived.ChangeOld
import Derived.ChangeSlices
import Derived.Below
import Derived.LaidSub
import Derived.LaidHandle
import Derived.SizedLaws
import Derived.Deep.DeepHandedRow
import Derived.Lib.LaidTab
import Derived.Lib.SmallJoins
import Derived.Deep.Slices
import Derived.Deep.Strs
namespace Go.Proofs.YtobhccmnlmlapaaGreatDoor
open Go.RowKit Go.Maps
set_option linter.unusedVariables false
set_option linter.unusedSimpArgs false
set_option maxRecDepth 100000

theorem step_any (w0 W : World) (t mp s : Nat) (lo hi : Int) (ss : List Sh) (u : Value) (qs : List Cx) (o : Ox) (h : SI w0 W t mp s lo hi ss u qs) (ho : OEnt W w0.heap.size o) (ht : ∀ V, Below w0.heap.size w0 V → Vl.Tab V ∧ Wr.Quart V ∧ Wr.Ety V) :
    Calls Tryz.prog 8 #[.pointer (some ⟨t, 0, none⟩), .pointer (some ⟨s, 0, none⟩), .agg #[.int .i64 o.kd, .slice o.ka o.key.length o.kc, .int .i64 o.wn.f, .int .i64 o.wn.t, .slice o.da o.d.length o.dc, .int .i64 o.tm]] W (StepPost w0 s lo hi) := by
  by_cases h0 : o.kd = 0
  · rw [h0]; exact step_0 w0 W t mp s lo hi ss u qs o h ho ht
  by_cases h1 : o.kd = 1
  · rw [h1]; exact step_1 w0 W t mp s lo hi ss u qs o h ho ht
  by_cases h2 : o.kd = 2
  · rw [h2]; exact step_2 w0 W t mp s lo hi ss u qs o h ho ht
  by_cases h3 : o.kd = 3
  · rw [h3]; exact step_3 w0 W t mp s lo hi ss u qs o h ho ht
  by_cases h4 : o.kd = 4
  · rw [h4]; exact step_4 w0 W t mp s lo hi ss u qs o h ho ht
  by_cases h5 : o.kd = 5
  · rw [h5]; exact step_5 w0 W t mp s lo hi ss u qs o h ho ht
  exact step_6 w0 W t mp s lo hi ss u qs o h ho ht (by simpa using h0) (by simpa using h1) (by simpa using h2) (by simpa using h3) (by simpa using h4) (by simpa using h5)
theorem new_bad (lo hi : Int) (w : World) (hr : ¬ (0 ≤ lo ∧ lo ≤ hi ∧ hi ≤ 32)) :
    Calls Tryz.prog 6 #[.int .i64 lo, .int .i64 hi] w fun e w' => e = .returned (.tuple #[.pointer none, Wr.errV 4]) ∧ Below w.heap.size w w' := by
  by_cases h0 : lo < 0
  · go_enter Tryz.func6, Tryz.ntmps6
    go_wp2
    go_ret2
    exact ⟨rfl, Below.refl _ _⟩
  by_cases h1 : hi < lo
  · go_enter Tryz.func6, Tryz.ntmps6
    go_wp2
    go_ret2
    exact ⟨rfl, Below.refl _ _⟩
  have h2 : 32 < hi := by omega
  go_enter Tryz.func6, Tryz.ntmps6
  go_wp2
  go_ret2
  exact ⟨rfl, Below.refl _ _⟩
set_option maxHeartbeats 4000000 in
theorem steps_walk (xs : List Ox) (sa : Option Addr) (cap : Nat) (lo hi : Int) (w0 : World) (hO : OLies w0 w0.heap.size sa xs) (hle : xs.length ≤ 1099511627776) (ht : ∀ V, Below w0.heap.size w0 V → Vl.Tab V ∧ Wr.Quart V ∧ Wr.Ety V) :
    Calls Tryz.prog 3 #[.int .i64 lo, .int .i64 hi, .slice sa xs.length cap] w0 fun e w' => e = .returned (.bool true) ∧ Below w0.heap.size w0 w' := by
  have HO := hidMk hO
  have HT := hidMk ht
  clear hO ht
  by_cases hr : 0 ≤ lo ∧ lo ≤ hi ∧ hi ≤ 32
  · have HN := hidMk (new_ok lo hi w0 hr)
    have r0 : ¬ lo < 0 := by omega
    have r1 : ¬ 32 < hi := by omega
    have r2 : ¬ hi < lo := by omega
    have HRG := hidMk hr
    clear hr
    go_enter Tryz.func3, Tryz.ntmps3
    go_wp2_with fail
    refine HN.out.mono ?_
    rintro e w1 ⟨t, mp, rfl, hp, b1⟩
    have HP := hidMk hp
    have HB1 := hidMk b1
    clear hp b1 HN
    go_wp2_with fail
    refine (Wr.told_nil w1).mono ?_
    rintro e w2 ⟨rfl, hw2⟩
    subst hw2
    have HSI : Hid (SI w0 (w2.alloc (.cells #[.int .i64 lo, .int .i64 hi, .slice none 0 0] 33)) t mp w2.heap.size lo hi [] (.slice none 0 0) []) := by
      have bl := bel1 w2 (.cells #[.int .i64 lo, .int .i64 hi, .slice none 0 0] 33)
      refine ⟨HP.out.later bl, ⟨Own.new w2 33 3 #[.int .i64 lo, .int .i64 hi, .slice none 0 0] rfl, ⟨World.ownsRow_nil _ _ _ _, (fun q hq => by cases hq), (fun q hq => by cases hq)⟩, HB1.out.size⟩, ⟨(fun q hq => by cases hq), by simp [wt]⟩, (List.perm_nil.1 (srt_perm [])).symm, fun i hi hd => ?_, HB1.out.alloc HB1.out.size _⟩
      have q := (HP.out.lt hi).2
      rcases hd with e | e | ⟨q, hq, -⟩
      · omega
      · cases e
      · cases hq
    go_wp2_with fail
    generalize w2.alloc (.cells #[.int .i64 lo, .int .i64 hi, .slice none 0 0] 33) = W1 at *
    generalize w2.heap.size = s at *
    go_loopg [7, 11] xs.length (fun gk x i wr => ∃ j : Nat, gk + j = xs.length ∧ i = .int .i64 j ∧ ∃ t mp ss u qs, x = .pointer (some ⟨t, 0, none⟩) ∧ SI w0 wr t mp s lo hi ss u qs)
    case atStart => exact ⟨0, by omega, rfl, t, mp, [], _, [], rfl, HSI.out⟩
    case round =>
      obtain ⟨j, hgk, rfl, t1, mp1, ss, u, qs, rfl, hsi⟩ := hrel
      have HS1 := hidMk hsi
      clear hsi
      by_cases hj : j < xs.length
      · have hj' : (j : Int) < (xs.length : Int) := by omega
        have hO1 := HO.out.kept HS1.out.bel
        obtain ⟨b, off, ea, -, c0, c1, c2, c3, c4, c5⟩ := hO1.row j hj
        subst ea
        have HST := hidMk (step_any w0 wr t1 mp1 s lo hi ss u qs xs[j] HS1.out (hO1.ent xs[j] (List.getElem_mem hj)) HT.out)
        generalize xs[j] = o at *
        clear hO1
        go_wp2_with fail
        refine HST.out.mono ?_
        rintro e w5 hpost
        unfold StepPost at hpost
        obtain ⟨t5, mp5, ss5, u5, qs5, rfl, h5⟩ := hpost
        have H5 := hidMk h5
        clear h5 HST c0 c1 c2 c3 c4 c5
        go_wp2_with fail
        go_roundg (gk - 1)
        case measure => omega
        case rel => exact ⟨j + 1, by omega, by go_num, t5, mp5, ss5, u5, qs5, rfl, H5.out⟩
      · have hj' : ¬ (j : Int) < (xs.length : Int) := by omega
        have HSV := hidMk (save_any wr w0.heap.size t1 mp1 lo hi ss HS1.out.ps (HT.out _ HS1.out.bel).1 (HT.out _ HS1.out.bel).2.1)
        have HPC : Hid (∀ w5 u5 ps, Below wr.heap.size wr w5 → OPc w5 wr.heap.size u5 ps → ps.map (fun p => (p.g, p.b)) = saveP (ces ss) → Calls Tryz.prog 10 #[u5, .pointer (some ⟨s, 0, none⟩)] w5 fun e w' => e = .returned (.bool true) ∧ Below w5.heap.size w5 w') := fun w5 u5 ps b5 o5 e5 => by
          have hrg := HS1.out.ps.rg
          obtain ⟨a, ha⟩ : ∃ a : Nat, lo = (a : Int) := ⟨lo.toNat, by omega⟩
          obtain ⟨b, hb⟩ : ∃ b : Nat, hi = (b : Int) := ⟨hi.toNat, by omega⟩
          have hS := HS1.out
          rw [ha, hb] at hS hrg
          exact piecesL_any w5 w0.heap.size s wr.heap.size a b u u5 qs ps (ces ss) ⟨by omega, by omega⟩ (hS.later b5).ds hS.dc o5 e5 hS.ps.apart hS.eq (fun c hc => by
            obtain ⟨-, -, q1, q2⟩ := hS.ps.okC c hc
            exact ⟨by omega, by omega⟩)
        go_wp2_with fail
        refine HSV.out.mono ?_
        rintro e w5 ⟨u5, ps, rfl, o5, e5, b5⟩
        have HPI := hidMk (HPC.out w5 u5 ps b5 o5 e5)
        have HB5 := hidMk (HS1.out.bel.trans (b5.mono HS1.out.bel.size))
        obtain ⟨pb, pc, hu5, -⟩ := o5.pin
        subst hu5
        clear o5 e5 b5 HSV HPC
        go_wp2_with fail
        refine HPI.out.mono ?_
        rintro e w6 ⟨rfl, b6⟩
        have HB6 := hidMk (HB5.out.trans (b6.mono HB5.out.size))
        clear b6 HPI
        go_wp2_with fail
        go_ret
        exact ⟨rfl, HB6.out⟩
  · have HN := hidMk (new_bad lo hi w0 hr)
    have HR := hidMk hr
    clear hr
    have HTD := hidMk (fun V (hV : Below w0.heap.size w0 V) => Wr.told_any 4 V (HT.out _ hV).2.2)
    simp only [Wr.errV, if_neg (show ¬ (4 : Nat) = 0 by decide)] at HN HTD
    by_cases r0 : lo < 0
    · go_enter Tryz.func3, Tryz.ntmps3
      go_wp2_with fail
      refine HN.out.mono ?_
      rintro e w1 ⟨rfl, b1⟩
      have HB1 := hidMk b1
      clear b1
      go_wp2_with fail
      refine (HTD.out _ HB1.out).mono ?_
      rintro e w2 ⟨rfl, b2⟩
      have HB2 := hidMk (HB1.out.trans (b2.mono HB1.out.size))
      clear b2
      go_wp2_with fail
      go_ret
      exact ⟨ret_bool (by simp), HB2.out⟩
    by_cases r1 : 32 < hi
    · go_enter Tryz.func3, Tryz.ntmps3
      go_wp2_with fail
      refine HN.out.mono ?_
      rintro e w1 ⟨rfl, b1⟩
      have HB1 := hidMk b1
      clear b1
      go_wp2_with fail
      refine (HTD.out _ HB1.out).mono ?_
      rintro e w2 ⟨rfl, b2⟩
      have HB2 := hidMk (HB1.out.trans (b2.mono HB1.out.size))
      clear b2
      go_wp2_with fail
      go_ret
      exact ⟨ret_bool (by simp), HB2.out⟩
    · have r2 : hi < lo := by have q := HR.out; omega
      go_enter Tryz.func3, Tryz.ntmps3
      go_wp2_with fail
      refine HN.out.mono ?_
      rintro e w1 ⟨rfl, b1⟩
      have HB1 := hidMk b1
      clear b1
      go_wp2_with fail
      refine (HTD.out _ HB1.out).mono ?_
      rintro e w2 ⟨rfl, b2⟩
      have HB2 := hidMk (HB1.out.trans (b2.mono HB1.out.size))
      clear b2
      go_wp2_with fail
      go_ret
      exact ⟨ret_bool (by simp), HB2.out⟩
end Go.Proofs.YtobhccmnlmlapaaGreatDoor
namespace Go.Proofs.YtobhccmnlmlapaaGreatDoor
open Go.ChangeShapes Go.WideShapes Go.ChangeAt Go.RowKit
open Go.Deep Go.Joins
set_option linter.unusedVariables false
set_option maxRecDepth 100000

theorem cells29 : Tryz.prog.cellsOf 169 = 1 := by kernel_rfl
theorem cells63 : Tryz.prog.cellsOf 196 = 16 := by kernel_rfl
theorem gQ : Tryz.prog.globalNamed "streamwright/wire.quarters" = some 1 := by kernel_rfl
theorem gQType : (Tryz.prog.globals[1]?).map (·.type) = some 196 := by kernel_rfl
theorem under63 : Tryz.prog.underlying 196 = some (.array 16 169) := by kernel_rfl
theorem gE : Tryz.prog.globalNamed "errors.errorType" = some 0 := by kernel_rfl
theorem rtyp : (Tryz.prog.cutTypes.find? (·.1 == "internal/reflectlite.rtype")).map (·.2) = some 148 := by kernel_rfl
theorem oneRow : ((List.range 269).filter fun t => Tryz.prog.rowNamed t [101, 114, 114, 111, 114]) = [25] := by kernel_rfl
theorem nTypes : Tryz.prog.types.size = 269 := by kernel_rfl
theorem cellsU64 : Tryz.prog.cellsOf 94 = 1 := by kernel_rfl
theorem cellsPow : Tryz.prog.cellsOf 237 = 20 := by kernel_rfl
theorem gPow : Tryz.prog.globalNamed "internal/strconv.uint64pow10" = some 2 := by kernel_rfl
theorem gPowType : (Tryz.prog.globals[2]?).map (·.type) = some 237 := by kernel_rfl
theorem powTab {W : World} {l : List (String × DataW Unit)} (h : laidMetH Tryz.prog l W) (e : l.filter (fun x => x.1 == "internal/strconv.uint64pow10") = [("internal/strconv.uint64pow10", Lib.tabData .u64 Lib.pow10Tab)]) : Vl.Tab W := by
  have hf := laidMetH.filter (fun x => x.1 == "internal/strconv.uint64pow10") h
  rw [e] at hf
  exact Lib.tabIs_of_head (rest := []) gPow gPowType Tryz.underlying237 Tryz.underlying94 cellsU64 cellsPow hf

def qTab : List Int := [0, 498536548, 997073096, 651767980, 1994146192, 1802195444, 1303535960, 1342533948, 3988292384, 4027552580, 3604390888, 3412177804, 2607071920, 2262029012, 2685067896, 3183342108]
theorem qTab_at : ∀ i : Fin 16, qTab.getD i.val 0 = (Wr.tab i.val : Int) := by decide +kernel

theorem quart_of {W : World} {l : List (String × DataW Unit)} (h : laidMetH Tryz.prog l W) (e : l.filter (fun x => x.1 == "streamwright/wire.quarters") = [("streamwright/wire.quarters", Lib.tabData .u32 qTab)]) : Wr.Quart W := by
  have hf := laidMetH.filter (fun x => x.1 == "streamwright/wire.quarters") h
  rw [e] at hf
  have ht := Lib.tabIs_of_head (rest := []) gQ gQType under63 Tryz.underlying169 cells29 cells63 hf
  intro i hi
  rw [ht.cell gQ i hi, qTab_at ⟨i, hi⟩]

theorem ety_of {W : World} {l : List (String × DataW Unit)} (h : laidMetH Tryz.prog l W) (e : l.filter (fun x => x.1 == "errors.errorType") = [("errors.errorType", Rows.laid_errors_errorType)]) : Wr.Ety W := by
  have hf := laidMetH.filter (fun x => x.1 == "errors.errorType") h
  rw [e] at hf
  have h' : laidMet Tryz.prog [] W ∧ handlesMet Tryz.prog [("errors.errorType", Rows.laid_errors_errorType)] W := hf
  obtain ⟨name, u, ty, e1, e2, e3, e4, e5⟩ := h'.2 _ (List.mem_singleton.2 rfl)
  have en : name = [101, 114, 114, 111, 114] := (Option.some.inj e1).symm
  subst en
  obtain rfl := Option.some.inj (rtyp.symm.trans e2)
  have hm : ty ∈ (List.range 269).filter fun t => Tryz.prog.rowNamed t [101, 114, 114, 111, 114] := List.mem_filter.2 ⟨List.mem_range.2 (by rw [← nTypes]; exact e3), e4⟩
  rw [oneRow] at hm
  obtain rfl := List.mem_singleton.1 hm
  have hh : typeHandle Tryz.prog 25 = .pointer (some ⟨5, 25, none⟩) := by kernel_rfl
  rw [hh] at e5
  have := World.var?_cell gE e5 0
  unfold Wr.Ety
  simpa using this

/-- A WORLD FOR THE WITNESS: each listed variable holds what its initialiser lays. -/
def setRow (cs : Array Value) : Obj → Obj
  | .cells _ t frozen => .cells cs t frozen
  | o => o
def laidOver (w : World) : World :=
  { w with heap := ((((w.heap.modify 2 (setRow #[.int .u64 1, .int .u64 10, .int .u64 100, .int .u64 1000, .int .u64 10000, .int .u64 100000, .int .u64 1000000, .int .u64 10000000, .int .u64 100000000, .int .u64 1000000000, .int .u64 10000000000, .int .u64 100000000000, .int .u64 1000000000000, .int .u64 10000000000000, .int .u64 100000000000000, .int .u64 1000000000000000, .int .u64 10000000000000000, .int .u64 100000000000000000, .int .u64 1000000000000000000, .int .u64 10000000000000000000])).modify 3 (setRow #[.int .u8 0, .int .u8 1, .int .u8 28, .int .u8 2, .int .u8 29, .int .u8 14, .int .u8 24, .int .u8 3, .int .u8 30, .int .u8 22, .int .u8 20, .int .u8 15, .int .u8 25, .int .u8 17, .int .u8 4, .int .u8 8, .int .u8 31, .int .u8 27, .int .u8 13, .int .u8 23, .int .u8 21, .int .u8 19, .int .u8 16, .int .u8 7, .int .u8 26, .int .u8 12, .int .u8 18, .int .u8 6, .int .u8 11, .int .u8 5, .int .u8 10, .int .u8 9])).modify 4 (setRow #[.int .u8 0, .int .u8 1, .int .u8 56, .int .u8 2, .int .u8 57, .int .u8 49, .int .u8 28, .int .u8 3, .int .u8 61, .int .u8 58, .int .u8 42, .int .u8 50, .int .u8 38, .int .u8 29, .int .u8 17, .int .u8 4, .int .u8 62, .int .u8 47, .int .u8 59, .int .u8 36, .int .u8 45, .int .u8 43, .int .u8 51, .int .u8 22, .int .u8 53, .int .u8 39, .int .u8 33, .int .u8 30, .int .u8 24, .int .u8 18, .int .u8 12, .int .u8 5, .int .u8 63, .int .u8 55, .int .u8 48, .int .u8 27, .int .u8 60, .int .u8 41, .int .u8 37, .int .u8 16, .int .u8 46, .int .u8 35, .int .u8 44, .int .u8 21, .int .u8 52, .int .u8 32, .int .u8 23, .int .u8 11, .int .u8 54, .int .u8 26, .int .u8 40, .int .u8 15, .int .u8 34, .int .u8 20, .int .u8 31, .int .u8 10, .int .u8 25, .int .u8 14, .int .u8 19, .int .u8 9, .int .u8 13, .int .u8 8, .int .u8 7, .int .u8 6])).modify 0 (setRow #[.iface 148 (.agg #[.pointer (some ⟨5, 25, none⟩)])])).modify 1 (setRow (qTab.map (Value.int .u32)).toArray) }

theorem steps_contract (H : Type) (enc : TypeId × Value → H) (W : World) (base : Nat) (args : Array Value) (ds gs : List (DataW H)) (before : List MemPlace)
    (hval : ∀ (j : Nat) t v, Tryz.f3.params[j]? = some t → args[j]? = some v → Value.okWide Tryz.prog W .any base t v)
    (hW : DataW.Whole enc Tryz.prog Tryz.f3.params.toList Rows.stateStepsSpec.vars false W args.toList ds gs before)
    (hk : Rows.uptoSmall H (ds ++ gs) = true) (hL : laidMetH Tryz.prog Rows.stateStepsUptoRow.laid W) :
    Calls Tryz.prog 3 args W fun e W' => ∃ v, e = .returned v ∧ Rows.stateStepsSpec.post enc Tryz.prog Tryz.f3 false true false false W args v W' := by
  have hW' := hW
  have hbk := bulk_le hk
  obtain ⟨p, q, hA0, hV, rfl, hfz, hnd⟩ := hW
  have hA : DataW.TrodAll enc Tryz.prog W 0 (fun _ => true) true Tryz.f3.params.toList args.toList ds p := hA0
  rw [Tryz.params3] at hA hval
  obtain ⟨v0, vs0, d0, ds0, p0, q0, hargs, rfl, rfl, h0, r0⟩ := trodAll_cons hA
  obtain ⟨v1, vs1, d1, ds1, p1, q1, rfl, rfl, rfl, h1, r1⟩ := trodAll_cons r0
  obtain ⟨v2, vs2, d2, ds2, p2, q2, rfl, rfl, rfl, h2, r2⟩ := trodAll_cons r1
  obtain ⟨rfl, rfl, rfl⟩ := trodAll_nil r2
  obtain rfl : args = #[v0, v1, v2] := by cases args; simp_all
  obtain ⟨rfl, rfl⟩ := trodVars_none hV
  obtain ⟨a, len, cap, rfl⟩ := okWide_slice Tryz.underlying22 (hval 2 22 v2 rfl rfl)
  have k0 := h0
  have k1 := h1
  have k2 := h2
  have lt0 : ∀ x ∈ p0, x.block < W.heap.size := by obtain ⟨m, hm⟩ := k0; exact DataW.trod_lt m _ _ _ hm
  have lt1 : ∀ x ∈ p1, x.block < W.heap.size := by obtain ⟨m, hm⟩ := k1; exact DataW.trod_lt m _ _ _ hm
  have lt2 : ∀ x ∈ p2, x.block < W.heap.size := by obtain ⟨m, hm⟩ := k2; exact DataW.trod_lt m _ _ _ hm
  obtain ⟨lo, rfl, rfl, hp0, hwn0⟩ := open_int Tryz.underlying3 (hval 0 3 v0 rfl rfl) h0
  obtain ⟨hi, rfl, rfl, hp1, hwn1⟩ := open_int Tryz.underlying3 (hval 1 3 v1 rfl rfl) h1
  obtain ⟨fuel, hf⟩ := h2
  have b0 : Rows.uptoBulk d2 ≤ 1048576 := Nat.le_trans (bulk_mem (by simp)) hbk
  obtain ⟨xs, hrl, hR, hle⟩ := ops_in hf b0
  subst hrl
  clear hA0
  have hTab := powTab hL (by kernel_rfl)
  have hQ := quart_of hL (by kernel_rfl)
  have hE := ety_of hL (by kernel_rfl)
  refine (steps_walk xs a cap lo hi W hR (by omega) (fun V hV => ⟨hTab.later hV, hQ.later hV, hE.later hV⟩)).mono fun e W' ⟨he, bel⟩ => ?_
  subst he
  exact ⟨_, rfl, _, _, _, [], _, [], hW', trodAll_mk1 (shut_bool Tryz.underlying4 _),
    (trodAll_cons_mk (Below.trod laidOut (by kernel_rfl) (of_decide_eq_true (by kernel_rfl)) k0 bel lt0) (trodAll_cons_mk (Below.trod laidOut (by kernel_rfl) (of_decide_eq_true (by kernel_rfl)) k1 bel lt1) (trodAll_cons_mk (Below.trod laidOut (by kernel_rfl) (of_decide_eq_true (by kernel_rfl)) k2 bel lt2) trodAll_mk0))), rfl, bel.frame _, fun h => by cases h⟩

theorem steps_laid (os : Os) : laidMetH Tryz.prog Rows.stateStepsUptoRow.laid ((laidOver (World.holding Tryz.prog os ⟨#[], #[], []⟩)).forCall (fun _ _ => 0) ⟨#[], #[.int .i64 0, .int .i64 0, .slice none 0 0], []⟩).memory :=
  laidMetH_of_parts (laidMet_of_run' 8 (by kernel_rfl) (by kernel_rfl)) (by kernel_rfl)
theorem steps_reads (os : Os) {H : Type} (enc : TypeId × Value → H) : ∃ places, DataW.whole enc Tryz.prog ((laidOver (World.holding Tryz.prog os ⟨#[], #[], []⟩)).forCall (fun _ _ => 0) ⟨#[], #[.int .i64 0, .int .i64 0, .slice none 0 0], []⟩).memory Tryz.f3.params.toList Rows.stateStepsSpec.vars false #[Value.int .i64 0, .int .i64 0, .slice none 0 0].toList 8 = some ([.lit (.int .i64 0), .lit (.int .i64 0), .nil], [], places) :=
  ⟨[], by kernel_rfl⟩

theorem steps_lifted (os : Os) (started : os.Started) (H : Type) (enc : TypeId × Value → H) (F : Stop.Interp) :
    ReturnsInHanded {} Tryz.checked os 3 .any ((Rows.OpenSpec.upto Rows.stateStepsSpec).preRow enc Tryz.prog Tryz.f3 Rows.stateStepsUptoRow.domain false Rows.stateStepsUptoRow.laid) (((Rows.OpenSpec.upto Rows.stateStepsSpec).at F).post enc Tryz.prog Tryz.f3 false true false false) := by
  obtain ⟨places, hx⟩ := steps_reads os enc
  refine returnsInHanded_of_row (C := Tryz.checked) (s := Rows.OpenSpec.upto Rows.stateStepsSpec) own started (by kernel_rfl) Tryz.func3
    (witness_row_at (enc := enc) (C := Tryz.checked) false (laidOver (World.holding Tryz.prog os ⟨#[], #[], []⟩)) #[.int .i64 0, .int .i64 0, .slice none 0 0] rfl (by kernel_rfl) (by kernel_rfl) (by kernel_rfl)
      (OpenSpec.preRow_of_cond 8 hx (by kernel_rfl) (fun k hk => by cases hk; kernel_rfl) (by kernel_rfl) (steps_laid os))) ?_
  intro W base args ds gs before hval hW _ hcond _ hL _ _
  exact steps_contract H enc W base args ds gs before hval hW (hcond _ rfl) hL

theorem steps_said : Rows.StateStepsUptoSaid :=
  OpenClaim.holds_of_cond 3 Tryz.f3 rfl rfl rfl rfl rfl rfl rfl ⟨rfl, rfl, rfl, rfl, rfl⟩ rfl rfl rfl rfl rfl (by kernel_rfl) Tryz.func3 (by kernel_rfl)
    (of_decide_eq_true (by kernel_rfl)) (by unfold Func.isWrapper; first | (rw [if_pos (by decide +kernel)]; kernel_rfl) | (rw [if_neg (by decide +kernel)]; exact ⟨rfl, rfl⟩))
    (fun os started H enc _ F => by rw [OpenClaim.pre_eq_preRow]; exact steps_lifted os started H enc F)

theorem steps_plain (f : FuncId) (fn : Func) (hf : Tryz.pinned.checked.prog.funcNamed "streamwright/streamwrightlaw7.StateSteps" = some f) (hfn : Tryz.pinned.checked.prog.funcs[f]? = some fn) :
    true = Tryz.pinned.checked.prog.looks [] ∧ ∀ (j : Nat) t, fn.params[j]? = some t → Tryz.pinned.checked.prog.wantsStandIn t = false := by
  obtain rfl : f = 3 := Option.some.inj ((show Tryz.prog.funcNamed "streamwright/streamwrightlaw7.StateSteps" = some 3 by kernel_rfl).symm.trans hf) |>.symm
  obtain rfl : fn = Tryz.f3 := (Option.some.inj (Tryz.func3.symm.trans hfn)).symm
  refine ⟨by kernel_rfl, fun j t ht => ?_⟩
  rw [Tryz.params3] at ht
  have hm : t = 3 ∨ t = 22 := by simpa using Array.mem_of_getElem? ht
  rcases hm with rfl | rfl
  · exact (show Tryz.prog.wantsStandIn 3 = false by kernel_rfl)
  · exact (show Tryz.prog.wantsStandIn 22 = false by kernel_rfl)

/-- THE CARD. -/
theorem stateStepsUpto_card : Rows.StateStepsUptoCardSaid :=
  Claim7.holds_tied_plain_at .later [] _ _ _ _ steps_said (fun _ h => by cases h) (by kernel_rfl) (fun _ h => by cases h) stateStepsUpto_row_tie rfl ⟨rfl, rfl⟩ (by kernel_rfl) rfl steps_plain (by kernel_rfl)
end Go.Proofs.YtobhccmnlmlapaaGreatDoor
