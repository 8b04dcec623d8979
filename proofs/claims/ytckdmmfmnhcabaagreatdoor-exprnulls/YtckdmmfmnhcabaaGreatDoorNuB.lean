import Derived.Test.YtckdmmfmnhcabaaGreatDoorNuA
import Derived.Test.YtckdmmfmnhcabaaGreatDoorWb1
namespace Go.Proofs.YtckdmmfmnhcabaaGreatDoor
open Go.RowKit
set_option linter.unusedVariables false
set_option linter.unusedSimpArgs false
set_option maxRecDepth 100000

def colsN : List Co := [⟨⟨#[97]⟩, 1⟩, ⟨⟨#[98]⟩, 2⟩, ⟨⟨#[99]⟩, 3⟩, ⟨⟨#[122]⟩, 1⟩]
def rowN (a : Int) (b : Bool) (c : ByteArray) : List Vl := [vInt a, vTru b, vTxt c, vNull]
def xOf (s : ByteArray) : X := (exX s).getD (.col 0 ⟨#[]⟩)
theorem ex_of {s : ByteArray} (h : (exX s).isSome = true) : exX s = some (xOf s) := by
  unfold xOf
  cases hx : exX s with
  | none => rw [hx] at h; cases h
  | some x => rfl
def tx1 : ByteArray := ⟨#[97, 32, 43, 32, 122]⟩
theorem tx1_x : (exX tx1).isSome = true := by decide +kernel
theorem tx1_k : kindX colsN (xOf tx1) = .ok 1 := by kernel_rfl
def tx2 : ByteArray := ⟨#[122, 32, 42, 32, 97]⟩
theorem tx2_x : (exX tx2).isSome = true := by decide +kernel
theorem tx2_k : kindX colsN (xOf tx2) = .ok 1 := by kernel_rfl
def tx3 : ByteArray := ⟨#[122, 32, 61, 32, 122]⟩
theorem tx3_x : (exX tx3).isSome = true := by decide +kernel
theorem tx3_k : kindX colsN (xOf tx3) = .ok 2 := by kernel_rfl
def tx4 : ByteArray := ⟨#[97, 32, 60, 32, 122]⟩
theorem tx4_x : (exX tx4).isSome = true := by decide +kernel
theorem tx4_k : kindX colsN (xOf tx4) = .ok 2 := by kernel_rfl
def tx5 : ByteArray := ⟨#[45, 122]⟩
theorem tx5_x : (exX tx5).isSome = true := by decide +kernel
theorem tx5_k : kindX colsN (xOf tx5) = .ok 1 := by kernel_rfl
def tx6 : ByteArray := ⟨#[108, 101, 110, 40, 99, 117, 116, 40, 99, 44, 32, 122, 41, 41]⟩
theorem tx6_x : (exX tx6).isSome = true := by decide +kernel
theorem tx6_k : kindX colsN (xOf tx6) = .ok 1 := by kernel_rfl
def tx7 : ByteArray := ⟨#[97, 98, 115, 40, 122, 41]⟩
theorem tx7_x : (exX tx7).isSome = true := by decide +kernel
theorem tx7_k : kindX colsN (xOf tx7) = .ok 1 := by kernel_rfl
def tx8 : ByteArray := ⟨#[110, 111, 116, 32, 40, 122, 32, 62, 32, 97, 41]⟩
theorem tx8_x : (exX tx8).isSome = true := by decide +kernel
theorem tx8_k : kindX colsN (xOf tx8) = .ok 2 := by kernel_rfl
def tx9 : ByteArray := ⟨#[97, 32, 47, 32, 48]⟩
theorem tx9_x : (exX tx9).isSome = true := by decide +kernel
theorem tx9_k : kindX colsN (xOf tx9) = .ok 1 := by kernel_rfl
def tx10 : ByteArray := ⟨#[97, 32, 37, 32, 40, 97, 32, 45, 32, 97, 41]⟩
theorem tx10_x : (exX tx10).isSome = true := by decide +kernel
theorem tx10_k : kindX colsN (xOf tx10) = .ok 1 := by kernel_rfl
def tx11 : ByteArray := ⟨#[122]⟩
theorem tx11_x : (exX tx11).isSome = true := by decide +kernel
theorem tx11_k : kindX colsN (xOf tx11) = .ok 1 := by kernel_rfl
def tx12 : ByteArray := ⟨#[99, 111, 97, 108, 101, 115, 99, 101, 40, 122, 44, 32, 122, 41]⟩
theorem tx12_x : (exX tx12).isSome = true := by decide +kernel
theorem tx12_k : kindX colsN (xOf tx12) = .ok 1 := by kernel_rfl
def tx13 : ByteArray := ⟨#[97, 32, 61, 32, 122, 32, 97, 110, 100, 32, 102, 97, 108, 115, 101, 32, 111, 114, 32, 98]⟩
theorem tx13_x : (exX tx13).isSome = true := by decide +kernel
theorem tx13_k : kindX colsN (xOf tx13) = .ok 2 := by kernel_rfl
def tx14 : ByteArray := ⟨#[98, 32, 111, 114, 32, 122, 32, 61, 32, 97, 32, 111, 114, 32, 116, 114, 117, 101]⟩
theorem tx14_x : (exX tx14).isSome = true := by decide +kernel
theorem tx14_k : kindX colsN (xOf tx14) = .ok 2 := by kernel_rfl
def tx15 : ByteArray := ⟨#[105, 115, 110, 117, 108, 108, 40, 122, 41, 32, 97, 110, 100, 32, 110, 111, 116, 32, 105, 115, 110, 117, 108, 108, 40, 97, 41]⟩
theorem tx15_x : (exX tx15).isSome = true := by decide +kernel
theorem tx15_k : kindX colsN (xOf tx15) = .ok 2 := by kernel_rfl
def tx16 : ByteArray := ⟨#[105, 102, 40, 122, 32, 61, 32, 97, 44, 32, 49, 44, 32, 50, 41]⟩
theorem tx16_x : (exX tx16).isSome = true := by decide +kernel
theorem tx16_k : kindX colsN (xOf tx16) = .ok 1 := by kernel_rfl
theorem tx1_e (a : Int) (b : Bool) (c : ByteArray) : evX colsN (rowN a b c) (xOf tx1) = vNull := by
  cases b <;> kernel_rfl
theorem tx2_e (a : Int) (b : Bool) (c : ByteArray) : evX colsN (rowN a b c) (xOf tx2) = vNull := by
  cases b <;> kernel_rfl
theorem tx3_e (a : Int) (b : Bool) (c : ByteArray) : evX colsN (rowN a b c) (xOf tx3) = vNull := by
  cases b <;> kernel_rfl
theorem tx4_e (a : Int) (b : Bool) (c : ByteArray) : evX colsN (rowN a b c) (xOf tx4) = vNull := by
  cases b <;> kernel_rfl
theorem tx5_e (a : Int) (b : Bool) (c : ByteArray) : evX colsN (rowN a b c) (xOf tx5) = vNull := by
  cases b <;> kernel_rfl
theorem tx6_e (a : Int) (b : Bool) (c : ByteArray) : evX colsN (rowN a b c) (xOf tx6) = vNull := by
  cases b <;> kernel_rfl
theorem tx7_e (a : Int) (b : Bool) (c : ByteArray) : evX colsN (rowN a b c) (xOf tx7) = vNull := by
  cases b <;> kernel_rfl
theorem tx8_e (a : Int) (b : Bool) (c : ByteArray) : evX colsN (rowN a b c) (xOf tx8) = vNull := by
  cases b <;> kernel_rfl
theorem tx9_e (a : Int) (b : Bool) (c : ByteArray) : evX colsN (rowN a b c) (xOf tx9) = vNull := by
  cases b <;> kernel_rfl
theorem tx11_e (a : Int) (b : Bool) (c : ByteArray) : evX colsN (rowN a b c) (xOf tx11) = vNull := by
  cases b <;> kernel_rfl
theorem tx12_e (a : Int) (b : Bool) (c : ByteArray) : evX colsN (rowN a b c) (xOf tx12) = vNull := by
  cases b <;> kernel_rfl
theorem tx13_e (a : Int) (b : Bool) (c : ByteArray) : evX colsN (rowN a b c) (xOf tx13) = vTru b := by
  cases b <;> kernel_rfl
theorem tx14_e (a : Int) (b : Bool) (c : ByteArray) : evX colsN (rowN a b c) (xOf tx14) = vTru true := by
  cases b <;> kernel_rfl
theorem tx15_e (a : Int) (b : Bool) (c : ByteArray) : evX colsN (rowN a b c) (xOf tx15) = vTru true := by
  cases b <;> kernel_rfl
theorem tx16_e (a : Int) (b : Bool) (c : ByteArray) : evX colsN (rowN a b c) (xOf tx16) = vInt 2 := by
  cases b <;> kernel_rfl
theorem tx10_e (a : Int) (b : Bool) (c : ByteArray) : evX colsN (rowN a b c) (xOf tx10) = vNull := by
  have h : evX colsN (rowN a b c) (xOf tx10) = strV [vInt a, vInt (wrap64 (a - a))] (if (vInt (wrap64 (a - a))).n = 0 then vNull else vInt ((vInt a).n.tmod (vInt (wrap64 (a - a))).n)) := by kernel_rfl
  have e : (vInt (wrap64 (a - a))).n = 0 := by rw [Int.sub_self]; show wrap64 0 = 0; unfold wrap64; omega
  rw [h, if_pos e]
  unfold strV
  split <;> rfl
end Go.Proofs.YtckdmmfmnhcabaaGreatDoor
