/- The dump's head, sign by sign: the kernel reckons with a list of signs, not with the text's bytes. Printed by genhead.py. -/
import Derived.Test.YtpbjodbcmaaheaaGreatDoorRows
import Derived.WalkKit
import Derived.ProofKit
import Derived.SevenTiedAt
namespace Go.Proofs.YtpbjodbcmaaheaaGreatDoor
open Go

def headL : List Nat := [104, 97, 114, 110, 101, 115, 115, 32, 53, 53, 57, 51, 97, 100, 50, 97, 53, 97, 55, 55, 50, 102, 56, 98, 101, 49, 57, 53, 101, 48, 102, 101, 54, 57, 50, 48, 51, 51, 102, 102,
  56, 55, 101, 50, 50, 52, 98, 57, 101, 49, 102, 51, 98, 97, 99, 102, 56, 55, 102, 49, 51, 100, 48, 49, 102, 57, 49, 52, 51, 53, 98, 57, 32, 99, 117, 116, 32, 97, 116, 32,
  104, 111, 114, 116, 97, 116, 111, 114, 47, 104, 111, 114, 116, 97, 116, 111, 114, 108, 97, 119, 57, 46, 66, 117, 115, 121, 65, 108, 108, 32, 104, 111, 114, 116, 97, 116, 111, 114, 47, 104,
  111, 114, 116, 97, 116, 111, 114, 108, 97, 119, 57, 46, 66, 117, 115, 121, 82, 117, 110, 32, 104, 111, 114, 116, 97, 116, 111, 114, 47, 104, 111, 114, 116, 97, 116, 111, 114, 108, 97, 119,
  57, 46, 68, 101, 109, 97, 110, 100, 65, 108, 108, 32, 104, 111, 114, 116, 97, 116, 111, 114, 47, 104, 111, 114, 116, 97, 116, 111, 114, 108, 97, 119, 57, 46, 68, 101, 109, 97, 110, 100,
  69, 118, 101, 114, 32, 104, 111, 114, 116, 97, 116, 111, 114, 47, 104, 111, 114, 116, 97, 116, 111, 114, 108, 97, 119, 57, 46, 68, 101, 109, 97, 110, 100, 82, 117, 110, 32, 104, 111, 114,
  116, 97, 116, 111, 114, 47, 104, 111, 114, 116, 97, 116, 111, 114, 108, 97, 119, 57, 46, 68, 101, 109, 97, 110, 100, 76, 101, 115, 115, 32, 104, 111, 114, 116, 97, 116, 111, 114, 47, 104,
  111, 114, 116, 97, 116, 111, 114, 108, 97, 119, 57, 46, 77, 111, 115, 116, 65, 108, 108, 32, 104, 111, 114, 116, 97, 116, 111, 114, 47, 104, 111, 114, 116, 97, 116, 111, 114, 108, 97, 119,
  57, 46, 77, 111, 115, 116, 74, 117, 115, 116, 32, 104, 111, 114, 116, 97, 116, 111, 114, 47, 104, 111, 114, 116, 97, 116, 111, 114, 108, 97, 119, 57, 46, 66, 117, 115, 121, 79, 110, 101,
  32, 104, 111, 114, 116, 97, 116, 111, 114, 47, 104, 111, 114, 116, 97, 116, 111, 114, 108, 97, 119, 57, 46, 66, 117, 115, 121, 77, 111, 114, 101, 32, 104, 111, 114, 116, 97, 116, 111, 114,
  47, 104, 111, 114, 116, 97, 116, 111, 114, 108, 97, 119, 57, 46, 66, 117, 115, 121, 79, 114, 100, 101, 114, 32, 104, 111, 114, 116, 97, 116, 111, 114, 47, 104, 111, 114, 116, 97, 116, 111,
  114, 108, 97, 119, 57, 46, 68, 101, 109, 97, 110, 100, 70, 117, 108, 108, 32, 104, 111, 114, 116, 97, 116, 111, 114, 47, 104, 111, 114, 116, 97, 116, 111, 114, 108, 97, 119, 57, 46, 68,
  101, 109, 97, 110, 100, 66, 111, 117, 110, 100, 32, 104, 111, 114, 116, 97, 116, 111, 114, 47, 104, 111, 114, 116, 97, 116, 111, 114, 108, 97, 119, 57, 46, 68, 101, 109, 97, 110, 100, 78,
  111, 110, 101, 32, 104, 111, 114, 116, 97, 116, 111, 114, 47, 104, 111, 114, 116, 97, 116, 111, 114, 108, 97, 119, 57, 46, 77, 111, 115, 116, 69, 109, 112, 116, 121, 32, 104, 111, 114, 116,
  97, 116, 111, 114, 47, 104, 111, 114, 116, 97, 116, 111, 114, 108, 97, 119, 57, 46, 77, 111, 115, 116, 84, 105, 103, 104, 116, 32, 104, 111, 114, 116, 97, 116, 111, 114, 47, 104, 111, 114,
  116, 97, 116, 111, 114, 108, 97, 119, 57, 46, 77, 111, 115, 116, 76, 101, 115, 115, 32, 104, 111, 114, 116, 97, 116, 111, 114, 47, 104, 111, 114, 116, 97, 116, 111, 114, 108, 97, 119, 57,
  46, 68, 101, 109, 97, 110, 100, 84, 119, 111, 32, 104, 111, 114, 116, 97, 116, 111, 114, 47, 104, 111, 114, 116, 97, 116, 111, 114, 108, 97, 119, 57, 46, 66, 117, 115, 121, 83, 117, 109,
  32, 104, 111, 114, 116, 97, 116, 111, 114, 47, 104, 111, 114, 116, 97, 116, 111, 114, 108, 97, 119, 57, 46, 77, 111, 115, 116, 90, 101, 114, 111]
theorem head_is : Tryz.prog.initOrder = String.ofList (headL.map Char.ofNat) := by kernel_rfl
theorem head_list : Tryz.prog.initOrder.toList = headL.map Char.ofNat := by rw [head_is]; exact String.toList_ofList
theorem make_gen (P : Program) (L : List Char) (h : P.initOrder.toList = L) (rest : List (List Char)) (hw : behindMainWord (wordsSigns L) = "cut".toList :: rest) : (P.make == some Make.cut) = true := by
  unfold Program.make
  rw [h, hw]
  rfl
theorem enter_gen (P : Program) (L : List Char) (h : P.initOrder.toList = L) (c : List Char) (rest : List (List Char)) (hc : c = "cut".toList) (hw : behindMainWord (wordsSigns L) = c :: rest) (hs : stripLifts liftWords (c :: rest) = ([], c :: rest))
    (hl : P.laysLater = false) (hb : P.bearsReflect = false) (hd : P.doorFits [] = true) : P.mayEnter = true := by
  unfold Program.mayEnter
  rw [h, hw]
  simp only [hs, hl, hb, hd]
  simp [hc]
theorem lifts_gen (P : Program) (L : List Char) (h : P.initOrder.toList = L) (c : List Char) (rest : List (List Char)) (hc : c = "cut".toList) (hw : behindMainWord (wordsSigns L) = c :: rest) (hs : stripLifts liftWords (c :: rest) = ([], c :: rest)) : P.liftsFinal = false := by
  unfold Program.liftsFinal Program.headLifts
  rw [h, hw]
  simp only [hs]
  simp [hc]
theorem main_gen (P : Program) (L : List Char) (h : P.initOrder.toList = L) (s : List Char) (rest : List (List Char)) (hw : wordsSigns L = "harness".toList :: s :: rest) (hs : isSumSigns s = true) : P.mainIs = some (true, s) := by
  unfold Program.mainIs
  rw [h, hw]
  simp [hs]
def restL : List (List Char) := (behindMainWord (wordsSigns (headL.map Char.ofNat))).tail
def restM : List (List Char) := (wordsSigns (headL.map Char.ofNat)).tail.tail
theorem head_words : behindMainWord (wordsSigns (headL.map Char.ofNat)) = "cut".toList :: restL := by kernel_rfl
theorem head_strip : stripLifts liftWords ("cut".toList :: restL) = ([], "cut".toList :: restL) := by kernel_rfl
theorem head_make : (Tryz.prog.make == some Make.cut) = true := make_gen Tryz.prog _ head_list _ head_words
theorem head_later : Tryz.prog.laysLater = false := by kernel_rfl
theorem head_reflect : Tryz.prog.bearsReflect = false := by kernel_rfl
theorem head_door : Tryz.prog.doorFits [] = true := by kernel_rfl
theorem head_enter : Tryz.prog.mayEnter = true := enter_gen Tryz.prog _ head_list _ _ rfl head_words head_strip head_later head_reflect head_door
theorem head_lifts : Tryz.prog.liftsFinal = false := lifts_gen Tryz.prog _ head_list _ _ rfl head_words head_strip
theorem harness_list : "5593ad2a5a772f8be195e0fe692033ff87e224b9e1f3bacf87f13d01f91435b9".toList = [53, 53, 57, 51, 97, 100, 50, 97, 53, 97, 55, 55, 50, 102, 56, 98, 101, 49, 57, 53, 101, 48, 102, 101, 54, 57, 50, 48, 51, 51, 102, 102, 56, 55, 101, 50, 50, 52, 98, 57, 101, 49, 102, 51, 98, 97, 99, 102, 56, 55, 102, 49, 51, 100, 48, 49, 102, 57, 49, 52, 51, 53, 98, 57].map Char.ofNat := by rw [show "5593ad2a5a772f8be195e0fe692033ff87e224b9e1f3bacf87f13d01f91435b9" = String.ofList ([53, 53, 57, 51, 97, 100, 50, 97, 53, 97, 55, 55, 50, 102, 56, 98, 101, 49, 57, 53, 101, 48, 102, 101, 54, 57, 50, 48, 51, 51, 102, 102, 56, 55, 101, 50, 50, 52, 98, 57, 101, 49, 102, 51, 98, 97, 99, 102, 56, 55, 102, 49, 51, 100, 48, 49, 102, 57, 49, 52, 51, 53, 98, 57].map Char.ofNat) by kernel_rfl]; exact String.toList_ofList
theorem head_sum : wordsSigns (headL.map Char.ofNat) = "harness".toList :: [53, 53, 57, 51, 97, 100, 50, 97, 53, 97, 55, 55, 50, 102, 56, 98, 101, 49, 57, 53, 101, 48, 102, 101, 54, 57, 50, 48, 51, 51, 102, 102, 56, 55, 101, 50, 50, 52, 98, 57, 101, 49, 102, 51, 98, 97, 99, 102, 56, 55, 102, 49, 51, 100, 48, 49, 102, 57, 49, 52, 51, 53, 98, 57].map Char.ofNat :: restM := by kernel_rfl
theorem head_main : Tryz.prog.mainIs = some (true, "5593ad2a5a772f8be195e0fe692033ff87e224b9e1f3bacf87f13d01f91435b9".toList) := by rw [harness_list]; exact main_gen Tryz.prog _ head_list _ _ head_sum (by kernel_rfl)
end Go.Proofs.YtpbjodbcmaaheaaGreatDoor
