/- The dump's head, sign by sign: the kernel reckons with a list of signs, not with the text's bytes. Printed by genhead.py. -/
import Derived.Test.YtcgmbfpmcldfdaaGreatDoorRows
import Derived.WalkKit
import Derived.ProofKit
import Derived.SevenTiedAt
namespace Go.Proofs.YtcgmbfpmcldfdaaGreatDoor
open Go

def headL : List Nat := [104, 97, 114, 110, 101, 115, 115, 32, 102, 97, 57, 50, 56, 57, 101, 49, 51, 101, 53, 57, 51, 54, 54, 52, 52, 57, 50, 52, 51, 102, 102, 97, 50, 57, 55, 99, 56, 98, 48, 51,
  52, 55, 98, 48, 99, 99, 51, 55, 99, 99, 48, 56, 53, 99, 49, 53, 51, 49, 99, 99, 54, 51, 55, 51, 50, 101, 102, 100, 52, 99, 50, 56, 32, 99, 117, 116, 32, 97, 116, 32,
  104, 111, 114, 116, 97, 116, 111, 114, 47, 104, 111, 114, 116, 97, 116, 111, 114, 108, 97, 119, 57, 46, 68, 101, 109, 97, 110, 100, 82, 117, 110, 32, 104, 111, 114, 116, 97, 116, 111, 114,
  47, 104, 111, 114, 116, 97, 116, 111, 114, 108, 97, 119, 57, 46, 68, 101, 109, 97, 110, 100, 76, 101, 115, 115]
theorem head_is : Tryz.prog.initOrder = String.ofList (headL.map Char.ofNat) := by kernel_rfl
theorem head_list : Tryz.prog.initOrder.toList = headL.map Char.ofNat := by rw [head_is]; exact String.toList_ofList
theorem make_gen (P : Program) (L : List Char) (h : P.initOrder.toList = L) (rest : List (List Char)) (hw : behindMainWord (wordsSigns L) = "cut".toList :: rest) : (P.make == some Make.cut) = true := by
  unfold Program.make
  rw [h, hw]
  rfl
theorem enter_gen (P : Program) (L : List Char) (h : P.initOrder.toList = L) (c : List Char) (rest : List (List Char)) (hc : c = "cut".toList) (hw : behindMainWord (wordsSigns L) = c :: rest) (hs : stripLifts liftWords (c :: rest) = ([], c :: rest))
    (hl : P.laysLater = false) (hb : P.bearsReflect = false) (hd : P.doorFits [] = true) : P.mayEnter = true := by
  unfold Program.mayEnter
  rw [h, hw]
  simp only [hs, hl, hb, hd]
  simp [hc]
theorem lifts_gen (P : Program) (L : List Char) (h : P.initOrder.toList = L) (c : List Char) (rest : List (List Char)) (hc : c = "cut".toList) (hw : behindMainWord (wordsSigns L) = c :: rest) (hs : stripLifts liftWords (c :: rest) = ([], c :: rest)) : P.liftsFinal = false := by
  unfold Program.liftsFinal Program.headLifts
  rw [h, hw]
  simp only [hs]
  simp [hc]
theorem main_gen (P : Program) (L : List Char) (h : P.initOrder.toList = L) (s : List Char) (rest : List (List Char)) (hw : wordsSigns L = "harness".toList :: s :: rest) (hs : isSumSigns s = true) : P.mainIs = some (true, s) := by
  unfold Program.mainIs
  rw [h, hw]
  simp [hs]
def restL : List (List Char) := (behindMainWord (wordsSigns (headL.map Char.ofNat))).tail
def restM : List (List Char) := (wordsSigns (headL.map Char.ofNat)).tail.tail
theorem head_words : behindMainWord (wordsSigns (headL.map Char.ofNat)) = "cut".toList :: restL := by kernel_rfl
theorem head_strip : stripLifts liftWords ("cut".toList :: restL) = ([], "cut".toList :: restL) := by kernel_rfl
theorem head_make : (Tryz.prog.make == some Make.cut) = true := make_gen Tryz.prog _ head_list _ head_words
theorem head_later : Tryz.prog.laysLater = false := by kernel_rfl
theorem head_reflect : Tryz.prog.bearsReflect = false := by kernel_rfl
theorem head_door : Tryz.prog.doorFits [] = true := by kernel_rfl
theorem head_enter : Tryz.prog.mayEnter = true := enter_gen Tryz.prog _ head_list _ _ rfl head_words head_strip head_later head_reflect head_door
theorem head_lifts : Tryz.prog.liftsFinal = false := lifts_gen Tryz.prog _ head_list _ _ rfl head_words head_strip
theorem harness_list : "fa9289e13e59366449243ffa297c8b0347b0cc37cc085c1531cc63732efd4c28".toList = [102, 97, 57, 50, 56, 57, 101, 49, 51, 101, 53, 57, 51, 54, 54, 52, 52, 57, 50, 52, 51, 102, 102, 97, 50, 57, 55, 99, 56, 98, 48, 51, 52, 55, 98, 48, 99, 99, 51, 55, 99, 99, 48, 56, 53, 99, 49, 53, 51, 49, 99, 99, 54, 51, 55, 51, 50, 101, 102, 100, 52, 99, 50, 56].map Char.ofNat := by rw [show "fa9289e13e59366449243ffa297c8b0347b0cc37cc085c1531cc63732efd4c28" = String.ofList ([102, 97, 57, 50, 56, 57, 101, 49, 51, 101, 53, 57, 51, 54, 54, 52, 52, 57, 50, 52, 51, 102, 102, 97, 50, 57, 55, 99, 56, 98, 48, 51, 52, 55, 98, 48, 99, 99, 51, 55, 99, 99, 48, 56, 53, 99, 49, 53, 51, 49, 99, 99, 54, 51, 55, 51, 50, 101, 102, 100, 52, 99, 50, 56].map Char.ofNat) by kernel_rfl]; exact String.toList_ofList
theorem head_sum : wordsSigns (headL.map Char.ofNat) = "harness".toList :: [102, 97, 57, 50, 56, 57, 101, 49, 51, 101, 53, 57, 51, 54, 54, 52, 52, 57, 50, 52, 51, 102, 102, 97, 50, 57, 55, 99, 56, 98, 48, 51, 52, 55, 98, 48, 99, 99, 51, 55, 99, 99, 48, 56, 53, 99, 49, 53, 51, 49, 99, 99, 54, 51, 55, 51, 50, 101, 102, 100, 52, 99, 50, 56].map Char.ofNat :: restM := by kernel_rfl
theorem head_main : Tryz.prog.mainIs = some (true, "fa9289e13e59366449243ffa297c8b0347b0cc37cc085c1531cc63732efd4c28".toList) := by rw [harness_list]; exact main_gen Tryz.prog _ head_list _ _ head_sum (by kernel_rfl)
end Go.Proofs.YtcgmbfpmcldfdaaGreatDoor
