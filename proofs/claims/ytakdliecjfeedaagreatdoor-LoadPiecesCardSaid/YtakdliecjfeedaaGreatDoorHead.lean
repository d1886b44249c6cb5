/- The dump's head, sign by sign: the kernel reckons with a list of signs, not with the text's bytes. Printed by genhead.py. -/
import Derived.Test.YtakdliecjfeedaaGreatDoorRows
import Derived.WalkKit
import Derived.ProofKit
import Derived.SevenTiedAt
namespace Go.Proofs.YtakdliecjfeedaaGreatDoor
open Go

def headL : List Nat := [104, 97, 114, 110, 101, 115, 115, 32, 52, 100, 100, 99, 100, 48, 51, 52, 55, 49, 99, 49, 53, 50, 101, 52, 56, 51, 101, 50, 100, 49, 51, 55, 50, 48, 55, 48, 98, 50, 100, 100,
  51, 53, 49, 102, 99, 48, 54, 101, 98, 97, 51, 101, 100, 51, 56, 53, 101, 51, 101, 98, 101, 52, 100, 102, 52, 102, 99, 51, 98, 53, 99, 48, 32, 99, 117, 116, 32, 97, 116, 32,
  104, 111, 114, 116, 97, 116, 111, 114, 47, 104, 111, 114, 116, 97, 116, 111, 114, 108, 97, 119, 49, 50, 46, 87, 97, 105, 116, 65, 108, 108, 32, 104, 111, 114, 116, 97, 116, 111, 114, 47,
  104, 111, 114, 116, 97, 116, 111, 114, 108, 97, 119, 49, 50, 46, 87, 97, 105, 116, 77, 111, 114, 101, 32, 104, 111, 114, 116, 97, 116, 111, 114, 47, 104, 111, 114, 116, 97, 116, 111, 114,
  108, 97, 119, 49, 50, 46, 76, 111, 97, 100, 65, 108, 108, 32, 104, 111, 114, 116, 97, 116, 111, 114, 47, 104, 111, 114, 116, 97, 116, 111, 114, 108, 97, 119, 49, 50, 46, 76, 111, 97,
  100, 83, 104, 97, 114, 101, 32, 104, 111, 114, 116, 97, 116, 111, 114, 47, 104, 111, 114, 116, 97, 116, 111, 114, 108, 97, 119, 49, 50, 46, 87, 97, 105, 116, 65, 108, 111, 110, 101, 32,
  104, 111, 114, 116, 97, 116, 111, 114, 47, 104, 111, 114, 116, 97, 116, 111, 114, 108, 97, 119, 49, 50, 46, 87, 97, 105, 116, 79, 114, 100, 101, 114, 32, 104, 111, 114, 116, 97, 116, 111,
  114, 47, 104, 111, 114, 116, 97, 116, 111, 114, 108, 97, 119, 49, 50, 46, 76, 111, 97, 100, 80, 105, 101, 99, 101, 115, 32, 104, 111, 114, 116, 97, 116, 111, 114, 47, 104, 111, 114, 116,
  97, 116, 111, 114, 108, 97, 119, 49, 50, 46, 76, 111, 97, 100, 78, 111, 110, 101]
theorem head_is : Tryz.prog.initOrder = String.ofList (headL.map Char.ofNat) := by kernel_rfl
theorem head_list : Tryz.prog.initOrder.toList = headL.map Char.ofNat := by rw [head_is]; exact String.toList_ofList
theorem make_gen (P : Program) (L : List Char) (h : P.initOrder.toList = L) (rest : List (List Char)) (hw : behindMainWord (wordsSigns L) = "cut".toList :: rest) : (P.make == some Make.cut) = true := by
  unfold Program.make
  rw [h, hw]
  rfl
theorem enter_gen (P : Program) (L : List Char) (h : P.initOrder.toList = L) (c : List Char) (rest : List (List Char)) (hc : c = "cut".toList) (hw : behindMainWord (wordsSigns L) = c :: rest) (hs : stripLifts liftWords (c :: rest) = ([], c :: rest))
    (hl : P.laysLater = false) (hb : P.bearsReflect = false) (hd : P.doorFits [] = true) : P.mayEnter = true := by
  unfold Program.mayEnter
  rw [h, hw]
  simp only [hs, hl, hb, hd]
  simp [hc]
theorem lifts_gen (P : Program) (L : List Char) (h : P.initOrder.toList = L) (c : List Char) (rest : List (List Char)) (hc : c = "cut".toList) (hw : behindMainWord (wordsSigns L) = c :: rest) (hs : stripLifts liftWords (c :: rest) = ([], c :: rest)) : P.liftsFinal = false := by
  unfold Program.liftsFinal Program.headLifts
  rw [h, hw]
  simp only [hs]
  simp [hc]
theorem main_gen (P : Program) (L : List Char) (h : P.initOrder.toList = L) (s : List Char) (rest : List (List Char)) (hw : wordsSigns L = "harness".toList :: s :: rest) (hs : isSumSigns s = true) : P.mainIs = some (true, s) := by
  unfold Program.mainIs
  rw [h, hw]
  simp [hs]
def restL : List (List Char) := (behindMainWord (wordsSigns (headL.map Char.ofNat))).tail
def restM : List (List Char) := (wordsSigns (headL.map Char.ofNat)).tail.tail
theorem head_words : behindMainWord (wordsSigns (headL.map Char.ofNat)) = "cut".toList :: restL := by kernel_rfl
theorem head_strip : stripLifts liftWords ("cut".toList :: restL) = ([], "cut".toList :: restL) := by kernel_rfl
theorem head_make : (Tryz.prog.make == some Make.cut) = true := make_gen Tryz.prog _ head_list _ head_words
theorem head_later : Tryz.prog.laysLater = false := by kernel_rfl
theorem head_reflect : Tryz.prog.bearsReflect = false := by kernel_rfl
theorem head_door : Tryz.prog.doorFits [] = true := by kernel_rfl
theorem head_enter : Tryz.prog.mayEnter = true := enter_gen Tryz.prog _ head_list _ _ rfl head_words head_strip head_later head_reflect head_door
theorem head_lifts : Tryz.prog.liftsFinal = false := lifts_gen Tryz.prog _ head_list _ _ rfl head_words head_strip
theorem harness_list : "4ddcd03471c152e483e2d1372070b2dd351fc06eba3ed385e3ebe4df4fc3b5c0".toList = [52, 100, 100, 99, 100, 48, 51, 52, 55, 49, 99, 49, 53, 50, 101, 52, 56, 51, 101, 50, 100, 49, 51, 55, 50, 48, 55, 48, 98, 50, 100, 100, 51, 53, 49, 102, 99, 48, 54, 101, 98, 97, 51, 101, 100, 51, 56, 53, 101, 51, 101, 98, 101, 52, 100, 102, 52, 102, 99, 51, 98, 53, 99, 48].map Char.ofNat := by rw [show "4ddcd03471c152e483e2d1372070b2dd351fc06eba3ed385e3ebe4df4fc3b5c0" = String.ofList ([52, 100, 100, 99, 100, 48, 51, 52, 55, 49, 99, 49, 53, 50, 101, 52, 56, 51, 101, 50, 100, 49, 51, 55, 50, 48, 55, 48, 98, 50, 100, 100, 51, 53, 49, 102, 99, 48, 54, 101, 98, 97, 51, 101, 100, 51, 56, 53, 101, 51, 101, 98, 101, 52, 100, 102, 52, 102, 99, 51, 98, 53, 99, 48].map Char.ofNat) by kernel_rfl]; exact String.toList_ofList
theorem head_sum : wordsSigns (headL.map Char.ofNat) = "harness".toList :: [52, 100, 100, 99, 100, 48, 51, 52, 55, 49, 99, 49, 53, 50, 101, 52, 56, 51, 101, 50, 100, 49, 51, 55, 50, 48, 55, 48, 98, 50, 100, 100, 51, 53, 49, 102, 99, 48, 54, 101, 98, 97, 51, 101, 100, 51, 56, 53, 101, 51, 101, 98, 101, 52, 100, 102, 52, 102, 99, 51, 98, 53, 99, 48].map Char.ofNat :: restM := by kernel_rfl
theorem head_main : Tryz.prog.mainIs = some (true, "4ddcd03471c152e483e2d1372070b2dd351fc06eba3ed385e3ebe4df4fc3b5c0".toList) := by rw [harness_list]; exact main_gen Tryz.prog _ head_list _ _ head_sum (by kernel_rfl)
end Go.Proofs.YtakdliecjfeedaaGreatDoor
