/- The common beginning of hortatorlaw12. -/
import Derived.Test.YtakdliecjfeedaaGreatDoorBegun9
import Derived.Test.YtakdliecjfeedaaGreatDoorLAll
import Derived.Test.YtakdliecjfeedaaGreatDoorLShare
namespace Go.Proofs.YtakdliecjfeedaaGreatDoor
open Go Go.RowKit

set_option maxHeartbeats 1000000 in
theorem begun9_pub (w : World) (hE : Env w) : Calls Tryz.prog 32 #[] w fun e w' => e = .returned (.bool true) ∧ Below w.heap.size w w' := by
  have HE : Hid (Env w) := hE
  clear hE
  go_enter Tryz.func32, Tryz.ntmps32
  go_wp2_with fail
  refine (begun9_any w HE.out).mono ?_
  rintro e v1 ⟨rfl, g1⟩
  have G1 : Hid (Below w.heap.size w v1) := g1
  clear g1
  go_wp2_with fail
  go_ret
  exact ⟨rfl, G1.out⟩
/-- What the beginning lays. -/
structure Bgn (w W : World) : Prop where
  b0 : Blk W (w.heap.size) #[.int .i64 0] 3
  b1 : Blk W (w.heap.size + 1) #[.int .i64 2, .int .i64 1, .int .i64 1, .int .i64 0, .slice (some ⟨w.heap.size, 0, none⟩) 1 1] 24
  b2 : Blk W (w.heap.size + 2) #[.int .i64 0, .int .i64 1, .int .i64 2] 39
  b3 : Blk W (w.heap.size + 3) #[.int .i64 3, .int .i64 20, .int .i64 20, .slice (some ⟨w.heap.size + 2, 0, none⟩) 1 1] 34
  b4 : Blk W (w.heap.size + 4) #[.int .i64 0, .int .i64 1, .int .i64 4] 39
  b5 : Blk W (w.heap.size + 5) #[.int .i64 3, .int .i64 20, .int .i64 30, .slice (some ⟨w.heap.size + 4, 0, none⟩) 1 1] 34
  b6 : Blk W (w.heap.size + 6) #[.int .i64 1, .int .i64 0, .int .i64 20, .int .i64 3] 60
  b7 : Blk W (w.heap.size + 7) #[.int .i64 1, .slice (some ⟨w.heap.size + 6, 0, none⟩) 1 1] 49
  bel : Below w.heap.size w W
theorem Bgn.below {w W W' : World} (h : Bgn w W) (g : Below W.heap.size W W') : Bgn w W' := ⟨h.b0.below g, h.b1.below g, h.b2.below g, h.b3.below g, h.b4.below g, h.b5.below g, h.b6.below g, h.b7.below g, btrans h.bel g⟩
theorem Bgn.drew {w W : World} (h : Bgn w W) : Bgn w W.drew := h.below (bdrew _)
theorem blk_next {w : World} {k : Nat} (cs : Array Value) (t : TypeId) (h : w.heap.size = k) : Blk (w.alloc (.cells cs t)) k cs t := by subst h; exact heap_alloc_new _ _
theorem bgn_made (w : World) : Bgn w ((((((((w.alloc (.cells #[.int .i64 0] 3)).alloc (.cells #[.int .i64 2, .int .i64 1, .int .i64 1, .int .i64 0, .slice (some ⟨w.heap.size, 0, none⟩) 1 1] 24)).alloc (.cells #[.int .i64 0, .int .i64 1, .int .i64 2] 39)).alloc (.cells #[.int .i64 3, .int .i64 20, .int .i64 20, .slice (some ⟨w.heap.size + 2, 0, none⟩) 1 1] 34)).alloc (.cells #[.int .i64 0, .int .i64 1, .int .i64 4] 39)).alloc (.cells #[.int .i64 3, .int .i64 20, .int .i64 30, .slice (some ⟨w.heap.size + 4, 0, none⟩) 1 1] 34)).alloc (.cells #[.int .i64 1, .int .i64 0, .int .i64 20, .int .i64 3] 60)).alloc (.cells #[.int .i64 1, .slice (some ⟨w.heap.size + 6, 0, none⟩) 1 1] 49)) := by
  have b0 : Blk (w.alloc (.cells #[.int .i64 0] 3)) (w.heap.size) #[.int .i64 0] 3 := blk_next _ _ (by simp)
  have b1 : Blk ((w.alloc (.cells #[.int .i64 0] 3)).alloc (.cells #[.int .i64 2, .int .i64 1, .int .i64 1, .int .i64 0, .slice (some ⟨w.heap.size, 0, none⟩) 1 1] 24)) (w.heap.size + 1) #[.int .i64 2, .int .i64 1, .int .i64 1, .int .i64 0, .slice (some ⟨w.heap.size, 0, none⟩) 1 1] 24 := blk_next _ _ (by simp)
  have b2 : Blk (((w.alloc (.cells #[.int .i64 0] 3)).alloc (.cells #[.int .i64 2, .int .i64 1, .int .i64 1, .int .i64 0, .slice (some ⟨w.heap.size, 0, none⟩) 1 1] 24)).alloc (.cells #[.int .i64 0, .int .i64 1, .int .i64 2] 39)) (w.heap.size + 2) #[.int .i64 0, .int .i64 1, .int .i64 2] 39 := blk_next _ _ (by simp)
  have b3 : Blk ((((w.alloc (.cells #[.int .i64 0] 3)).alloc (.cells #[.int .i64 2, .int .i64 1, .int .i64 1, .int .i64 0, .slice (some ⟨w.heap.size, 0, none⟩) 1 1] 24)).alloc (.cells #[.int .i64 0, .int .i64 1, .int .i64 2] 39)).alloc (.cells #[.int .i64 3, .int .i64 20, .int .i64 20, .slice (some ⟨w.heap.size + 2, 0, none⟩) 1 1] 34)) (w.heap.size + 3) #[.int .i64 3, .int .i64 20, .int .i64 20, .slice (some ⟨w.heap.size + 2, 0, none⟩) 1 1] 34 := blk_next _ _ (by simp)
  have b4 : Blk (((((w.alloc (.cells #[.int .i64 0] 3)).alloc (.cells #[.int .i64 2, .int .i64 1, .int .i64 1, .int .i64 0, .slice (some ⟨w.heap.size, 0, none⟩) 1 1] 24)).alloc (.cells #[.int .i64 0, .int .i64 1, .int .i64 2] 39)).alloc (.cells #[.int .i64 3, .int .i64 20, .int .i64 20, .slice (some ⟨w.heap.size + 2, 0, none⟩) 1 1] 34)).alloc (.cells #[.int .i64 0, .int .i64 1, .int .i64 4] 39)) (w.heap.size + 4) #[.int .i64 0, .int .i64 1, .int .i64 4] 39 := blk_next _ _ (by simp)
  have b5 : Blk ((((((w.alloc (.cells #[.int .i64 0] 3)).alloc (.cells #[.int .i64 2, .int .i64 1, .int .i64 1, .int .i64 0, .slice (some ⟨w.heap.size, 0, none⟩) 1 1] 24)).alloc (.cells #[.int .i64 0, .int .i64 1, .int .i64 2] 39)).alloc (.cells #[.int .i64 3, .int .i64 20, .int .i64 20, .slice (some ⟨w.heap.size + 2, 0, none⟩) 1 1] 34)).alloc (.cells #[.int .i64 0, .int .i64 1, .int .i64 4] 39)).alloc (.cells #[.int .i64 3, .int .i64 20, .int .i64 30, .slice (some ⟨w.heap.size + 4, 0, none⟩) 1 1] 34)) (w.heap.size + 5) #[.int .i64 3, .int .i64 20, .int .i64 30, .slice (some ⟨w.heap.size + 4, 0, none⟩) 1 1] 34 := blk_next _ _ (by simp)
  have b6 : Blk (((((((w.alloc (.cells #[.int .i64 0] 3)).alloc (.cells #[.int .i64 2, .int .i64 1, .int .i64 1, .int .i64 0, .slice (some ⟨w.heap.size, 0, none⟩) 1 1] 24)).alloc (.cells #[.int .i64 0, .int .i64 1, .int .i64 2] 39)).alloc (.cells #[.int .i64 3, .int .i64 20, .int .i64 20, .slice (some ⟨w.heap.size + 2, 0, none⟩) 1 1] 34)).alloc (.cells #[.int .i64 0, .int .i64 1, .int .i64 4] 39)).alloc (.cells #[.int .i64 3, .int .i64 20, .int .i64 30, .slice (some ⟨w.heap.size + 4, 0, none⟩) 1 1] 34)).alloc (.cells #[.int .i64 1, .int .i64 0, .int .i64 20, .int .i64 3] 60)) (w.heap.size + 6) #[.int .i64 1, .int .i64 0, .int .i64 20, .int .i64 3] 60 := blk_next _ _ (by simp)
  have b7 : Blk ((((((((w.alloc (.cells #[.int .i64 0] 3)).alloc (.cells #[.int .i64 2, .int .i64 1, .int .i64 1, .int .i64 0, .slice (some ⟨w.heap.size, 0, none⟩) 1 1] 24)).alloc (.cells #[.int .i64 0, .int .i64 1, .int .i64 2] 39)).alloc (.cells #[.int .i64 3, .int .i64 20, .int .i64 20, .slice (some ⟨w.heap.size + 2, 0, none⟩) 1 1] 34)).alloc (.cells #[.int .i64 0, .int .i64 1, .int .i64 4] 39)).alloc (.cells #[.int .i64 3, .int .i64 20, .int .i64 30, .slice (some ⟨w.heap.size + 4, 0, none⟩) 1 1] 34)).alloc (.cells #[.int .i64 1, .int .i64 0, .int .i64 20, .int .i64 3] 60)).alloc (.cells #[.int .i64 1, .slice (some ⟨w.heap.size + 6, 0, none⟩) 1 1] 49)) (w.heap.size + 7) #[.int .i64 1, .slice (some ⟨w.heap.size + 6, 0, none⟩) 1 1] 49 := blk_next _ _ (by simp)
  replace b0 := b0.below (balloc (w.alloc (.cells #[.int .i64 0] 3)) (.cells #[.int .i64 2, .int .i64 1, .int .i64 1, .int .i64 0, .slice (some ⟨w.heap.size, 0, none⟩) 1 1] 24))
  replace b0 := b0.below (balloc ((w.alloc (.cells #[.int .i64 0] 3)).alloc (.cells #[.int .i64 2, .int .i64 1, .int .i64 1, .int .i64 0, .slice (some ⟨w.heap.size, 0, none⟩) 1 1] 24)) (.cells #[.int .i64 0, .int .i64 1, .int .i64 2] 39))
  replace b0 := b0.below (balloc (((w.alloc (.cells #[.int .i64 0] 3)).alloc (.cells #[.int .i64 2, .int .i64 1, .int .i64 1, .int .i64 0, .slice (some ⟨w.heap.size, 0, none⟩) 1 1] 24)).alloc (.cells #[.int .i64 0, .int .i64 1, .int .i64 2] 39)) (.cells #[.int .i64 3, .int .i64 20, .int .i64 20, .slice (some ⟨w.heap.size + 2, 0, none⟩) 1 1] 34))
  replace b0 := b0.below (balloc ((((w.alloc (.cells #[.int .i64 0] 3)).alloc (.cells #[.int .i64 2, .int .i64 1, .int .i64 1, .int .i64 0, .slice (some ⟨w.heap.size, 0, none⟩) 1 1] 24)).alloc (.cells #[.int .i64 0, .int .i64 1, .int .i64 2] 39)).alloc (.cells #[.int .i64 3, .int .i64 20, .int .i64 20, .slice (some ⟨w.heap.size + 2, 0, none⟩) 1 1] 34)) (.cells #[.int .i64 0, .int .i64 1, .int .i64 4] 39))
  replace b0 := b0.below (balloc (((((w.alloc (.cells #[.int .i64 0] 3)).alloc (.cells #[.int .i64 2, .int .i64 1, .int .i64 1, .int .i64 0, .slice (some ⟨w.heap.size, 0, none⟩) 1 1] 24)).alloc (.cells #[.int .i64 0, .int .i64 1, .int .i64 2] 39)).alloc (.cells #[.int .i64 3, .int .i64 20, .int .i64 20, .slice (some ⟨w.heap.size + 2, 0, none⟩) 1 1] 34)).alloc (.cells #[.int .i64 0, .int .i64 1, .int .i64 4] 39)) (.cells #[.int .i64 3, .int .i64 20, .int .i64 30, .slice (some ⟨w.heap.size + 4, 0, none⟩) 1 1] 34))
  replace b0 := b0.below (balloc ((((((w.alloc (.cells #[.int .i64 0] 3)).alloc (.cells #[.int .i64 2, .int .i64 1, .int .i64 1, .int .i64 0, .slice (some ⟨w.heap.size, 0, none⟩) 1 1] 24)).alloc (.cells #[.int .i64 0, .int .i64 1, .int .i64 2] 39)).alloc (.cells #[.int .i64 3, .int .i64 20, .int .i64 20, .slice (some ⟨w.heap.size + 2, 0, none⟩) 1 1] 34)).alloc (.cells #[.int .i64 0, .int .i64 1, .int .i64 4] 39)).alloc (.cells #[.int .i64 3, .int .i64 20, .int .i64 30, .slice (some ⟨w.heap.size + 4, 0, none⟩) 1 1] 34)) (.cells #[.int .i64 1, .int .i64 0, .int .i64 20, .int .i64 3] 60))
  replace b0 := b0.below (balloc (((((((w.alloc (.cells #[.int .i64 0] 3)).alloc (.cells #[.int .i64 2, .int .i64 1, .int .i64 1, .int .i64 0, .slice (some ⟨w.heap.size, 0, none⟩) 1 1] 24)).alloc (.cells #[.int .i64 0, .int .i64 1, .int .i64 2] 39)).alloc (.cells #[.int .i64 3, .int .i64 20, .int .i64 20, .slice (some ⟨w.heap.size + 2, 0, none⟩) 1 1] 34)).alloc (.cells #[.int .i64 0, .int .i64 1, .int .i64 4] 39)).alloc (.cells #[.int .i64 3, .int .i64 20, .int .i64 30, .slice (some ⟨w.heap.size + 4, 0, none⟩) 1 1] 34)).alloc (.cells #[.int .i64 1, .int .i64 0, .int .i64 20, .int .i64 3] 60)) (.cells #[.int .i64 1, .slice (some ⟨w.heap.size + 6, 0, none⟩) 1 1] 49))
  replace b1 := b1.below (balloc ((w.alloc (.cells #[.int .i64 0] 3)).alloc (.cells #[.int .i64 2, .int .i64 1, .int .i64 1, .int .i64 0, .slice (some ⟨w.heap.size, 0, none⟩) 1 1] 24)) (.cells #[.int .i64 0, .int .i64 1, .int .i64 2] 39))
  replace b1 := b1.below (balloc (((w.alloc (.cells #[.int .i64 0] 3)).alloc (.cells #[.int .i64 2, .int .i64 1, .int .i64 1, .int .i64 0, .slice (some ⟨w.heap.size, 0, none⟩) 1 1] 24)).alloc (.cells #[.int .i64 0, .int .i64 1, .int .i64 2] 39)) (.cells #[.int .i64 3, .int .i64 20, .int .i64 20, .slice (some ⟨w.heap.size + 2, 0, none⟩) 1 1] 34))
  replace b1 := b1.below (balloc ((((w.alloc (.cells #[.int .i64 0] 3)).alloc (.cells #[.int .i64 2, .int .i64 1, .int .i64 1, .int .i64 0, .slice (some ⟨w.heap.size, 0, none⟩) 1 1] 24)).alloc (.cells #[.int .i64 0, .int .i64 1, .int .i64 2] 39)).alloc (.cells #[.int .i64 3, .int .i64 20, .int .i64 20, .slice (some ⟨w.heap.size + 2, 0, none⟩) 1 1] 34)) (.cells #[.int .i64 0, .int .i64 1, .int .i64 4] 39))
  replace b1 := b1.below (balloc (((((w.alloc (.cells #[.int .i64 0] 3)).alloc (.cells #[.int .i64 2, .int .i64 1, .int .i64 1, .int .i64 0, .slice (some ⟨w.heap.size, 0, none⟩) 1 1] 24)).alloc (.cells #[.int .i64 0, .int .i64 1, .int .i64 2] 39)).alloc (.cells #[.int .i64 3, .int .i64 20, .int .i64 20, .slice (some ⟨w.heap.size + 2, 0, none⟩) 1 1] 34)).alloc (.cells #[.int .i64 0, .int .i64 1, .int .i64 4] 39)) (.cells #[.int .i64 3, .int .i64 20, .int .i64 30, .slice (some ⟨w.heap.size + 4, 0, none⟩) 1 1] 34))
  replace b1 := b1.below (balloc ((((((w.alloc (.cells #[.int .i64 0] 3)).alloc (.cells #[.int .i64 2, .int .i64 1, .int .i64 1, .int .i64 0, .slice (some ⟨w.heap.size, 0, none⟩) 1 1] 24)).alloc (.cells #[.int .i64 0, .int .i64 1, .int .i64 2] 39)).alloc (.cells #[.int .i64 3, .int .i64 20, .int .i64 20, .slice (some ⟨w.heap.size + 2, 0, none⟩) 1 1] 34)).alloc (.cells #[.int .i64 0, .int .i64 1, .int .i64 4] 39)).alloc (.cells #[.int .i64 3, .int .i64 20, .int .i64 30, .slice (some ⟨w.heap.size + 4, 0, none⟩) 1 1] 34)) (.cells #[.int .i64 1, .int .i64 0, .int .i64 20, .int .i64 3] 60))
  replace b1 := b1.below (balloc (((((((w.alloc (.cells #[.int .i64 0] 3)).alloc (.cells #[.int .i64 2, .int .i64 1, .int .i64 1, .int .i64 0, .slice (some ⟨w.heap.size, 0, none⟩) 1 1] 24)).alloc (.cells #[.int .i64 0, .int .i64 1, .int .i64 2] 39)).alloc (.cells #[.int .i64 3, .int .i64 20, .int .i64 20, .slice (some ⟨w.heap.size + 2, 0, none⟩) 1 1] 34)).alloc (.cells #[.int .i64 0, .int .i64 1, .int .i64 4] 39)).alloc (.cells #[.int .i64 3, .int .i64 20, .int .i64 30, .slice (some ⟨w.heap.size + 4, 0, none⟩) 1 1] 34)).alloc (.cells #[.int .i64 1, .int .i64 0, .int .i64 20, .int .i64 3] 60)) (.cells #[.int .i64 1, .slice (some ⟨w.heap.size + 6, 0, none⟩) 1 1] 49))
  replace b2 := b2.below (balloc (((w.alloc (.cells #[.int .i64 0] 3)).alloc (.cells #[.int .i64 2, .int .i64 1, .int .i64 1, .int .i64 0, .slice (some ⟨w.heap.size, 0, none⟩) 1 1] 24)).alloc (.cells #[.int .i64 0, .int .i64 1, .int .i64 2] 39)) (.cells #[.int .i64 3, .int .i64 20, .int .i64 20, .slice (some ⟨w.heap.size + 2, 0, none⟩) 1 1] 34))
  replace b2 := b2.below (balloc ((((w.alloc (.cells #[.int .i64 0] 3)).alloc (.cells #[.int .i64 2, .int .i64 1, .int .i64 1, .int .i64 0, .slice (some ⟨w.heap.size, 0, none⟩) 1 1] 24)).alloc (.cells #[.int .i64 0, .int .i64 1, .int .i64 2] 39)).alloc (.cells #[.int .i64 3, .int .i64 20, .int .i64 20, .slice (some ⟨w.heap.size + 2, 0, none⟩) 1 1] 34)) (.cells #[.int .i64 0, .int .i64 1, .int .i64 4] 39))
  replace b2 := b2.below (balloc (((((w.alloc (.cells #[.int .i64 0] 3)).alloc (.cells #[.int .i64 2, .int .i64 1, .int .i64 1, .int .i64 0, .slice (some ⟨w.heap.size, 0, none⟩) 1 1] 24)).alloc (.cells #[.int .i64 0, .int .i64 1, .int .i64 2] 39)).alloc (.cells #[.int .i64 3, .int .i64 20, .int .i64 20, .slice (some ⟨w.heap.size + 2, 0, none⟩) 1 1] 34)).alloc (.cells #[.int .i64 0, .int .i64 1, .int .i64 4] 39)) (.cells #[.int .i64 3, .int .i64 20, .int .i64 30, .slice (some ⟨w.heap.size + 4, 0, none⟩) 1 1] 34))
  replace b2 := b2.below (balloc ((((((w.alloc (.cells #[.int .i64 0] 3)).alloc (.cells #[.int .i64 2, .int .i64 1, .int .i64 1, .int .i64 0, .slice (some ⟨w.heap.size, 0, none⟩) 1 1] 24)).alloc (.cells #[.int .i64 0, .int .i64 1, .int .i64 2] 39)).alloc (.cells #[.int .i64 3, .int .i64 20, .int .i64 20, .slice (some ⟨w.heap.size + 2, 0, none⟩) 1 1] 34)).alloc (.cells #[.int .i64 0, .int .i64 1, .int .i64 4] 39)).alloc (.cells #[.int .i64 3, .int .i64 20, .int .i64 30, .slice (some ⟨w.heap.size + 4, 0, none⟩) 1 1] 34)) (.cells #[.int .i64 1, .int .i64 0, .int .i64 20, .int .i64 3] 60))
  replace b2 := b2.below (balloc (((((((w.alloc (.cells #[.int .i64 0] 3)).alloc (.cells #[.int .i64 2, .int .i64 1, .int .i64 1, .int .i64 0, .slice (some ⟨w.heap.size, 0, none⟩) 1 1] 24)).alloc (.cells #[.int .i64 0, .int .i64 1, .int .i64 2] 39)).alloc (.cells #[.int .i64 3, .int .i64 20, .int .i64 20, .slice (some ⟨w.heap.size + 2, 0, none⟩) 1 1] 34)).alloc (.cells #[.int .i64 0, .int .i64 1, .int .i64 4] 39)).alloc (.cells #[.int .i64 3, .int .i64 20, .int .i64 30, .slice (some ⟨w.heap.size + 4, 0, none⟩) 1 1] 34)).alloc (.cells #[.int .i64 1, .int .i64 0, .int .i64 20, .int .i64 3] 60)) (.cells #[.int .i64 1, .slice (some ⟨w.heap.size + 6, 0, none⟩) 1 1] 49))
  replace b3 := b3.below (balloc ((((w.alloc (.cells #[.int .i64 0] 3)).alloc (.cells #[.int .i64 2, .int .i64 1, .int .i64 1, .int .i64 0, .slice (some ⟨w.heap.size, 0, none⟩) 1 1] 24)).alloc (.cells #[.int .i64 0, .int .i64 1, .int .i64 2] 39)).alloc (.cells #[.int .i64 3, .int .i64 20, .int .i64 20, .slice (some ⟨w.heap.size + 2, 0, none⟩) 1 1] 34)) (.cells #[.int .i64 0, .int .i64 1, .int .i64 4] 39))
  replace b3 := b3.below (balloc (((((w.alloc (.cells #[.int .i64 0] 3)).alloc (.cells #[.int .i64 2, .int .i64 1, .int .i64 1, .int .i64 0, .slice (some ⟨w.heap.size, 0, none⟩) 1 1] 24)).alloc (.cells #[.int .i64 0, .int .i64 1, .int .i64 2] 39)).alloc (.cells #[.int .i64 3, .int .i64 20, .int .i64 20, .slice (some ⟨w.heap.size + 2, 0, none⟩) 1 1] 34)).alloc (.cells #[.int .i64 0, .int .i64 1, .int .i64 4] 39)) (.cells #[.int .i64 3, .int .i64 20, .int .i64 30, .slice (some ⟨w.heap.size + 4, 0, none⟩) 1 1] 34))
  replace b3 := b3.below (balloc ((((((w.alloc (.cells #[.int .i64 0] 3)).alloc (.cells #[.int .i64 2, .int .i64 1, .int .i64 1, .int .i64 0, .slice (some ⟨w.heap.size, 0, none⟩) 1 1] 24)).alloc (.cells #[.int .i64 0, .int .i64 1, .int .i64 2] 39)).alloc (.cells #[.int .i64 3, .int .i64 20, .int .i64 20, .slice (some ⟨w.heap.size + 2, 0, none⟩) 1 1] 34)).alloc (.cells #[.int .i64 0, .int .i64 1, .int .i64 4] 39)).alloc (.cells #[.int .i64 3, .int .i64 20, .int .i64 30, .slice (some ⟨w.heap.size + 4, 0, none⟩) 1 1] 34)) (.cells #[.int .i64 1, .int .i64 0, .int .i64 20, .int .i64 3] 60))
  replace b3 := b3.below (balloc (((((((w.alloc (.cells #[.int .i64 0] 3)).alloc (.cells #[.int .i64 2, .int .i64 1, .int .i64 1, .int .i64 0, .slice (some ⟨w.heap.size, 0, none⟩) 1 1] 24)).alloc (.cells #[.int .i64 0, .int .i64 1, .int .i64 2] 39)).alloc (.cells #[.int .i64 3, .int .i64 20, .int .i64 20, .slice (some ⟨w.heap.size + 2, 0, none⟩) 1 1] 34)).alloc (.cells #[.int .i64 0, .int .i64 1, .int .i64 4] 39)).alloc (.cells #[.int .i64 3, .int .i64 20, .int .i64 30, .slice (some ⟨w.heap.size + 4, 0, none⟩) 1 1] 34)).alloc (.cells #[.int .i64 1, .int .i64 0, .int .i64 20, .int .i64 3] 60)) (.cells #[.int .i64 1, .slice (some ⟨w.heap.size + 6, 0, none⟩) 1 1] 49))
  replace b4 := b4.below (balloc (((((w.alloc (.cells #[.int .i64 0] 3)).alloc (.cells #[.int .i64 2, .int .i64 1, .int .i64 1, .int .i64 0, .slice (some ⟨w.heap.size, 0, none⟩) 1 1] 24)).alloc (.cells #[.int .i64 0, .int .i64 1, .int .i64 2] 39)).alloc (.cells #[.int .i64 3, .int .i64 20, .int .i64 20, .slice (some ⟨w.heap.size + 2, 0, none⟩) 1 1] 34)).alloc (.cells #[.int .i64 0, .int .i64 1, .int .i64 4] 39)) (.cells #[.int .i64 3, .int .i64 20, .int .i64 30, .slice (some ⟨w.heap.size + 4, 0, none⟩) 1 1] 34))
  replace b4 := b4.below (balloc ((((((w.alloc (.cells #[.int .i64 0] 3)).alloc (.cells #[.int .i64 2, .int .i64 1, .int .i64 1, .int .i64 0, .slice (some ⟨w.heap.size, 0, none⟩) 1 1] 24)).alloc (.cells #[.int .i64 0, .int .i64 1, .int .i64 2] 39)).alloc (.cells #[.int .i64 3, .int .i64 20, .int .i64 20, .slice (some ⟨w.heap.size + 2, 0, none⟩) 1 1] 34)).alloc (.cells #[.int .i64 0, .int .i64 1, .int .i64 4] 39)).alloc (.cells #[.int .i64 3, .int .i64 20, .int .i64 30, .slice (some ⟨w.heap.size + 4, 0, none⟩) 1 1] 34)) (.cells #[.int .i64 1, .int .i64 0, .int .i64 20, .int .i64 3] 60))
  replace b4 := b4.below (balloc (((((((w.alloc (.cells #[.int .i64 0] 3)).alloc (.cells #[.int .i64 2, .int .i64 1, .int .i64 1, .int .i64 0, .slice (some ⟨w.heap.size, 0, none⟩) 1 1] 24)).alloc (.cells #[.int .i64 0, .int .i64 1, .int .i64 2] 39)).alloc (.cells #[.int .i64 3, .int .i64 20, .int .i64 20, .slice (some ⟨w.heap.size + 2, 0, none⟩) 1 1] 34)).alloc (.cells #[.int .i64 0, .int .i64 1, .int .i64 4] 39)).alloc (.cells #[.int .i64 3, .int .i64 20, .int .i64 30, .slice (some ⟨w.heap.size + 4, 0, none⟩) 1 1] 34)).alloc (.cells #[.int .i64 1, .int .i64 0, .int .i64 20, .int .i64 3] 60)) (.cells #[.int .i64 1, .slice (some ⟨w.heap.size + 6, 0, none⟩) 1 1] 49))
  replace b5 := b5.below (balloc ((((((w.alloc (.cells #[.int .i64 0] 3)).alloc (.cells #[.int .i64 2, .int .i64 1, .int .i64 1, .int .i64 0, .slice (some ⟨w.heap.size, 0, none⟩) 1 1] 24)).alloc (.cells #[.int .i64 0, .int .i64 1, .int .i64 2] 39)).alloc (.cells #[.int .i64 3, .int .i64 20, .int .i64 20, .slice (some ⟨w.heap.size + 2, 0, none⟩) 1 1] 34)).alloc (.cells #[.int .i64 0, .int .i64 1, .int .i64 4] 39)).alloc (.cells #[.int .i64 3, .int .i64 20, .int .i64 30, .slice (some ⟨w.heap.size + 4, 0, none⟩) 1 1] 34)) (.cells #[.int .i64 1, .int .i64 0, .int .i64 20, .int .i64 3] 60))
  replace b5 := b5.below (balloc (((((((w.alloc (.cells #[.int .i64 0] 3)).alloc (.cells #[.int .i64 2, .int .i64 1, .int .i64 1, .int .i64 0, .slice (some ⟨w.heap.size, 0, none⟩) 1 1] 24)).alloc (.cells #[.int .i64 0, .int .i64 1, .int .i64 2] 39)).alloc (.cells #[.int .i64 3, .int .i64 20, .int .i64 20, .slice (some ⟨w.heap.size + 2, 0, none⟩) 1 1] 34)).alloc (.cells #[.int .i64 0, .int .i64 1, .int .i64 4] 39)).alloc (.cells #[.int .i64 3, .int .i64 20, .int .i64 30, .slice (some ⟨w.heap.size + 4, 0, none⟩) 1 1] 34)).alloc (.cells #[.int .i64 1, .int .i64 0, .int .i64 20, .int .i64 3] 60)) (.cells #[.int .i64 1, .slice (some ⟨w.heap.size + 6, 0, none⟩) 1 1] 49))
  replace b6 := b6.below (balloc (((((((w.alloc (.cells #[.int .i64 0] 3)).alloc (.cells #[.int .i64 2, .int .i64 1, .int .i64 1, .int .i64 0, .slice (some ⟨w.heap.size, 0, none⟩) 1 1] 24)).alloc (.cells #[.int .i64 0, .int .i64 1, .int .i64 2] 39)).alloc (.cells #[.int .i64 3, .int .i64 20, .int .i64 20, .slice (some ⟨w.heap.size + 2, 0, none⟩) 1 1] 34)).alloc (.cells #[.int .i64 0, .int .i64 1, .int .i64 4] 39)).alloc (.cells #[.int .i64 3, .int .i64 20, .int .i64 30, .slice (some ⟨w.heap.size + 4, 0, none⟩) 1 1] 34)).alloc (.cells #[.int .i64 1, .int .i64 0, .int .i64 20, .int .i64 3] 60)) (.cells #[.int .i64 1, .slice (some ⟨w.heap.size + 6, 0, none⟩) 1 1] 49))
  refine ⟨b0, b1, b2, b3, b4, b5, b6, b7, ?_⟩
  exact btrans (btrans (btrans (btrans (btrans (btrans (btrans (balloc _ _) (balloc _ _)) (balloc _ _)) (balloc _ _)) (balloc _ _)) (balloc _ _)) (balloc _ _)) (balloc _ _)
theorem Bgn.res {w W : World} (h : Bgn w W) : Ints W (.slice (some ⟨w.heap.size, 0, none⟩) 1 1) [0] := by
  refine .inr ⟨w.heap.size, 1, rfl, h.b0.lt, fun j x hj => ?_⟩
  have hl : j < 1 := (List.getElem?_eq_some_iff.1 hj).1
  obtain rfl : j = 0 := by omega
  simp at hj
  subst hj
  exact h.b0.cell 0
theorem Bgn.secA {w W : World} (h : Bgn w W) : Secs W (.slice (some ⟨w.heap.size + 2, 0, none⟩) 1 1) [⟨0, 1, 2⟩] := by
  refine .inr ⟨w.heap.size + 2, 1, rfl, h.b2.lt, fun j x hj => ?_⟩
  have hl : j < 1 := (List.getElem?_eq_some_iff.1 hj).1
  obtain rfl : j = 0 := by omega
  simp at hj
  subst hj
  exact ⟨h.b2.cell 0, h.b2.cell 1, h.b2.cell 2⟩
theorem Bgn.secB {w W : World} (h : Bgn w W) : Secs W (.slice (some ⟨w.heap.size + 4, 0, none⟩) 1 1) [⟨0, 1, 4⟩] := by
  refine .inr ⟨w.heap.size + 4, 1, rfl, h.b4.lt, fun j x hj => ?_⟩
  have hl : j < 1 := (List.getElem?_eq_some_iff.1 hj).1
  obtain rfl : j = 0 := by omega
  simp at hj
  subst hj
  exact ⟨h.b4.cell 0, h.b4.cell 1, h.b4.cell 2⟩
theorem Bgn.pcs {w W : World} (h : Bgn w W) : Pcs W (.slice (some ⟨w.heap.size + 6, 0, none⟩) 1 1) [⟨1, 0, 20, 3⟩] := by
  refine .inr ⟨w.heap.size + 6, 0, 1, rfl, h.b6.lt, fun j x hj => ?_⟩
  have hl : j < 1 := (List.getElem?_eq_some_iff.1 hj).1
  obtain rfl : j = 0 := by omega
  simp at hj
  subst hj
  exact ⟨h.b6.cell 0, h.b6.cell 1, h.b6.cell 2, h.b6.cell 3⟩
def tA (w : World) : TV := ⟨3, 20, 20, .slice (some ⟨w.heap.size + 2, 0, none⟩) 1 1, [⟨0, 1, 2⟩]⟩
def tB (w : World) : TV := ⟨3, 20, 30, .slice (some ⟨w.heap.size + 4, 0, none⟩) 1 1, [⟨0, 1, 4⟩]⟩
def pA (w : World) : PV := ⟨1, .slice (some ⟨w.heap.size + 6, 0, none⟩) 1 1, [⟨1, 0, 20, 3⟩]⟩
theorem Bgn.tks {w W : World} (h : Bgn w W) {b : Nat} (hb : Blk W b #[.int .i64 3, .int .i64 20, .int .i64 20, .slice (some ⟨w.heap.size + 2, 0, none⟩) 1 1, .int .i64 3, .int .i64 20, .int .i64 30, .slice (some ⟨w.heap.size + 4, 0, none⟩) 1 1] 34) : Tks W (.slice (some ⟨b, 0, none⟩) 2 2) [tA w, tB w] := by
  refine .inr ⟨b, 0, 2, rfl, hb.lt, fun j x hj => ?_⟩
  have hl : j < 2 := (List.getElem?_eq_some_iff.1 hj).1
  rcases Nat.lt_or_ge j 1 with h1 | h1
  · obtain rfl : j = 0 := by omega
    simp at hj
    subst hj
    exact ⟨⟨hb.cell 0, hb.cell 1, hb.cell 2, hb.cell 3⟩, h.secA⟩
  · obtain rfl : j = 1 := by omega
    simp at hj
    subst hj
    exact ⟨⟨hb.cell 4, hb.cell 5, hb.cell 6, hb.cell 7⟩, h.secB⟩
theorem Bgn.plns {w W : World} (h : Bgn w W) {b : Nat} (hb : Blk W b #[.int .i64 1, .slice (some ⟨w.heap.size + 6, 0, none⟩) 1 1, .int .i64 1, .slice (some ⟨w.heap.size + 6, 0, none⟩) 1 1] 49) : Plns W (.slice (some ⟨b, 0, none⟩) 2 2) [pA w, pA w] := by
  refine .inr ⟨b, 0, 2, rfl, hb.lt, fun j x hj => ?_⟩
  have hl : j < 2 := (List.getElem?_eq_some_iff.1 hj).1
  rcases Nat.lt_or_ge j 1 with h1 | h1
  · obtain rfl : j = 0 := by omega
    simp at hj
    subst hj
    exact ⟨⟨hb.cell 0, hb.cell 1⟩, h.pcs⟩
  · obtain rfl : j = 1 := by omega
    simp at hj
    subst hj
    exact ⟨⟨hb.cell 2, hb.cell 3⟩, h.pcs⟩
theorem bgn_may (w : World) : mayV 1 [tA w, tB w] = true := by rfl
theorem bgn_cfg : cfgB ⟨2, 1, 1, 0, [0]⟩ = true := by decide
theorem bgn_lon : lonL [0] 0 [⟨0, 1, 4⟩] = 4 := by decide
theorem bgn_sec (w : World) : secV 1 [0] [tA w, tB w] 0 0 = 8 := by rfl
theorem bgn_wait (w : World) : waitV 1 [0] [tA w, tB w] 1 = 8 := by rfl
theorem bgn_rows (w : World) : allL 1 [0] [tA w, tB w] [pA w, pA w] (List.replicate 2 []) 2 = [[], [⟨11, 20, 20⟩, ⟨11, 20, 30⟩]] := by rfl
theorem bgn_share : shareL [⟨11, 20, 20⟩, ⟨11, 20, 30⟩] = 9167 := by decide
set_option maxHeartbeats 16000000 in
set_option maxRecDepth 100000 in
theorem begun12_any (w : World) (hE : Env w) : Calls Tryz.prog 11 #[] w fun e w' => e = .returned (.bool true) ∧ Below w.heap.size w w' := by
  have HE : Hid (Env w) := hE
  clear hE
  have B0 : Hid (Bgn w ((((((((((w.alloc (.cells #[.int .i64 0] 3)).alloc (.cells #[.int .i64 2, .int .i64 1, .int .i64 1, .int .i64 0, .slice (some ⟨w.heap.size, 0, none⟩) 1 1] 24)).alloc (.cells #[.int .i64 0, .int .i64 1, .int .i64 2] 39)).alloc (.cells #[.int .i64 3, .int .i64 20, .int .i64 20, .slice (some ⟨w.heap.size + 2, 0, none⟩) 1 1] 34)).alloc (.cells #[.int .i64 0, .int .i64 1, .int .i64 4] 39)).alloc (.cells #[.int .i64 3, .int .i64 20, .int .i64 30, .slice (some ⟨w.heap.size + 4, 0, none⟩) 1 1] 34)).alloc (.cells #[.int .i64 1, .int .i64 0, .int .i64 20, .int .i64 3] 60)).alloc (.cells #[.int .i64 1, .slice (some ⟨w.heap.size + 6, 0, none⟩) 1 1] 49)).alloc (.cells #[.int .i64 3, .int .i64 20, .int .i64 20, .slice (some ⟨w.heap.size + 2, 0, none⟩) 1 1, .int .i64 3, .int .i64 20, .int .i64 30, .slice (some ⟨w.heap.size + 4, 0, none⟩) 1 1] 34)).alloc (.cells #[.int .i64 1, .slice (some ⟨w.heap.size + 6, 0, none⟩) 1 1, .int .i64 1, .slice (some ⟨w.heap.size + 6, 0, none⟩) 1 1] 49))) := ((bgn_made w).below (balloc _ _)).below (balloc _ _)
  have BT : Hid (Blk ((((((((((w.alloc (.cells #[.int .i64 0] 3)).alloc (.cells #[.int .i64 2, .int .i64 1, .int .i64 1, .int .i64 0, .slice (some ⟨w.heap.size, 0, none⟩) 1 1] 24)).alloc (.cells #[.int .i64 0, .int .i64 1, .int .i64 2] 39)).alloc (.cells #[.int .i64 3, .int .i64 20, .int .i64 20, .slice (some ⟨w.heap.size + 2, 0, none⟩) 1 1] 34)).alloc (.cells #[.int .i64 0, .int .i64 1, .int .i64 4] 39)).alloc (.cells #[.int .i64 3, .int .i64 20, .int .i64 30, .slice (some ⟨w.heap.size + 4, 0, none⟩) 1 1] 34)).alloc (.cells #[.int .i64 1, .int .i64 0, .int .i64 20, .int .i64 3] 60)).alloc (.cells #[.int .i64 1, .slice (some ⟨w.heap.size + 6, 0, none⟩) 1 1] 49)).alloc (.cells #[.int .i64 3, .int .i64 20, .int .i64 20, .slice (some ⟨w.heap.size + 2, 0, none⟩) 1 1, .int .i64 3, .int .i64 20, .int .i64 30, .slice (some ⟨w.heap.size + 4, 0, none⟩) 1 1] 34)).alloc (.cells #[.int .i64 1, .slice (some ⟨w.heap.size + 6, 0, none⟩) 1 1, .int .i64 1, .slice (some ⟨w.heap.size + 6, 0, none⟩) 1 1] 49)) (w.heap.size + 8) #[.int .i64 3, .int .i64 20, .int .i64 20, .slice (some ⟨w.heap.size + 2, 0, none⟩) 1 1, .int .i64 3, .int .i64 20, .int .i64 30, .slice (some ⟨w.heap.size + 4, 0, none⟩) 1 1] 34) := (blk_next _ _ (by simp)).below (balloc _ _)
  have BP : Hid (Blk ((((((((((w.alloc (.cells #[.int .i64 0] 3)).alloc (.cells #[.int .i64 2, .int .i64 1, .int .i64 1, .int .i64 0, .slice (some ⟨w.heap.size, 0, none⟩) 1 1] 24)).alloc (.cells #[.int .i64 0, .int .i64 1, .int .i64 2] 39)).alloc (.cells #[.int .i64 3, .int .i64 20, .int .i64 20, .slice (some ⟨w.heap.size + 2, 0, none⟩) 1 1] 34)).alloc (.cells #[.int .i64 0, .int .i64 1, .int .i64 4] 39)).alloc (.cells #[.int .i64 3, .int .i64 20, .int .i64 30, .slice (some ⟨w.heap.size + 4, 0, none⟩) 1 1] 34)).alloc (.cells #[.int .i64 1, .int .i64 0, .int .i64 20, .int .i64 3] 60)).alloc (.cells #[.int .i64 1, .slice (some ⟨w.heap.size + 6, 0, none⟩) 1 1] 49)).alloc (.cells #[.int .i64 3, .int .i64 20, .int .i64 20, .slice (some ⟨w.heap.size + 2, 0, none⟩) 1 1, .int .i64 3, .int .i64 20, .int .i64 30, .slice (some ⟨w.heap.size + 4, 0, none⟩) 1 1] 34)).alloc (.cells #[.int .i64 1, .slice (some ⟨w.heap.size + 6, 0, none⟩) 1 1, .int .i64 1, .slice (some ⟨w.heap.size + 6, 0, none⟩) 1 1] 49)) (w.heap.size + 9) #[.int .i64 1, .slice (some ⟨w.heap.size + 6, 0, none⟩) 1 1, .int .i64 1, .slice (some ⟨w.heap.size + 6, 0, none⟩) 1 1] 49) := blk_next _ _ (by simp)
  go_enter Tryz.func11, Tryz.ntmps11
  go_wp2_with fail
  generalize hW : World.alloc _ _ = W at B0 BT BP ⊢
  clear hW
  refine (lall_any 2 1 1 0 (.slice (some ⟨w.heap.size, 0, none⟩) 1 1) [0] (some ⟨w.heap.size + 8, 0, none⟩) 2 2 [tA w, tB w] (some ⟨w.heap.size + 9, 0, none⟩) 2 [pA w, pA w] 2 W B0.out.res (by decide) bgn_cfg (B0.out.tks BT.out) rfl (bgn_may w) (B0.out.plns BP.out) rfl (by intro p hp; simp at hp; subst hp; exact ⟨Nat.le_of_ble_eq_true rfl, rfl⟩) rfl).mono ?_
  rintro e w1 ⟨gl, rfl, l1⟩
  rw [bgn_rows] at l1
  have B1 : Hid (Bgn w w1) := B0.out.below l1.bel
  have L1 : Hid (Lay W (.slice (some ⟨gl, 0, none⟩) 2 2) [[], [⟨11, 20, 20⟩, ⟨11, 20, 30⟩]] w1) := l1
  clear l1 B0 BT BP
  go_wp2_with fail
  refine (begun9_pub _ (HE.out.below B1.out.bel)).mono ?_
  rintro e w2 ⟨rfl, g2⟩
  have B2 : Hid (Bgn w w2) := B1.out.below g2
  have L2 : Hid (Lay W (.slice (some ⟨gl, 0, none⟩) 2 2) [[], [⟨11, 20, 20⟩, ⟨11, 20, 30⟩]] w2) := L1.out.below g2
  clear g2 B1 L1 HE
  have k10 := B2.out.b1.cell 0
  have k11 := B2.out.b1.cell 1
  have k12 := B2.out.b1.cell 2
  have k13 := B2.out.b1.cell 3
  have k14 := B2.out.b1.cell 4
  have k50 := B2.out.b5.cell 0
  have k51 := B2.out.b5.cell 1
  have k52 := B2.out.b5.cell 2
  have k53 := B2.out.b5.cell 3
  simp at k10 k11 k12 k13 k14 k50 k51 k52 k53
  go_wp2_with fail
  refine (wLong_any 2 1 1 0 (.slice (some ⟨w.heap.size, 0, none⟩) 1 1) [0] 3 20 30 (.slice (some ⟨w.heap.size + 4, 0, none⟩) 1 1) [⟨0, 1, 4⟩] 0 w2 B2.out.res (by decide) B2.out.secB (by decide) bgn_cfg).mono ?_
  rintro e w3 ⟨rfl, g3⟩
  unfold lonA
  rw [if_pos (show tskB ([0] : List Int).length ⟨3, 20, 30, [⟨0, 1, 4⟩]⟩ = true by decide), bgn_lon]
  have B3 : Hid (Bgn w w3) := B2.out.below g3
  have L3 : Hid (Lay W (.slice (some ⟨gl, 0, none⟩) 2 2) [[], [⟨11, 20, 20⟩, ⟨11, 20, 30⟩]] w3) := L2.out.below g3
  clear g3 B2 L2
  clear k10 k11 k12 k13 k14 k50 k51 k52 k53
  have k10 := B3.out.b1.cell 0
  have k11 := B3.out.b1.cell 1
  have k12 := B3.out.b1.cell 2
  have k13 := B3.out.b1.cell 3
  have k14 := B3.out.b1.cell 4
  have k30 := B3.out.b3.cell 0
  have k31 := B3.out.b3.cell 1
  have k32 := B3.out.b3.cell 2
  have k33 := B3.out.b3.cell 3
  have k50 := B3.out.b5.cell 0
  have k51 := B3.out.b5.cell 1
  have k52 := B3.out.b5.cell 2
  have k53 := B3.out.b5.cell 3
  simp at k10 k11 k12 k13 k14 k30 k31 k32 k33 k50 k51 k52 k53
  have T3 : Hid (Blk (w3.alloc (.cells #[.int .i64 3, .int .i64 20, .int .i64 20, .slice (some ⟨w.heap.size + 2, 0, none⟩) 1 1, .int .i64 3, .int .i64 20, .int .i64 30, .slice (some ⟨w.heap.size + 4, 0, none⟩) 1 1] 34)) w3.heap.size #[.int .i64 3, .int .i64 20, .int .i64 20, .slice (some ⟨w.heap.size + 2, 0, none⟩) 1 1, .int .i64 3, .int .i64 20, .int .i64 30, .slice (some ⟨w.heap.size + 4, 0, none⟩) 1 1] 34) := heap_alloc_new _ _
  go_wp2_with fail
  refine (wSec_any 2 1 1 0 (.slice (some ⟨w.heap.size, 0, none⟩) 1 1) [0] (some ⟨w3.heap.size, 0, none⟩) 2 2 [tA w, tB w] 0 0 _ (B3.out.below (balloc _ _)).res (by decide) bgn_cfg ((B3.out.below (balloc _ _)).tks T3.out) rfl (by omega) (by intro x hx; simp at hx; rcases hx with rfl | rfl <;> exact Nat.le_of_ble_eq_true rfl)).mono ?_
  rintro e w4 ⟨rfl, g4⟩
  unfold secA
  rw [if_pos (show mayV ([0] : List Int).length [tA w, tB w] = true from bgn_may w), bgn_sec]
  have B4 : Hid (Bgn w w4) := B3.out.below (btrans (balloc _ _) g4)
  have L4 : Hid (Lay W (.slice (some ⟨gl, 0, none⟩) 2 2) [[], [⟨11, 20, 20⟩, ⟨11, 20, 30⟩]] w4) := L3.out.below (btrans (balloc _ _) g4)
  clear g4 B3 L3 T3
  clear k10 k11 k12 k13 k14 k30 k31 k32 k33 k50 k51 k52 k53
  have k10 := B4.out.b1.cell 0
  have k11 := B4.out.b1.cell 1
  have k12 := B4.out.b1.cell 2
  have k13 := B4.out.b1.cell 3
  have k14 := B4.out.b1.cell 4
  have k30 := B4.out.b3.cell 0
  have k31 := B4.out.b3.cell 1
  have k32 := B4.out.b3.cell 2
  have k33 := B4.out.b3.cell 3
  have k50 := B4.out.b5.cell 0
  have k51 := B4.out.b5.cell 1
  have k52 := B4.out.b5.cell 2
  have k53 := B4.out.b5.cell 3
  simp at k10 k11 k12 k13 k14 k30 k31 k32 k33 k50 k51 k52 k53
  have T4 : Hid (Blk (w4.alloc (.cells #[.int .i64 3, .int .i64 20, .int .i64 20, .slice (some ⟨w.heap.size + 2, 0, none⟩) 1 1, .int .i64 3, .int .i64 20, .int .i64 30, .slice (some ⟨w.heap.size + 4, 0, none⟩) 1 1] 34)) w4.heap.size #[.int .i64 3, .int .i64 20, .int .i64 20, .slice (some ⟨w.heap.size + 2, 0, none⟩) 1 1, .int .i64 3, .int .i64 20, .int .i64 30, .slice (some ⟨w.heap.size + 4, 0, none⟩) 1 1] 34) := heap_alloc_new _ _
  go_wp2_with fail
  refine (wTask_any 2 1 1 0 (.slice (some ⟨w.heap.size, 0, none⟩) 1 1) [0] (some ⟨w4.heap.size, 0, none⟩) 2 2 [tA w, tB w] 1 _ (B4.out.below (balloc _ _)).res (by decide) bgn_cfg ((B4.out.below (balloc _ _)).tks T4.out) rfl (by omega) (by intro x hx; simp at hx; rcases hx with rfl | rfl <;> exact Nat.le_of_ble_eq_true rfl)).mono ?_
  rintro e w5 ⟨rfl, g5⟩
  unfold waitA
  rw [if_pos (show mayV ([0] : List Int).length [tA w, tB w] = true from bgn_may w), bgn_wait]
  have B5 : Hid (Bgn w w5) := B4.out.below (btrans (balloc _ _) g5)
  have L5 : Hid (Lay W (.slice (some ⟨gl, 0, none⟩) 2 2) [[], [⟨11, 20, 20⟩, ⟨11, 20, 30⟩]] w5) := L4.out.below (btrans (balloc _ _) g5)
  clear g5 B4 L4 T4
  clear k10 k11 k12 k13 k14 k30 k31 k32 k33 k50 k51 k52 k53
  obtain ⟨us, ho⟩ := L5.out.own
  have hul := ho.len
  match us, hul, ho with
  | [u0, u1], _, ho =>
  obtain ⟨y0, -, y1⟩ := ho.cell (i := 0) rfl
  obtain ⟨z0, -, -⟩ := ho.cell (i := 1) rfl
  have o0 := ho.row 0 u0 [] rfl rfl
  have o1 := ho.row 1 u1 [⟨11, 20, 20⟩, ⟨11, 20, 30⟩] rfl rfl
  obtain ⟨a0, q0, e0⟩ := o0.form
  obtain ⟨a1, q1, e1⟩ := o1.form
  simp only [List.length_nil, List.length_cons] at e0 e1
  subst e0 e1
  have s1 := o1.secs
  obtain ⟨bb, eb, hbb, x0, x1, x2⟩ := secs_at s1 (show ([⟨11, 20, 20⟩, ⟨11, 20, 30⟩] : List Sec)[0]? = some ⟨11, 20, 20⟩ from rfl)
  subst eb
  simp at x0 x1 x2
  have S5 : Hid (Secs w5 (.slice (some ⟨bb, 0, none⟩) 2 q1) [⟨11, 20, 20⟩, ⟨11, 20, 30⟩]) := s1
  clear ho o0 o1 s1 L5
  go_wp2_with fail
  refine (share_any _ [⟨11, 20, 20⟩, ⟨11, 20, 30⟩] _ S5.out (by decide) (by decide)).mono ?_
  rintro e w6 ⟨rfl, g6⟩
  rw [bgn_share]
  have B6 : Hid (Below w.heap.size w w6) := btrans B5.out.bel g6
  clear g6 B5 S5 x0 x1 x2 y0 z0
  go_wp2_with fail
  go_ret
  exact ⟨rfl, B6.out⟩
end Go.Proofs.YtakdliecjfeedaaGreatDoor
