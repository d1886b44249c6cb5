/- The contract of the beginning of these laws. -/
import Derived.Test.YtakdliecjfeedaaGreatDoorPutT
import Derived.Test.YtakdliecjfeedaaGreatDoorSame
import Derived.Test.YtakdliecjfeedaaGreatDoorAg
import Derived.Test.YtakdliecjfeedaaGreatDoorTBegun
namespace Go.Proofs.YtakdliecjfeedaaGreatDoor
open Go Go.RowKit

theorem dec1 {n : Nat} (h : n < 10) : dec (n : Int) = [UInt8.ofNat (48 + n)] := by unfold dec; rw [Int.toNat_natCast, Lib.decDigits_one h]
theorem dec0 : dec 0 = [48] := dec1 (n := 0) (by omega)
theorem decI : dec 1 = [49] := dec1 (n := 1) (by omega)
theorem decII : dec 2 = [50] := dec1 (n := 2) (by omega)
theorem decIII : dec 3 = [51] := dec1 (n := 3) (by omega)
theorem dec8 : dec 8 = [56] := dec1 (n := 8) (by omega)
theorem dec10 : dec 10 = [49, 48] := by unfold dec; rw [show (10 : Int).toNat = 10 from rfl, Lib.decDigits_two (by omega) (by omega)]; rfl
def cC : Cfg := ⟨2, 1, 1, 0, [0]⟩
def tT : Tsk := ⟨3, 8, 10, [⟨0, 1, 2⟩]⟩
def cBytes : ByteArray := ⟨#[99, 111, 114, 101, 115, 32, 50, 32, 115, 121, 110, 99, 115, 32, 49, 32, 108, 97, 103, 32, 49, 32, 109, 111, 118, 101, 32, 48, 32, 114, 101, 115, 32, 48]⟩
def tBytes : ByteArray := ⟨#[51, 47, 56, 47, 49, 48, 32, 48, 64, 49, 43, 50]⟩
theorem cC_ok : cfgB cC = true := by decide
theorem tT_ok : tskB 1 tT = true := by decide
theorem tT_ok6 : tskB 6 tT = true := by decide
theorem tT_no0 : tskB 0 tT = false := by decide
theorem cC_text : putCfgT cC = cBytes.data.toList := by
  simp [putCfgT, cC, kCores, kSyncs, kLag, kMove, kRes, resTT, resT, dec0, decI, decII, cBytes]
theorem tT_text : putTskT tT = tBytes.data.toList := by
  simp [putTskT, tT, secsT, secT, dec0, decI, decII, decIII, dec8, dec10, tBytes]
theorem cC_put : putCfgL cC = cBytes.data.toList := by unfold putCfgL; rw [cC_ok, cC_text]; rfl
theorem tT_put : putTskL tT = tBytes.data.toList := by unfold putTskL; rw [tT_ok6, tT_text]; rfl
theorem cC_get : getCfg cBytes.data.toList = some cC := getCfg_iff.2 ⟨cC_ok, cC_text.symm⟩
theorem tT_get : getTsk 1 tBytes.data.toList = some tT := (getTsk_iff (by omega)).2 ⟨tT_ok, tT_text.symm⟩
theorem secsB_mono {n n' c : Int} (h : n ≤ n') : ∀ (l : List Sec) (lo : Int), secsB n c lo l = true → secsB n' c lo l = true := by
  intro l
  induction l with
  | nil => intro lo _; rfl
  | cons s r ih =>
    intro lo hh
    simp only [secsB, secB, Bool.and_eq_true, oneOfB_iff] at hh ⊢
    exact ⟨⟨⟨⟨hh.1.1.1.1, by omega⟩, hh.1.1.2⟩, hh.1.2⟩, ih _ hh.2⟩
theorem tskB_mono {n n' : Int} (h : n ≤ n') {t : Tsk} (ht : tskB n t = true) : tskB n' t = true := by
  simp only [tskB, secsAllB, Bool.and_eq_true] at ht ⊢
  exact ⟨ht.1, ht.2.1, secsB_mono h _ _ ht.2.2⟩
theorem tT_none : getTsk 0 tBytes.data.toList = none := by
  cases h : getTsk 0 tBytes.data.toList with
  | none => rfl
  | some t =>
    obtain ⟨h1, h2⟩ := (getTsk_iff (by omega)).1 h
    have h3 := (getTsk_iff (n := 1) (by omega)).2 ⟨tskB_mono (by omega) h1, h2⟩
    rw [tT_get] at h3
    rw [← Option.some.inj h3, tT_no0] at h1
    simp at h1
theorem agents_cC : agentsL cC tT = [0] := by
  have e : (cfgB cC && tskB cC.res.length tT) = true := by decide
  unfold agentsL
  rw [e]
  simp [agL, agM, agR, cC, tT, Lib.compact, Lib.compactUpTo, Lib.keeps]
theorem bytes_eq {a b : ByteArray} (h : a.data.toList = b.data.toList) : a = b := by
  obtain ⟨⟨x⟩⟩ := a
  obtain ⟨⟨y⟩⟩ := b
  simp at h
  rw [h]
theorem ints_one (w : World) (x : Int) (t : TypeId) : Ints (w.alloc (.cells #[.int .i64 x] t)) (.slice (some ⟨w.heap.size, 0, none⟩) 1 1) [x] :=
  .inr ⟨w.heap.size, 1, rfl, by simp, fun j y hj => by
    match j, hj with
    | 0, hj => simp at hj; subst hj; simp⟩
theorem secs_one (w : World) (x y z : Int) (t : TypeId) : Secs (w.alloc (.cells #[.int .i64 x, .int .i64 y, .int .i64 z] t)) (.slice (some ⟨w.heap.size, 0, none⟩) 1 1) [⟨x, y, z⟩] :=
  .inr ⟨w.heap.size, 1, rfl, by simp, fun j s hj => by
    match j, hj with
    | 0, hj => simp at hj; subst hj; simp⟩
abbrev bgC (w : World) : Array Value := #[.int .i64 2, .int .i64 1, .int .i64 1, .int .i64 0, .slice (some ⟨w.heap.size, 0, none⟩) 1 1]
abbrev bgT (w : World) : Array Value := #[.int .i64 3, .int .i64 8, .int .i64 10, .slice (some ⟨w.heap.size + 2, 0, none⟩) 1 1]
/-- What lies there all along. -/
structure Bg (w w' : World) : Prop where
  env : Env w'
  bc : Blk w' (w.heap.size + 1) (bgC w) 24
  bt : Blk w' (w.heap.size + 3) (bgT w) 34
  ic : Ints w' (.slice (some ⟨w.heap.size, 0, none⟩) 1 1) [0]
  it : Secs w' (.slice (some ⟨w.heap.size + 2, 0, none⟩) 1 1) [⟨0, 1, 2⟩]
  bel : Below w.heap.size w w'
theorem Bg.below {w a b : World} (h : Bg w a) (g : Below a.heap.size a b) : Bg w b := ⟨h.env.below g, h.bc.below g, h.bt.below g, h.ic.below g, h.it.below g, btrans h.bel g⟩
theorem Bg.drew {w a : World} (h : Bg w a) : Bg w a.drew := h.below ((Below.refl _ _).drew)
theorem Bg.start {w : World} (h : Env w) : Bg w ((((w.alloc (.cells #[.int .i64 0] 3)).alloc (.cells (bgC w) 24)).alloc (.cells #[.int .i64 0, .int .i64 1, .int .i64 2] 39)).alloc (.cells (bgT w) 34)) := by
  have b0 := balloc w (.cells #[.int .i64 0] 3)
  have i0 := ints_one w 0 3
  generalize hA : w.alloc (.cells #[.int .i64 0] 3) = A at b0 i0 ⊢
  have z0 : A.heap.size = w.heap.size + 1 := by rw [← hA]; simp
  have b1 := balloc A (.cells (bgC w) 24)
  have k1 : Blk (A.alloc (.cells (bgC w) 24)) (w.heap.size + 1) (bgC w) 24 := by rw [← z0]; exact heap_alloc_new _ _
  generalize hB : A.alloc (.cells (bgC w) 24) = B at b1 k1 ⊢
  have z1 : B.heap.size = w.heap.size + 2 := by rw [← hB]; simp [z0]
  have b2 := balloc B (.cells #[.int .i64 0, .int .i64 1, .int .i64 2] 39)
  have i2 := secs_one B 0 1 2 39
  rw [z1] at i2
  generalize hC : B.alloc (.cells #[.int .i64 0, .int .i64 1, .int .i64 2] 39) = C at b2 i2 ⊢
  have z2 : C.heap.size = w.heap.size + 3 := by rw [← hC]; simp [z1]
  have b3 := balloc C (.cells (bgT w) 34)
  have k3 : Blk (C.alloc (.cells (bgT w) 34)) (w.heap.size + 3) (bgT w) 34 := by rw [← z2]; exact heap_alloc_new _ _
  exact ⟨(((h.below b0).below b1).below b2).below b3, (k1.below b2).below b3, k3, ((i0.below b1).below b2).below b3, i2.below b3, btrans (btrans (btrans b0 b1) b2) b3⟩

theorem got_cC {w w' : World} {e : Ending} (h : GotCfg cBytes.data.toList w e w') : ∃ a cap, e = .returned (.tuple #[.agg #[.int .i64 2, .int .i64 1, .int .i64 1, .int .i64 0, .slice a 1 cap], .int .i64 0]) ∧ Ints w' (.slice a 1 cap) [0] ∧ Below w.heap.size w w' := by
  obtain ⟨g, h | ⟨c, u, h1, h2, h3⟩⟩ := h
  · rw [cC_get] at h; simp at h
  · rw [cC_get] at h1
    have e := Option.some.inj h1
    subst e
    obtain ⟨a, cap, rfl⟩ := h2.form
    exact ⟨a, cap, h3, h2, g⟩
theorem got_tT {w w' : World} {e : Ending} (h : GotTsk cC tBytes.data.toList w e w') : ∃ a cap, e = .returned (.tuple #[.agg #[.int .i64 3, .int .i64 8, .int .i64 10, .slice a 1 cap], .int .i64 0]) ∧ Secs w' (.slice a 1 cap) [⟨0, 1, 2⟩] ∧ Below w.heap.size w w' := by
  obtain ⟨g, ⟨h | h, _⟩ | ⟨t, u, h1, h2, h3, h4⟩⟩ := h
  · rw [cC_ok] at h; simp at h
  · rw [show ((cC.res.length : Nat) : Int) = 1 from rfl, tT_get] at h; simp at h
  · rw [show ((cC.res.length : Nat) : Int) = 1 from rfl, tT_get] at h2
    have e := Option.some.inj h2
    subst e
    obtain ⟨a, cap, rfl⟩ := h3.form
    exact ⟨a, cap, h4, h3, g⟩
theorem got_no {w w' : World} {e : Ending} (h : GotTsk ⟨1, 0, 0, 0, []⟩ tBytes.data.toList w e w') : e = .returned (.tuple #[.agg zTsk, .int .i64 1]) ∧ Below w.heap.size w w' := by
  obtain ⟨g, ⟨_, h⟩ | ⟨t, u, h1, h2, h3, h4⟩⟩ := h
  · exact ⟨h, g⟩
  · rw [show (((⟨1, 0, 0, 0, []⟩ : Cfg).res.length : Nat) : Int) = 0 from rfl, tT_none] at h2; simp at h2
structure Bg2 (w : World) (X : Nat) (u : Value) (Y : Nat) (u2 : Value) (w' : World) : Prop where
  bg : Bg w w'
  bx : Blk w' X #[.int .i64 2, .int .i64 1, .int .i64 1, .int .i64 0, u] 24
  ix : Ints w' u [0]
  by' : Blk w' Y #[.int .i64 3, .int .i64 8, .int .i64 10, u2] 34
  iy : Secs w' u2 [⟨0, 1, 2⟩]
theorem Bg2.below {w a b : World} {X Y : Nat} {u u2 : Value} (h : Bg2 w X u Y u2 a) (g : Below a.heap.size a b) : Bg2 w X u Y u2 b := ⟨h.bg.below g, h.bx.below g, h.ix.below g, h.by'.below g, h.iy.below g⟩

set_option maxHeartbeats 8000000 in
set_option maxRecDepth 100000 in
theorem begun7_any (w : World) (hE : Env w) :
    Calls Tryz.prog 72 #[] w fun e w' => e = .returned (.bool true) ∧ Below w.heap.size w w' := by
  have q0 := Bg.start hE
  have Q0 : Hid (Bg w _) := q0
  clear q0 hE
  go_enter Tryz.func72, Tryz.ntmps72
  go_wp2_with fail
  generalize hW : World.alloc _ _ = W0 at Q0 ⊢
  clear hW
  have ac0 : W0.cell? ⟨w.heap.size + 1, 0, none⟩ = some (.int .i64 2) := Q0.out.bc.cell 0
  have ac1 : W0.cell? ⟨w.heap.size + 1, 1, none⟩ = some (.int .i64 1) := Q0.out.bc.cell 1
  have ac2 : W0.cell? ⟨w.heap.size + 1, 2, none⟩ = some (.int .i64 1) := Q0.out.bc.cell 2
  have ac3 : W0.cell? ⟨w.heap.size + 1, 3, none⟩ = some (.int .i64 0) := Q0.out.bc.cell 3
  have ac4 : W0.cell? ⟨w.heap.size + 1, 4, none⟩ = some (.slice (some ⟨w.heap.size, 0, none⟩) 1 1) := Q0.out.bc.cell 4
  have at0 : W0.cell? ⟨w.heap.size + 1 + 1 + 1, 0, none⟩ = some (.int .i64 3) := Q0.out.bt.cell 0
  have at1 : W0.cell? ⟨w.heap.size + 1 + 1 + 1, 1, none⟩ = some (.int .i64 8) := Q0.out.bt.cell 1
  have at2 : W0.cell? ⟨w.heap.size + 1 + 1 + 1, 2, none⟩ = some (.int .i64 10) := Q0.out.bt.cell 2
  have at3 : W0.cell? ⟨w.heap.size + 1 + 1 + 1, 3, none⟩ = some (.slice (some ⟨w.heap.size + 1 + 1, 0, none⟩) 1 1) := Q0.out.bt.cell 3
  go_region_held3 (fun w' => w'.cell? ⟨w.heap.size + 1, 0, none⟩ = some (.int .i64 2) ∧ w'.cell? ⟨w.heap.size + 1, 1, none⟩ = some (.int .i64 1) ∧ w'.cell? ⟨w.heap.size + 1, 2, none⟩ = some (.int .i64 1) ∧ w'.cell? ⟨w.heap.size + 1, 3, none⟩ = some (.int .i64 0) ∧ w'.cell? ⟨w.heap.size + 1, 4, none⟩ = some (.slice (some ⟨w.heap.size, 0, none⟩) 1 1) ∧ w'.cell? ⟨w.heap.size + 1 + 1 + 1, 0, none⟩ = some (.int .i64 3) ∧ w'.cell? ⟨w.heap.size + 1 + 1 + 1, 1, none⟩ = some (.int .i64 8) ∧ w'.cell? ⟨w.heap.size + 1 + 1 + 1, 2, none⟩ = some (.int .i64 10) ∧ w'.cell? ⟨w.heap.size + 1 + 1 + 1, 3, none⟩ = some (.slice (some ⟨w.heap.size + 1 + 1, 0, none⟩) 1 1)) (first | exact ⟨ac0, ac1, ac2, ac3, ac4, at0, at1, at2, at3⟩ | go_keep | exact ⟨bc0, bc1, bc2, bc3, bc4, bt0, bt1, bt2, bt3⟩ | exact ⟨dc0, dc1, dc2, dc3, dc4, dt0, dt1, dt2, dt3⟩) (first | (go_at_call 81; refine (putCfg_any 2 1 1 0 _ [0] _ (by first | exact Q0.out.ic | exact Q0.out.drew.ic) (by decide)).mono ?_; rintro e w1 ⟨s1, rfl, hs1, g1⟩; have Q1 : Hid (Bg w w1) := (by first | exact Q0.out.below g1 | exact Q0.out.drew.below g1); have e1 : s1 = cBytes := bytes_eq (hs1.trans cC_put); subst e1; have bc0 : w1.cell? ⟨w.heap.size + 1, 0, none⟩ = some (.int .i64 2) := Q1.out.bc.cell 0; have bc1 : w1.cell? ⟨w.heap.size + 1, 1, none⟩ = some (.int .i64 1) := Q1.out.bc.cell 1; have bc2 : w1.cell? ⟨w.heap.size + 1, 2, none⟩ = some (.int .i64 1) := Q1.out.bc.cell 2; have bc3 : w1.cell? ⟨w.heap.size + 1, 3, none⟩ = some (.int .i64 0) := Q1.out.bc.cell 3; have bc4 : w1.cell? ⟨w.heap.size + 1, 4, none⟩ = some (.slice (some ⟨w.heap.size, 0, none⟩) 1 1) := Q1.out.bc.cell 4; have bt0 : w1.cell? ⟨w.heap.size + 1 + 1 + 1, 0, none⟩ = some (.int .i64 3) := Q1.out.bt.cell 0; have bt1 : w1.cell? ⟨w.heap.size + 1 + 1 + 1, 1, none⟩ = some (.int .i64 8) := Q1.out.bt.cell 1; have bt2 : w1.cell? ⟨w.heap.size + 1 + 1 + 1, 2, none⟩ = some (.int .i64 10) := Q1.out.bt.cell 2; have bt3 : w1.cell? ⟨w.heap.size + 1 + 1 + 1, 3, none⟩ = some (.slice (some ⟨w.heap.size + 1 + 1, 0, none⟩) 1 1) := Q1.out.bt.cell 3; clear g1 hs1) | (go_at_call 82; refine (putTsk_any 3 8 10 _ [⟨0, 1, 2⟩] _ (by first | exact Q1.out.env | exact Q1.out.drew.env) (by first | exact Q1.out.it | exact Q1.out.drew.it) (by decide)).mono ?_; rintro e w2 ⟨s2, rfl, hs2, g2⟩; have Q2 : Hid (Bg w w2) := (by first | exact Q1.out.below g2 | exact Q1.out.drew.below g2); have e2 : s2 = tBytes := bytes_eq (hs2.trans tT_put); subst e2; have dc0 : w2.cell? ⟨w.heap.size + 1, 0, none⟩ = some (.int .i64 2) := Q2.out.bc.cell 0; have dc1 : w2.cell? ⟨w.heap.size + 1, 1, none⟩ = some (.int .i64 1) := Q2.out.bc.cell 1; have dc2 : w2.cell? ⟨w.heap.size + 1, 2, none⟩ = some (.int .i64 1) := Q2.out.bc.cell 2; have dc3 : w2.cell? ⟨w.heap.size + 1, 3, none⟩ = some (.int .i64 0) := Q2.out.bc.cell 3; have dc4 : w2.cell? ⟨w.heap.size + 1, 4, none⟩ = some (.slice (some ⟨w.heap.size, 0, none⟩) 1 1) := Q2.out.bc.cell 4; have dt0 : w2.cell? ⟨w.heap.size + 1 + 1 + 1, 0, none⟩ = some (.int .i64 3) := Q2.out.bt.cell 0; have dt1 : w2.cell? ⟨w.heap.size + 1 + 1 + 1, 1, none⟩ = some (.int .i64 8) := Q2.out.bt.cell 1; have dt2 : w2.cell? ⟨w.heap.size + 1 + 1 + 1, 2, none⟩ = some (.int .i64 10) := Q2.out.bt.cell 2; have dt3 : w2.cell? ⟨w.heap.size + 1 + 1 + 1, 3, none⟩ = some (.slice (some ⟨w.heap.size + 1 + 1, 0, none⟩) 1 1) := Q2.out.bt.cell 3; clear g2 hs2))
  clear ac0 ac1 ac2 ac3 ac4 at0 at1 at2 at3 bc0 bc1 bc2 bc3 bc4 bt0 bt1 bt2 bt3 Q0 Q1
  go_wp2_with fail
  refine (getCfg_any cBytes w2 (by decide) Q2.out.env).mono ?_
  rintro e w3 hgot
  obtain ⟨a3, cap3, rfl, iu, g3⟩ := got_cC hgot
  have Q3 : Hid (Bg w w3) := Q2.out.below g3
  have I3 : Hid (Ints w3 (.slice a3 1 cap3) [0]) := iu
  have l3 : w.heap.size + 1 + 1 + 1 < w3.heap.size := Q3.out.bt.lt
  have l3' : w.heap.size + 1 < w3.heap.size := Q3.out.bc.lt
  have ec0 : w3.cell? ⟨w.heap.size + 1, 0, none⟩ = some (.int .i64 2) := Q3.out.bc.cell 0
  have ec1 : w3.cell? ⟨w.heap.size + 1, 1, none⟩ = some (.int .i64 1) := Q3.out.bc.cell 1
  have ec2 : w3.cell? ⟨w.heap.size + 1, 2, none⟩ = some (.int .i64 1) := Q3.out.bc.cell 2
  have ec3 : w3.cell? ⟨w.heap.size + 1, 3, none⟩ = some (.int .i64 0) := Q3.out.bc.cell 3
  have ec4 : w3.cell? ⟨w.heap.size + 1, 4, none⟩ = some (.slice (some ⟨w.heap.size, 0, none⟩) 1 1) := Q3.out.bc.cell 4
  have et0 : w3.cell? ⟨w.heap.size + 1 + 1 + 1, 0, none⟩ = some (.int .i64 3) := Q3.out.bt.cell 0
  have et1 : w3.cell? ⟨w.heap.size + 1 + 1 + 1, 1, none⟩ = some (.int .i64 8) := Q3.out.bt.cell 1
  have et2 : w3.cell? ⟨w.heap.size + 1 + 1 + 1, 2, none⟩ = some (.int .i64 10) := Q3.out.bt.cell 2
  have et3 : w3.cell? ⟨w.heap.size + 1 + 1 + 1, 3, none⟩ = some (.slice (some ⟨w.heap.size + 1 + 1, 0, none⟩) 1 1) := Q3.out.bt.cell 3
  clear hgot iu g3 Q2 dc0 dc1 dc2 dc3 dc4 dt0 dt1 dt2 dt3
  go_wp2_with fail
  have Q3' : Hid (Bg w (w3.alloc (.cells #[.int .i64 2, .int .i64 1, .int .i64 1, .int .i64 0, .slice a3 1 cap3] 24))) := Q3.out.below (balloc _ _)
  have X3 : Hid (Blk (w3.alloc (.cells #[.int .i64 2, .int .i64 1, .int .i64 1, .int .i64 0, .slice a3 1 cap3] 24)) w3.heap.size #[.int .i64 2, .int .i64 1, .int .i64 1, .int .i64 0, .slice a3 1 cap3] 24) := heap_alloc_new _ _
  have J3 : Hid (Ints (w3.alloc (.cells #[.int .i64 2, .int .i64 1, .int .i64 1, .int .i64 0, .slice a3 1 cap3] 24)) (.slice a3 1 cap3) [0]) := I3.out.below (balloc _ _)
  generalize hW3 : w3.alloc (.cells #[.int .i64 2, .int .i64 1, .int .i64 1, .int .i64 0, .slice a3 1 cap3] 24) = W3 at Q3' X3 J3 ⊢
  clear hW3 Q3 I3 l3 l3' ec0 ec1 ec2 ec3 ec4 et0 et1 et2 et3
  refine (getTsk_any 2 1 1 0 _ [0] tBytes W3 (by decide) Q3'.out.env Q3'.out.ic (by decide)).mono ?_
  rintro e w4 hgot
  obtain ⟨a4, cap4, rfl, iy, g4⟩ := got_tT hgot
  have Q4 : Hid (Bg w w4) := Q3'.out.below g4
  have X4 : Hid (Blk w4 w3.heap.size #[.int .i64 2, .int .i64 1, .int .i64 1, .int .i64 0, .slice a3 1 cap3] 24) := X3.out.below g4
  have J4 : Hid (Ints w4 (.slice a3 1 cap3) [0]) := J3.out.below g4
  have I4 : Hid (Secs w4 (.slice a4 1 cap4) [⟨0, 1, 2⟩]) := iy
  clear hgot iy g4 Q3' X3 J3
  go_wp2_with fail
  have R4 : Hid (Bg2 w w3.heap.size (.slice a3 1 cap3) w4.heap.size (.slice a4 1 cap4) (w4.alloc (.cells #[.int .i64 3, .int .i64 8, .int .i64 10, .slice a4 1 cap4] 34))) :=
    ⟨Q4.out.below (balloc _ _), X4.out.below (balloc _ _), J4.out.below (balloc _ _), heap_alloc_new _ _, I4.out.below (balloc _ _)⟩
  generalize hW4 : w4.alloc (.cells #[.int .i64 3, .int .i64 8, .int .i64 10, .slice a4 1 cap4] 34) = W4 at R4 ⊢
  clear hW4 Q4 X4 J4 I4
  refine (getTsk_any 1 0 0 0 (.slice none 0 0) [] tBytes W4 (by decide) R4.out.bg.env (.inl ⟨rfl, _, _, rfl⟩) (by decide)).mono ?_
  rintro e w5 hgot
  obtain ⟨rfl, g5⟩ := got_no hgot
  have R5 : Hid (Bg2 w w3.heap.size (.slice a3 1 cap3) w4.heap.size (.slice a4 1 cap4) w5) := R4.out.below g5
  clear hgot g5 R4
  go_wp2_with fail
  have R6 : Hid (Bg2 w w3.heap.size (.slice a3 1 cap3) w4.heap.size (.slice a4 1 cap4) (w5.alloc (.cells zTsk 34))) := R5.out.below (balloc _ _)
  generalize hW6 : w5.alloc _ = W6 at R6 ⊢
  clear hW6 R5
  have hsc : cBytes.toList = [99, 111, 114, 101, 115, 32, 50, 32, 115, 121, 110, 99, 115, 32, 49, 32, 108, 97, 103, 32, 49, 32, 109, 111, 118, 101, 32, 48, 32, 114, 101, 115, 32, 48] := by rw [ByteArray.toList_eq]; rfl
  have hst : tBytes.toList = [51, 47, 56, 47, 49, 48, 32, 48, 64, 49, 43, 50] := by rw [ByteArray.toList_eq]; rfl
  refine (T.Begun_any _).mono ?_
  rintro e v7 ⟨rfl, g7⟩
  have R7 : Hid (Bg2 w w3.heap.size (.slice a3 1 cap3) w4.heap.size (.slice a4 1 cap4) v7) := R6.out.below g7
  have h7c0 : v7.cell? ⟨w.heap.size + 1, 0, none⟩ = some (.int .i64 2) := R7.out.bg.bc.cell 0
  have h7c1 : v7.cell? ⟨w.heap.size + 1, 1, none⟩ = some (.int .i64 1) := R7.out.bg.bc.cell 1
  have h7c2 : v7.cell? ⟨w.heap.size + 1, 2, none⟩ = some (.int .i64 1) := R7.out.bg.bc.cell 2
  have h7c3 : v7.cell? ⟨w.heap.size + 1, 3, none⟩ = some (.int .i64 0) := R7.out.bg.bc.cell 3
  have h7c4 : v7.cell? ⟨w.heap.size + 1, 4, none⟩ = some (.slice (some ⟨w.heap.size, 0, none⟩) 1 1) := R7.out.bg.bc.cell 4
  have h7t0 : v7.cell? ⟨w.heap.size + 1 + 1 + 1, 0, none⟩ = some (.int .i64 3) := R7.out.bg.bt.cell 0
  have h7t1 : v7.cell? ⟨w.heap.size + 1 + 1 + 1, 1, none⟩ = some (.int .i64 8) := R7.out.bg.bt.cell 1
  have h7t2 : v7.cell? ⟨w.heap.size + 1 + 1 + 1, 2, none⟩ = some (.int .i64 10) := R7.out.bg.bt.cell 2
  have h7t3 : v7.cell? ⟨w.heap.size + 1 + 1 + 1, 3, none⟩ = some (.slice (some ⟨w.heap.size + 1 + 1, 0, none⟩) 1 1) := R7.out.bg.bt.cell 3
  have h7x0 : v7.cell? ⟨w3.heap.size, 0, none⟩ = some (.int .i64 2) := R7.out.bx.cell 0
  have h7x4 : v7.cell? ⟨w3.heap.size, 4, none⟩ = some (.slice a3 1 cap3) := R7.out.bx.cell 4
  have h7y0 : v7.cell? ⟨w4.heap.size, 0, none⟩ = some (.int .i64 3) := R7.out.by'.cell 0
  have h7y1 : v7.cell? ⟨w4.heap.size, 1, none⟩ = some (.int .i64 8) := R7.out.by'.cell 1
  have h7y2 : v7.cell? ⟨w4.heap.size, 2, none⟩ = some (.int .i64 10) := R7.out.by'.cell 2
  have h7y3 : v7.cell? ⟨w4.heap.size, 3, none⟩ = some (.slice a4 1 cap4) := R7.out.by'.cell 3
  clear g7 R6
  go_wp2_with fail
  refine (rconfig_any 2 1 1 0 _ [0] _ R7.out.bg.ic (by decide)).mono ?_
  rintro e v8 ⟨rfl, g8⟩
  rw [show cfgB ⟨2, 1, 1, 0, [0]⟩ = true from by decide]
  have R8 : Hid (Bg2 w w3.heap.size (.slice a3 1 cap3) w4.heap.size (.slice a4 1 cap4) v8) := R7.out.below g8
  have h8c0 : v8.cell? ⟨w.heap.size + 1, 0, none⟩ = some (.int .i64 2) := R8.out.bg.bc.cell 0
  have h8c1 : v8.cell? ⟨w.heap.size + 1, 1, none⟩ = some (.int .i64 1) := R8.out.bg.bc.cell 1
  have h8c2 : v8.cell? ⟨w.heap.size + 1, 2, none⟩ = some (.int .i64 1) := R8.out.bg.bc.cell 2
  have h8c3 : v8.cell? ⟨w.heap.size + 1, 3, none⟩ = some (.int .i64 0) := R8.out.bg.bc.cell 3
  have h8c4 : v8.cell? ⟨w.heap.size + 1, 4, none⟩ = some (.slice (some ⟨w.heap.size, 0, none⟩) 1 1) := R8.out.bg.bc.cell 4
  have h8t0 : v8.cell? ⟨w.heap.size + 1 + 1 + 1, 0, none⟩ = some (.int .i64 3) := R8.out.bg.bt.cell 0
  have h8t1 : v8.cell? ⟨w.heap.size + 1 + 1 + 1, 1, none⟩ = some (.int .i64 8) := R8.out.bg.bt.cell 1
  have h8t2 : v8.cell? ⟨w.heap.size + 1 + 1 + 1, 2, none⟩ = some (.int .i64 10) := R8.out.bg.bt.cell 2
  have h8t3 : v8.cell? ⟨w.heap.size + 1 + 1 + 1, 3, none⟩ = some (.slice (some ⟨w.heap.size + 1 + 1, 0, none⟩) 1 1) := R8.out.bg.bt.cell 3
  have h8x0 : v8.cell? ⟨w3.heap.size, 0, none⟩ = some (.int .i64 2) := R8.out.bx.cell 0
  have h8x4 : v8.cell? ⟨w3.heap.size, 4, none⟩ = some (.slice a3 1 cap3) := R8.out.bx.cell 4
  have h8y0 : v8.cell? ⟨w4.heap.size, 0, none⟩ = some (.int .i64 3) := R8.out.by'.cell 0
  have h8y1 : v8.cell? ⟨w4.heap.size, 1, none⟩ = some (.int .i64 8) := R8.out.by'.cell 1
  have h8y2 : v8.cell? ⟨w4.heap.size, 2, none⟩ = some (.int .i64 10) := R8.out.by'.cell 2
  have h8y3 : v8.cell? ⟨w4.heap.size, 3, none⟩ = some (.slice a4 1 cap4) := R8.out.by'.cell 3
  clear g8 R7 h7c0 h7c1 h7c2 h7c3 h7c4 h7t0 h7t1 h7t2 h7t3 h7x0 h7x4 h7y0 h7y1 h7y2 h7y3
  go_wp2_with fail
  refine (rtask_any 2 1 1 0 _ [0] 3 8 10 _ [⟨0, 1, 2⟩] _ R8.out.bg.ic (by decide) R8.out.bg.it (by decide)).mono ?_
  rintro e v9 ⟨rfl, g9⟩
  rw [show (cfgB ⟨2, 1, 1, 0, [0]⟩ && tskB (([0] : List Int).length : Int) ⟨3, 8, 10, [⟨0, 1, 2⟩]⟩) = true from by decide]
  have R9 : Hid (Bg2 w w3.heap.size (.slice a3 1 cap3) w4.heap.size (.slice a4 1 cap4) v9) := R8.out.below g9
  have h9c0 : v9.cell? ⟨w.heap.size + 1, 0, none⟩ = some (.int .i64 2) := R9.out.bg.bc.cell 0
  have h9c1 : v9.cell? ⟨w.heap.size + 1, 1, none⟩ = some (.int .i64 1) := R9.out.bg.bc.cell 1
  have h9c2 : v9.cell? ⟨w.heap.size + 1, 2, none⟩ = some (.int .i64 1) := R9.out.bg.bc.cell 2
  have h9c3 : v9.cell? ⟨w.heap.size + 1, 3, none⟩ = some (.int .i64 0) := R9.out.bg.bc.cell 3
  have h9c4 : v9.cell? ⟨w.heap.size + 1, 4, none⟩ = some (.slice (some ⟨w.heap.size, 0, none⟩) 1 1) := R9.out.bg.bc.cell 4
  have h9t0 : v9.cell? ⟨w.heap.size + 1 + 1 + 1, 0, none⟩ = some (.int .i64 3) := R9.out.bg.bt.cell 0
  have h9t1 : v9.cell? ⟨w.heap.size + 1 + 1 + 1, 1, none⟩ = some (.int .i64 8) := R9.out.bg.bt.cell 1
  have h9t2 : v9.cell? ⟨w.heap.size + 1 + 1 + 1, 2, none⟩ = some (.int .i64 10) := R9.out.bg.bt.cell 2
  have h9t3 : v9.cell? ⟨w.heap.size + 1 + 1 + 1, 3, none⟩ = some (.slice (some ⟨w.heap.size + 1 + 1, 0, none⟩) 1 1) := R9.out.bg.bt.cell 3
  have h9x0 : v9.cell? ⟨w3.heap.size, 0, none⟩ = some (.int .i64 2) := R9.out.bx.cell 0
  have h9x4 : v9.cell? ⟨w3.heap.size, 4, none⟩ = some (.slice a3 1 cap3) := R9.out.bx.cell 4
  have h9y0 : v9.cell? ⟨w4.heap.size, 0, none⟩ = some (.int .i64 3) := R9.out.by'.cell 0
  have h9y1 : v9.cell? ⟨w4.heap.size, 1, none⟩ = some (.int .i64 8) := R9.out.by'.cell 1
  have h9y2 : v9.cell? ⟨w4.heap.size, 2, none⟩ = some (.int .i64 10) := R9.out.by'.cell 2
  have h9y3 : v9.cell? ⟨w4.heap.size, 3, none⟩ = some (.slice a4 1 cap4) := R9.out.by'.cell 3
  clear g9 R8 h8c0 h8c1 h8c2 h8c3 h8c4 h8t0 h8t1 h8t2 h8t3 h8x0 h8x4 h8y0 h8y1 h8y2 h8y3
  go_wp2_with fail
  refine (rconfig_any 0 0 0 0 (.slice none 0 0) [] _ (.inl ⟨rfl, _, _, rfl⟩) (by decide)).mono ?_
  rintro e v10 ⟨rfl, g10⟩
  rw [show cfgB ⟨0, 0, 0, 0, []⟩ = false from by decide]
  have R10 : Hid (Bg2 w w3.heap.size (.slice a3 1 cap3) w4.heap.size (.slice a4 1 cap4) v10) := R9.out.below g10
  have h10c0 : v10.cell? ⟨w.heap.size + 1, 0, none⟩ = some (.int .i64 2) := R10.out.bg.bc.cell 0
  have h10c1 : v10.cell? ⟨w.heap.size + 1, 1, none⟩ = some (.int .i64 1) := R10.out.bg.bc.cell 1
  have h10c2 : v10.cell? ⟨w.heap.size + 1, 2, none⟩ = some (.int .i64 1) := R10.out.bg.bc.cell 2
  have h10c3 : v10.cell? ⟨w.heap.size + 1, 3, none⟩ = some (.int .i64 0) := R10.out.bg.bc.cell 3
  have h10c4 : v10.cell? ⟨w.heap.size + 1, 4, none⟩ = some (.slice (some ⟨w.heap.size, 0, none⟩) 1 1) := R10.out.bg.bc.cell 4
  have h10t0 : v10.cell? ⟨w.heap.size + 1 + 1 + 1, 0, none⟩ = some (.int .i64 3) := R10.out.bg.bt.cell 0
  have h10t1 : v10.cell? ⟨w.heap.size + 1 + 1 + 1, 1, none⟩ = some (.int .i64 8) := R10.out.bg.bt.cell 1
  have h10t2 : v10.cell? ⟨w.heap.size + 1 + 1 + 1, 2, none⟩ = some (.int .i64 10) := R10.out.bg.bt.cell 2
  have h10t3 : v10.cell? ⟨w.heap.size + 1 + 1 + 1, 3, none⟩ = some (.slice (some ⟨w.heap.size + 1 + 1, 0, none⟩) 1 1) := R10.out.bg.bt.cell 3
  have h10x0 : v10.cell? ⟨w3.heap.size, 0, none⟩ = some (.int .i64 2) := R10.out.bx.cell 0
  have h10x4 : v10.cell? ⟨w3.heap.size, 4, none⟩ = some (.slice a3 1 cap3) := R10.out.bx.cell 4
  have h10y0 : v10.cell? ⟨w4.heap.size, 0, none⟩ = some (.int .i64 3) := R10.out.by'.cell 0
  have h10y1 : v10.cell? ⟨w4.heap.size, 1, none⟩ = some (.int .i64 8) := R10.out.by'.cell 1
  have h10y2 : v10.cell? ⟨w4.heap.size, 2, none⟩ = some (.int .i64 10) := R10.out.by'.cell 2
  have h10y3 : v10.cell? ⟨w4.heap.size, 3, none⟩ = some (.slice a4 1 cap4) := R10.out.by'.cell 3
  clear g10 R9 h9c0 h9c1 h9c2 h9c3 h9c4 h9t0 h9t1 h9t2 h9t3 h9x0 h9x4 h9y0 h9y1 h9y2 h9y3
  go_wp2_with fail
  refine (same_any 3 8 10 3 8 10 _ _ [⟨0, 1, 2⟩] [⟨0, 1, 2⟩] _ R10.out.iy R10.out.bg.it (by decide) (by decide)).mono ?_
  rintro e v11 ⟨rfl, g11⟩
  rw [show decide ((⟨3, 8, 10, [⟨0, 1, 2⟩]⟩ : Tsk) = ⟨3, 8, 10, [⟨0, 1, 2⟩]⟩) = true from by decide]
  have R11 : Hid (Bg2 w w3.heap.size (.slice a3 1 cap3) w4.heap.size (.slice a4 1 cap4) v11) := R10.out.below g11
  have h11c0 : v11.cell? ⟨w.heap.size + 1, 0, none⟩ = some (.int .i64 2) := R11.out.bg.bc.cell 0
  have h11c1 : v11.cell? ⟨w.heap.size + 1, 1, none⟩ = some (.int .i64 1) := R11.out.bg.bc.cell 1
  have h11c2 : v11.cell? ⟨w.heap.size + 1, 2, none⟩ = some (.int .i64 1) := R11.out.bg.bc.cell 2
  have h11c3 : v11.cell? ⟨w.heap.size + 1, 3, none⟩ = some (.int .i64 0) := R11.out.bg.bc.cell 3
  have h11c4 : v11.cell? ⟨w.heap.size + 1, 4, none⟩ = some (.slice (some ⟨w.heap.size, 0, none⟩) 1 1) := R11.out.bg.bc.cell 4
  have h11t0 : v11.cell? ⟨w.heap.size + 1 + 1 + 1, 0, none⟩ = some (.int .i64 3) := R11.out.bg.bt.cell 0
  have h11t1 : v11.cell? ⟨w.heap.size + 1 + 1 + 1, 1, none⟩ = some (.int .i64 8) := R11.out.bg.bt.cell 1
  have h11t2 : v11.cell? ⟨w.heap.size + 1 + 1 + 1, 2, none⟩ = some (.int .i64 10) := R11.out.bg.bt.cell 2
  have h11t3 : v11.cell? ⟨w.heap.size + 1 + 1 + 1, 3, none⟩ = some (.slice (some ⟨w.heap.size + 1 + 1, 0, none⟩) 1 1) := R11.out.bg.bt.cell 3
  have h11x0 : v11.cell? ⟨w3.heap.size, 0, none⟩ = some (.int .i64 2) := R11.out.bx.cell 0
  have h11x4 : v11.cell? ⟨w3.heap.size, 4, none⟩ = some (.slice a3 1 cap3) := R11.out.bx.cell 4
  have h11y0 : v11.cell? ⟨w4.heap.size, 0, none⟩ = some (.int .i64 3) := R11.out.by'.cell 0
  have h11y1 : v11.cell? ⟨w4.heap.size, 1, none⟩ = some (.int .i64 8) := R11.out.by'.cell 1
  have h11y2 : v11.cell? ⟨w4.heap.size, 2, none⟩ = some (.int .i64 10) := R11.out.by'.cell 2
  have h11y3 : v11.cell? ⟨w4.heap.size, 3, none⟩ = some (.slice a4 1 cap4) := R11.out.by'.cell 3
  clear g11 R10 h10c0 h10c1 h10c2 h10c3 h10c4 h10t0 h10t1 h10t2 h10t3 h10x0 h10x4 h10y0 h10y1 h10y2 h10y3
  go_wp2_with fail
  refine (load_any 1 1 1 _).mono ?_
  rintro e v12 ⟨rfl, g12⟩
  rw [show loadB 1 1 1 = true from by decide]
  have R12 : Hid (Bg2 w w3.heap.size (.slice a3 1 cap3) w4.heap.size (.slice a4 1 cap4) v12) := R11.out.below g12
  have h12c0 : v12.cell? ⟨w.heap.size + 1, 0, none⟩ = some (.int .i64 2) := R12.out.bg.bc.cell 0
  have h12c1 : v12.cell? ⟨w.heap.size + 1, 1, none⟩ = some (.int .i64 1) := R12.out.bg.bc.cell 1
  have h12c2 : v12.cell? ⟨w.heap.size + 1, 2, none⟩ = some (.int .i64 1) := R12.out.bg.bc.cell 2
  have h12c3 : v12.cell? ⟨w.heap.size + 1, 3, none⟩ = some (.int .i64 0) := R12.out.bg.bc.cell 3
  have h12c4 : v12.cell? ⟨w.heap.size + 1, 4, none⟩ = some (.slice (some ⟨w.heap.size, 0, none⟩) 1 1) := R12.out.bg.bc.cell 4
  have h12t0 : v12.cell? ⟨w.heap.size + 1 + 1 + 1, 0, none⟩ = some (.int .i64 3) := R12.out.bg.bt.cell 0
  have h12t1 : v12.cell? ⟨w.heap.size + 1 + 1 + 1, 1, none⟩ = some (.int .i64 8) := R12.out.bg.bt.cell 1
  have h12t2 : v12.cell? ⟨w.heap.size + 1 + 1 + 1, 2, none⟩ = some (.int .i64 10) := R12.out.bg.bt.cell 2
  have h12t3 : v12.cell? ⟨w.heap.size + 1 + 1 + 1, 3, none⟩ = some (.slice (some ⟨w.heap.size + 1 + 1, 0, none⟩) 1 1) := R12.out.bg.bt.cell 3
  have h12x0 : v12.cell? ⟨w3.heap.size, 0, none⟩ = some (.int .i64 2) := R12.out.bx.cell 0
  have h12x4 : v12.cell? ⟨w3.heap.size, 4, none⟩ = some (.slice a3 1 cap3) := R12.out.bx.cell 4
  have h12y0 : v12.cell? ⟨w4.heap.size, 0, none⟩ = some (.int .i64 3) := R12.out.by'.cell 0
  have h12y1 : v12.cell? ⟨w4.heap.size, 1, none⟩ = some (.int .i64 8) := R12.out.by'.cell 1
  have h12y2 : v12.cell? ⟨w4.heap.size, 2, none⟩ = some (.int .i64 10) := R12.out.by'.cell 2
  have h12y3 : v12.cell? ⟨w4.heap.size, 3, none⟩ = some (.slice a4 1 cap4) := R12.out.by'.cell 3
  clear g12 R11 h11c0 h11c1 h11c2 h11c3 h11c4 h11t0 h11t1 h11t2 h11t3 h11x0 h11x4 h11y0 h11y1 h11y2 h11y3
  go_wp2_with fail
  refine (piece_any 2 1 1 0 _ _ _ 1 0 3 3 _).mono ?_
  rintro e v13 ⟨rfl, g13⟩
  rw [show pieceB 2 1 0 3 3 = true from by decide]
  have R13 : Hid (Bg2 w w3.heap.size (.slice a3 1 cap3) w4.heap.size (.slice a4 1 cap4) v13) := R12.out.below g13
  have h13c0 : v13.cell? ⟨w.heap.size + 1, 0, none⟩ = some (.int .i64 2) := R13.out.bg.bc.cell 0
  have h13c1 : v13.cell? ⟨w.heap.size + 1, 1, none⟩ = some (.int .i64 1) := R13.out.bg.bc.cell 1
  have h13c2 : v13.cell? ⟨w.heap.size + 1, 2, none⟩ = some (.int .i64 1) := R13.out.bg.bc.cell 2
  have h13c3 : v13.cell? ⟨w.heap.size + 1, 3, none⟩ = some (.int .i64 0) := R13.out.bg.bc.cell 3
  have h13c4 : v13.cell? ⟨w.heap.size + 1, 4, none⟩ = some (.slice (some ⟨w.heap.size, 0, none⟩) 1 1) := R13.out.bg.bc.cell 4
  have h13t0 : v13.cell? ⟨w.heap.size + 1 + 1 + 1, 0, none⟩ = some (.int .i64 3) := R13.out.bg.bt.cell 0
  have h13t1 : v13.cell? ⟨w.heap.size + 1 + 1 + 1, 1, none⟩ = some (.int .i64 8) := R13.out.bg.bt.cell 1
  have h13t2 : v13.cell? ⟨w.heap.size + 1 + 1 + 1, 2, none⟩ = some (.int .i64 10) := R13.out.bg.bt.cell 2
  have h13t3 : v13.cell? ⟨w.heap.size + 1 + 1 + 1, 3, none⟩ = some (.slice (some ⟨w.heap.size + 1 + 1, 0, none⟩) 1 1) := R13.out.bg.bt.cell 3
  have h13x0 : v13.cell? ⟨w3.heap.size, 0, none⟩ = some (.int .i64 2) := R13.out.bx.cell 0
  have h13x4 : v13.cell? ⟨w3.heap.size, 4, none⟩ = some (.slice a3 1 cap3) := R13.out.bx.cell 4
  have h13y0 : v13.cell? ⟨w4.heap.size, 0, none⟩ = some (.int .i64 3) := R13.out.by'.cell 0
  have h13y1 : v13.cell? ⟨w4.heap.size, 1, none⟩ = some (.int .i64 8) := R13.out.by'.cell 1
  have h13y2 : v13.cell? ⟨w4.heap.size, 2, none⟩ = some (.int .i64 10) := R13.out.by'.cell 2
  have h13y3 : v13.cell? ⟨w4.heap.size, 3, none⟩ = some (.slice a4 1 cap4) := R13.out.by'.cell 3
  clear g13 R12 h12c0 h12c1 h12c2 h12c3 h12c4 h12t0 h12t1 h12t2 h12t3 h12x0 h12x4 h12y0 h12y1 h12y2 h12y3
  go_wp2_with fail
  refine (ragents_any 2 1 1 0 _ [0] 3 8 10 _ [⟨0, 1, 2⟩] _ R13.out.bg.ic (by decide) R13.out.bg.it (by decide)).mono ?_
  rintro e v14 ⟨q, rfl, iq, g14⟩
  rw [show agentsL ⟨2, 1, 1, 0, [0]⟩ ⟨3, 8, 10, [⟨0, 1, 2⟩]⟩ = [0] from agents_cC] at iq
  obtain ⟨aq, capq, rfl⟩ := iq.form
  have BB : Hid (Below w.heap.size w v14) := btrans R13.out.bg.bel g14
  clear iq g14 R13 h13c0 h13c1 h13c2 h13c3 h13c4 h13t0 h13t1 h13t2 h13t3 h13x0 h13x4 h13y0 h13y1 h13y2 h13y3
  go_wp2_with fail
  go_ret
  exact ⟨rfl, BB.out⟩
end Go.Proofs.YtakdliecjfeedaaGreatDoor
