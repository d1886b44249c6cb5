/-
PROVED: the statement hortatorlaw12.LoadShare answers true over the landed packages: how much of a core is asked; what fits asks no more than all of it, but for what was rounded.
  CONDITIONS: the listed variables of strconv and math/bits hold what the program's text lays (the card ties them).
-/
import Derived.Test.YtakdliecjfeedaaGreatDoorRows
import Derived.Test.YtakdliecjfeedaaGreatDoorTie
import Derived.Test.YtakdliecjfeedaaGreatDoorCards
import Derived.WalkKit
import Derived.ProofKit
import Derived.OpenShut
import Derived.ShutString
import Derived.ChangeOld
import Derived.Below
import Derived.SevenTiedAt
import Derived.Test.YtakdliecjfeedaaGreatDoorLaid
import Derived.Test.YtakdliecjfeedaaGreatDoorHead
import Derived.Carry
import Derived.Deep.Cut
import Derived.Deep.CutRange
import Derived.Deep.RegionWith
import Derived.Deep.RegionHeld3
import Derived.Deep.LoopGhost
import Derived.Deep.QuietTactic
import Derived.BigQuiet
import Derived.Test.YtakdliecjfeedaaGreatDoorLShare
import Derived.Test.YtakdliecjfeedaaGreatDoorROver
import Derived.Test.YtakdliecjfeedaaGreatDoorArgs9J
import Derived.Test.YtakdliecjfeedaaGreatDoorBegun12
namespace Go.Proofs.YtakdliecjfeedaaGreatDoor.loadShare
open Go.ChangeShapes Go.WideShapes Go.ChangeAt Go.RowKit
open Go.ChangeMaps (open_string shut_string)
set_option linter.unusedVariables false

theorem own : ownKnob Tryz.prog.godebug = none := by kernel_rfl
theorem laidOut : laidOutB Tryz.prog = true := by kernel_rfl

set_option maxHeartbeats 8000000 in
set_option maxRecDepth 100000 in
theorem walk (s0 : Option Addr) (n0 m0 : Nat) (z0 : List Sec) (w : World) (hE : Env w) (w0 : ALds w s0 n0 m0 z0) :
    Calls Tryz.prog 6 #[.slice s0 n0 m0] w fun e w' => e = .returned (.bool true) ∧ Below w.heap.size w w' := by
  have HE : Hid (Env w) := hE
  have HA : Hid (ALds w s0 n0 m0 z0) := w0
  clear hE w0
  go_enter Tryz.func6, Tryz.ntmps6
  go_wp2_with fail
  refine (begun12_any w HE.out).mono ?_
  rintro e v1 ⟨rfl, g1⟩
  have G1 : Hid (Below w.heap.size w v1) := g1
  clear g1
  go_wp2_with fail
  refine (lloads_at s0 n0 m0 z0 w _ G1.out HA.out).mono ?_
  rintro e v2 ⟨a, n, cap, l, rfl, hl, n10, c2, g2⟩
  have G2 : Hid (Below w.heap.size w v2) := g2
  have C2 : Hid (Cop9 v2 w.heap.size a n cap l) := c2
  have HLn : Hid (l.length = n) := c2.len
  have HL : Hid (l.length ≤ 1000000) := by have := c2.len; show _ ≤ _; omega
  clear g2 hl c2
  go_wp2_with fail
  refine (rloads_any _ l _ C2.out.sec HL.out).mono ?_
  rintro e v3 ⟨rfl, g3⟩
  have G3 : Hid (Below w.heap.size w v3) := btrans G2.out g3
  have C3 : Hid (Cop9 v3 w.heap.size a n cap l) := C2.out.below g3
  clear g3 G2 C2 G1
  cases hl : ldsB l
  · clear hl
    go_wp2_with fail
    go_ret
    exact ⟨rfl, G3.out⟩
  · have HB : Hid (ldsB l = true) := hl
    clear hl
    go_wp2_with fail
    go_loopw [4, 5] (fun x i wr => ∃ k : Nat, k ≤ n ∧ i = .int .i64 k ∧ x = .int .i64 (shareL (l.take k)) ∧ Hid (Below w.heap.size w wr) ∧ Hid (Cop9 wr w.heap.size a n cap l)) (fun _ i _ => n - (intOf i).toNat)
    case atStart => exact ⟨0, Nat.zero_le _, rfl, by simp [shareL], G3.out, C3.out⟩
    case round =>
      obtain ⟨k, hk, rfl, rfl, hG, hC⟩ := hrel
      have Y : Hid (0 ≤ shareL (l.take k) ∧ shareL (l.take k) ≤ 200000000 * 10) := by
        have h := shareL_bd (l := l.take k) (fun s hs => ldsB_all HB.out s (List.mem_of_mem_take hs))
        have h2 : (l.take k).length ≤ 10 := by rw [List.length_take]; omega
        unfold Hid
        omega
      obtain ⟨Y0, Y1⟩ := Y.out
      by_cases hlt : k < n
      · obtain ⟨⟨c, d, t⟩, hx⟩ : ∃ x, l[k]? = some x := ⟨_, List.getElem?_eq_getElem (by rw [HLn.out]; exact hlt)⟩
        have HX : Hid (l[k]? = some ⟨c, d, t⟩) := hx
        obtain ⟨⟨l1, l2⟩, ⟨l3, l4⟩, -⟩ := ldB_iff.1 (ldsB_all HB.out _ (List.mem_of_getElem? hx))
        simp only at l1 l2 l3 l4
        have HS := shareL_take hx
        simp only at HS
        obtain ⟨Z, hZ⟩ : ∃ Z, shareL (l.take k) = Z := ⟨_, rfl⟩
        rw [hZ] at HS Y0 Y1 ⊢
        have HSS : Hid (shareL (l.take (k + 1)) = Z + shareF c t) := HS
        have hb := share_bd l1 l2 l3
        obtain ⟨S, hS⟩ : ∃ S, shareF c t = S := ⟨_, rfl⟩
        have HSF : Hid (shareF c t = S) := hS
        rw [hS] at hb HSS
        unfold shareF at hS
        obtain ⟨b0, b1⟩ := hb
        obtain ⟨b, e, hbl, x0, x1, x2⟩ := secs_at hC.out.sec hx
        subst e
        simp only at x0 x1 x2
        have q0 : (0 : Int) ≤ (k : Int) := by omega
        have q1 : (k : Int) < (n : Int) := by omega
        have e0 : ¬ t = 0 := by omega
        have e1 : (c * 10000 + t - 1).tdiv t = S := by rw [Int.tdiv_eq_ediv_of_nonneg (by omega)]; exact hS
        have W1 : IntKind.i64.wrap (c * 10000) = c * 10000 := IntWalk.i64_in _ (by omega)
        have W2 : IntKind.i64.wrap (c * 10000 + t) = c * 10000 + t := IntWalk.i64_in _ (by omega)
        have W3 : IntKind.i64.wrap (c * 10000 + t - 1) = c * 10000 + t - 1 := IntWalk.i64_in _ (by omega)
        have W4 : IntKind.i64.wrap S = S := IntWalk.i64_in _ (by omega)
        have W5 : IntKind.i64.wrap (Z + S) = Z + S := IntWalk.i64_in _ (by omega)
        clear hx HS hZ hS Y HSF
        go_wp2_with fail
        go_big_quiet (fail)
        go_wp2_with fail
        go_round
        case rel => exact ⟨k + 1, by omega, by go_num, by rw [HSS.out], hG.out.trans (by first | exact bdrew _ | exact bdrewN _ _ | exact (bdrewN _ _).mono hG.out.size), hC.out.below (by first | exact bdrew _ | exact bdrewN _ _)⟩
        case measure => simp [intOf]; omega
      · have e : l.take k = l := List.take_of_length_le (by have := HLn.out; omega)
        rw [e] at Y0 Y1 ⊢
        have HSf : Hid (shareL l ≤ 10000 + l.length ∨ fitB l = false) := by
          cases hf : fitB l
          · exact .inr rfl
          · exact .inl (share_fit hf)
        rw [HLn.out] at HSf
        clear e Y
        go_wp2_with fail
        refine (share_any _ l _ hC.out.sec (ldsB_len HB.out) (ldsB_all HB.out)).mono ?_
        rintro e v5 ⟨rfl, g5⟩
        have G5 : Hid (Below w.heap.size w v5) := btrans hG.out g5
        have C5 : Hid (Cop9 v5 w.heap.size a n cap l) := hC.out.below g5
        clear g5
        generalize shareL l = Z at HSf Y0 Y1 ⊢
        go_wp2_with fail
        refine (rfits_any _ l _ C5.out.sec HL.out).mono ?_
        rintro e v6 ⟨rfl, g6⟩
        have G6 : Hid (Below w.heap.size w v6) := btrans G5.out g6
        clear g6 G5 C5
        cases hf : fitB l
        · go_wp2_with fail
          go_ret
          exact ⟨by simp, G6.out⟩
        · have h2 : Z ≤ 10000 + (n : Int) := by
            rcases HSf.out with h | h
            · exact h
            · rw [hf] at h; cases h
          have W6 : IntKind.i64.wrap (10000 + (n : Int)) = 10000 + (n : Int) := IntWalk.i64_in _ (by omega)
          go_wp2_with fail
          go_ret
          exact ⟨ret_bool (by simp; try omega), G6.out⟩

set_option maxRecDepth 100000 in
theorem lifted (os : Os) (started : os.Started) (H : Type) (enc : TypeId × Value → H) :
    ReturnsInHanded {} Tryz.checked os 6 .any (fun w args => (Rows.loadShareSpec.pre enc Tryz.prog Tryz.f6 [] false w args ∧ laidMetH Tryz.prog laid5 w) ∧ sizedMet enc Tryz.prog Tryz.f6 (OpenSpec.ofChange Rows.loadShareSpec) false w args)
      (Rows.loadShareSpec.post enc Tryz.prog Tryz.f6 false true false false) := by
  refine returnsInHanded_of_change_and (C := Tryz.checked) (X := fun w _ => laidMetH Tryz.prog laid5 w) (fun _ _ _ hh h => h.of_heap hh) own started (by kernel_rfl) Tryz.func6
    (ChangeSpec.witness_shaped (enc := enc) (C := Tryz.checked) (os := os) (X := fun w _ => laidMetH Tryz.prog laid5 w) false (World.doorLaid Tryz.prog 62 os) #[.slice none 0 0] 8 rfl (World.shaped_of_RefB (by kernel_rfl) (by kernel_rfl)) (by kernel_rfl) (by kernel_rfl) (by kernel_rfl) (door_met os _)) ?_
  intro W base args ds gs before hval0 hW _ _ hL _
  have hval : ∀ (j : Nat) t v, Tryz.f6.params[j]? = some t → args[j]? = some v → Value.okWide Tryz.prog W .any base t v := hval0
  have hW' := hW
  obtain ⟨p, q, hA0, hV, rfl, hfz, hnd⟩ := hW
  have hA : DataW.TrodAll enc Tryz.prog W 0 (fun _ => true) true Tryz.f6.params.toList args.toList ds p := hA0
  rw [Tryz.params6] at hA hval
  obtain ⟨v0, vs0, d0, ds0, p0, q0, hargs, rfl, rfl, h0, r0⟩ := trodAll_cons hA
  obtain ⟨rfl, rfl, rfl⟩ := trodAll_nil r0
  obtain rfl : args = #[v0] := by cases args; simp_all
  obtain ⟨rfl, rfl⟩ := trodVars_none hV
  obtain ⟨s0, n0, m0, rfl⟩ := okWide_slice Tryz.underlying51 (hval 0 51 v0 rfl rfl)
  have k0 := h0
  have lt0 : ∀ x ∈ p0, x.block < W.heap.size := by obtain ⟨m, hm⟩ := k0; exact DataW.trod_lt m _ _ _ hm
  obtain ⟨z0, w0⟩ := (by obtain ⟨fuel, hf⟩ := h0; exact open_loads hf : ∃ zs, ALds W s0 n0 m0 zs)
  clear hA0 hval0
  simp only [List.append_nil] at hW'
  refine (walk s0 n0 m0 z0 W (env_of_laid hL) w0).mono fun e W' ⟨he, bel⟩ => ?_
  subst he
  exact ⟨_, rfl, _, _, _, [], _, [], hW', trodAll_mk1 (shut_bool Tryz.underlying4 _), (trodAll_cons_mk (Below.trod laidOut (by kernel_rfl) (of_decide_eq_true (by kernel_rfl)) k0 bel lt0) trodAll_mk0), rfl, bel.frame _, fun h => by cases h⟩

theorem closed : joinedFacts Tryz.pinned.checked.prog 6 Tryz.f6 Rows.loadShareSpec Rows.loadShareRow = true := by
  generalize hP : Tryz.pinned.checked.prog = P
  simp only [joinedFacts, Bool.and_eq_true]
  subst hP
  refine ⟨⟨⟨⟨⟨⟨⟨⟨⟨⟨⟨⟨⟨⟨⟨⟨⟨⟨⟨⟨⟨⟨⟨⟨⟨⟨⟨⟨⟨⟨⟨?k1, ?k2⟩, ?k3⟩, ?k4⟩, ?k5⟩, ?k6⟩, ?k7⟩, ?k8⟩, ?k9⟩, ?k10⟩, ?k11⟩, ?k12⟩, ?k13⟩, ?k14⟩, ?k15⟩, ?k16⟩, ?k17⟩, ?k18⟩, ?k19⟩, ?k20⟩, ?k21⟩, ?k22⟩, ?k23⟩, ?k24⟩, ?k25⟩, ?k26⟩, ?k27⟩, ?k28⟩, ?k29⟩, ?k30⟩, ?k31⟩, ?k32⟩
  case k26 => exact head_enter
  case k27 => show (false == Tryz.prog.liftsFinal) = true; rw [head_lifts]; rfl
  case k28 => exact head_make
  all_goals kernel_rfl
theorem over : Rows.loadShareRow.holds Tryz.pinned (OpenSpec.ofChange Rows.loadShareSpec) :=
  OpenClaim.holds_of_wide 6 Tryz.f6 rfl rfl rfl rfl rfl rfl rfl ⟨rfl, rfl, rfl, rfl, rfl⟩ rfl rfl rfl rfl rfl (by kernel_rfl) Tryz.func6 closed
    (of_decide_eq_true (by kernel_rfl)) (by unfold Func.isWrapper; first | (rw [if_pos (by decide +kernel)]; kernel_rfl) | (rw [if_neg (by decide +kernel)]; exact ⟨rfl, rfl⟩))
    (fun os started H enc _ => lifted os started H enc)

theorem proved : Rows.LoadShareCardSaid :=
  Claim7.holds_tied_plain_at .later [] [.data, .data, .data, .sentinel, .sentinel] true (true, "4ddcd03471c152e483e2d1372070b2dd351fc06eba3ed385e3ebe4df4fc3b5c0") true
    over (fun _ h => by cases h) (by kernel_rfl) (fun _ h => by cases h) loadShare_row_tie rfl ⟨rfl, rfl⟩ head_main rfl
    (fun f fn hf hfn => by
      obtain rfl : f = 6 := Option.some.inj ((show Tryz.prog.funcNamed "hortator/hortatorlaw12.LoadShare" = some 6 by kernel_rfl).symm.trans hf) |>.symm
      obtain rfl : fn = Tryz.f6 := (Option.some.inj (Tryz.func6.symm.trans hfn)).symm
      exact ⟨by kernel_rfl, fun j t ht => by
        rw [Tryz.params6] at ht
        match j, ht with
        | 0, ht => obtain rfl : t = 51 := by simpa using ht.symm
                   exact (show Tryz.prog.wantsStandIn 51 = false by kernel_rfl)
        | (_ + 1), ht => simp at ht⟩)
    (by kernel_rfl)
end Go.Proofs.YtakdliecjfeedaaGreatDoor.loadShare
