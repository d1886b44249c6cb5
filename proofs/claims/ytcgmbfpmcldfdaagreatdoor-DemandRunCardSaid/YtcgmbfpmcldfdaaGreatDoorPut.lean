/- The contracts of note.number and note.PutConfig. -/
import Derived.Test.YtcgmbfpmcldfdaaGreatDoorGetT
import Derived.Deep.QuietTactic
import Derived.BigQuiet
import Derived.Deep.RegionHeld3
import Derived.Laws.Concat
namespace Go.Proofs.YtcgmbfpmcldfdaaGreatDoor
open Go Go.RowKit

theorem below_grow7 (w : World) (k : Nat) (os : Array Obj) : Below w.heap.size w (Sort.grow (w.drewN k) os) :=
  ⟨rfl, rfl, rfl, by show w.heap.size ≤ (w.heap ++ os).size; rw [Array.size_append]; omega, fun j hj => by show (w.heap ++ os)[j]? = w.heap[j]?; exact Array.getElem?_append_left hj⟩
theorem dec_len {x : Int} (h : x < 100000) : (dec x).length ≤ 5 := by
  unfold dec
  have h2 : x.toNat < 100000 := by omega
  generalize x.toNat = u at h2
  rw [Lib.decDigits_length]
  by_cases a1 : u < 10
  · rw [Lib.nDigits_small a1]; omega
  rw [Lib.nDigits_big a1]
  by_cases a2 : u / 10 < 10
  · rw [Lib.nDigits_small a2]; omega
  rw [Lib.nDigits_big a2]
  by_cases a3 : u / 10 / 10 < 10
  · rw [Lib.nDigits_small a3]; omega
  rw [Lib.nDigits_big a3]
  by_cases a4 : u / 10 / 10 / 10 < 10
  · rw [Lib.nDigits_small a4]; omega
  rw [Lib.nDigits_big a4, Lib.nDigits_small (by omega)]
  omega
theorem num_small (x : Int) (h0 : 0 ≤ x) (h1 : x < 100) (w : World) :
    Calls Tryz.prog 42 #[.int .i64 x] w fun e w' => e = .returned (.string ⟨(dec x).toArray⟩) ∧ w' = w := by
  obtain ⟨n, rfl⟩ : ∃ n : Nat, x = n := ⟨x.toNat, by omega⟩
  have HD : Hid (dec (n : Int) = Lib.decDigits n) := by unfold Hid dec; rw [Int.toNat_natCast]
  rw [HD.out]
  clear HD
  have hn : n < 100 := by omega
  go_enter Tryz.func42, Tryz.ntmps42
  go_wp2_with (go_at_call 58; refine (Tryz.strconv_FormatInt_10_small n hn _).mono ?_; rintro e w' ⟨rfl, rfl⟩)
  go_ret
  exact ⟨rfl, rfl⟩
theorem num_any (x : Int) (h0 : 0 ≤ x) (h1 : x < 100000) (w : World) (hE : Env w) :
    Calls Tryz.prog 42 #[.int .i64 x] w fun e w' => e = .returned (.string ⟨(dec x).toArray⟩) ∧ Below w.heap.size w w' := by
  have HD : Hid (Lib.itoa x = dec x) := by unfold Hid dec Lib.itoa; rw [if_neg (by omega)]
  have HT : Hid (Env w) := hE
  clear hE
  go_enter Tryz.func42, Tryz.ntmps42
  go_wp2_with fail
  refine (Tryz.strconv_FormatInt_10 x (by omega) (by omega) _ HT.out.2.2.2).mono ?_
  rintro e w' ⟨rfl, k, os, rfl⟩
  rw [HD.out]
  have G : Hid (Below w.heap.size w (Sort.grow (w.drewN k) os)) := below_grow7 _ _ _
  generalize Sort.grow (w.drewN k) os = w2 at G ⊢
  go_wp2_with fail
  go_ret
  exact ⟨rfl, G.out⟩

def putCfgL (c : Cfg) : List UInt8 := if cfgB c then putCfgT c else []
def putTskL (t : Tsk) : List UInt8 := if tskB 6 t then putTskT t else []
theorem app_list (a b : ByteArray) : (a ++ b).data.toList = a.data.toList ++ b.data.toList := by simp
theorem resT_take {l : List Int} {k : Nat} {x : Int} (h : l[k]? = some x) : resT (l.take (k + 1)) = resT (l.take k) ++ (32 :: dec x) := by
  obtain ⟨hk, rfl⟩ := List.getElem?_eq_some_iff.1 h
  rw [List.take_succ_eq_append_getElem hk]
  simp only [resT, List.flatMap_append, List.flatMap_cons, List.flatMap_nil, List.append_nil]

set_option maxHeartbeats 4000000 in
set_option maxRecDepth 100000 in
theorem putCfg_any (co sy la mo : Int) (v : Value) (l : List Int) (w : World) (hv : Ints w v l) (hl : l.length ≤ 1000000) :
    Calls Tryz.prog 27 #[.agg #[.int .i64 co, .int .i64 sy, .int .i64 la, .int .i64 mo, v]] w fun e w' => ∃ t, e = .returned (.string t) ∧ t.data.toList = putCfgL ⟨co, sy, la, mo, l⟩ ∧ Below w.heap.size w w' := by
  have hx := hv.below (balloc w (.cells #[.int .i64 co, .int .i64 sy, .int .i64 la, .int .i64 mo, v] 43))
  obtain ⟨a, cap, rfl⟩ := hv.form
  clear hv
  have HV : Hid (Ints (w.alloc (.cells #[.int .i64 co, .int .i64 sy, .int .i64 la, .int .i64 mo, .slice a l.length cap] 43)) (.slice a l.length cap) l) := hx
  have HB : Hid (Below w.heap.size w (w.alloc (.cells #[.int .i64 co, .int .i64 sy, .int .i64 la, .int .i64 mo, .slice a l.length cap] 43))) := balloc _ _
  have HK : Hid (Blk (w.alloc (.cells #[.int .i64 co, .int .i64 sy, .int .i64 la, .int .i64 mo, .slice a l.length cap] 43)) w.heap.size #[.int .i64 co, .int .i64 sy, .int .i64 la, .int .i64 mo, .slice a l.length cap] 43) := heap_alloc_new _ _
  clear hx
  go_enter Tryz.func27, Tryz.ntmps27
  go_wp2_with fail
  refine (rconfig_any co sy la mo _ l _ HV.out hl).mono ?_
  rintro e w1 ⟨rfl, g1⟩
  have V1 : Hid (Ints w1 (.slice a l.length cap) l) := HV.out.below g1
  have B1 : Hid (Below w.heap.size w w1) := btrans HB.out g1
  have k1 := HK.out.below g1
  have c0 : w1.cell? ⟨w.heap.size, 0, none⟩ = some (.int .i64 co) := k1.cell 0
  have c1 : w1.cell? ⟨w.heap.size, 1, none⟩ = some (.int .i64 sy) := k1.cell 1
  have c2 : w1.cell? ⟨w.heap.size, 2, none⟩ = some (.int .i64 la) := k1.cell 2
  have c3 : w1.cell? ⟨w.heap.size, 3, none⟩ = some (.int .i64 mo) := k1.cell 3
  have c4 : w1.cell? ⟨w.heap.size, 4, none⟩ = some (.slice a l.length cap) := k1.cell 4
  have l1 := k1.lt
  clear g1 k1 HV HB HK
  cases hb : cfgB ⟨co, sy, la, mo, l⟩
  · go_wp2_with fail
    go_ret
    exact ⟨_, rfl, by unfold putCfgL; rw [hb]; rfl, B1.out⟩
  · obtain ⟨n1, n2, n3, n4, n5, n6⟩ := cfgB_iff.1 hb
    have N6 : Hid (∀ x ∈ l, 0 ≤ x ∧ x < sy) := n6
    have HP : Hid (putCfgL ⟨co, sy, la, mo, l⟩ = putCfgT ⟨co, sy, la, mo, l⟩) := by unfold Hid putCfgL; rw [hb]; rfl
    simp only at n1 n2 n3 n4 n5
    obtain ⟨n11, n12⟩ := n1
    obtain ⟨n21, n22⟩ := n2
    obtain ⟨n31, n32⟩ := n3
    obtain ⟨n41, n42⟩ := n4
    clear n6 hb
    have z1 := dec_len (x := co) (by omega)
    have z2 := dec_len (x := sy) (by omega)
    have z3 := dec_len (x := la) (by omega)
    have z4 := dec_len (x := mo) (by omega)
    go_wp2_with fail
    go_quiet ((go_at_call 42; exact Calls.quiet_of_same (num_small _ (by omega) (by omega) _)))
    generalize hW2 : w1.drewN _ = W2
    have g2 : Below w1.heap.size w1 W2 := by rw [← hW2]; exact ⟨rfl, rfl, rfl, Nat.le_refl _, fun _ _ => rfl⟩
    have B2 : Hid (Below w.heap.size w W2) := btrans B1.out g2
    have V2 : Hid (Ints W2 (.slice a l.length cap) l) := V1.out.below g2
    have c4' : W2.cell? ⟨w.heap.size, 4, none⟩ = some (.slice a l.length cap) := (g2.cell (p := ⟨w.heap.size, 4, none⟩) l1).trans c4
    clear hW2 g2 B1 V1 c0 c1 c2 c3 c4 l1
    generalize hT : ((((((((⟨#[99, 111, 114, 101, 115, 32]⟩ : ByteArray) ++ (⟨(dec co).toArray⟩ : ByteArray)) ++ (⟨#[32, 115, 121, 110, 99, 115, 32]⟩ : ByteArray)) ++ (⟨(dec sy).toArray⟩ : ByteArray)) ++ (⟨#[32, 108, 97, 103, 32]⟩ : ByteArray)) ++ (⟨(dec la).toArray⟩ : ByteArray)) ++ (⟨#[32, 109, 111, 118, 101, 32]⟩ : ByteArray)) ++ (⟨(dec mo).toArray⟩ : ByteArray)) = T
    have HT : Hid (T.data.toList = kCores ++ (dec co ++ (kSyncs ++ (dec sy ++ (kLag ++ (dec la ++ (kMove ++ dec mo))))))) := by
      unfold Hid
      rw [← hT]
      simp [kCores, kSyncs, kLag, kMove]
    have hTs : T.size ≤ 100 := by
      rw [← size_len, HT.out]
      simp [kCores, kSyncs, kLag, kMove]
      omega
    have HF : Hid (putCfgT ⟨co, sy, la, mo, l⟩ = T.data.toList ++ resTT l) := by
      unfold Hid putCfgT
      rw [HT.out]
      simp only [List.append_assoc]
    clear hT HT z1 z2 z3 z4 n11 n12 n31 n32 n41 n42
    by_cases hnil : l = []
    · subst hnil
      go_wp2_with fail
      go_loop [3, 37] (fun t i => t = .string T ∧ i = .int .i64 0) (fun _ _ => 0)
      case atStart => exact ⟨rfl, rfl⟩
      case round =>
        obtain ⟨rfl, rfl⟩ := hrel
        go_wp2_with fail
        go_ret
        exact ⟨_, rfl, by rw [HP.out, HF.out]; simp [resTT], B2.out⟩
    · rcases V2.out with ⟨hn, _⟩ | ⟨b, cap', e, hb, hc⟩
      · exact absurd hn hnil
      simp only [Value.slice.injEq] at e
      obtain ⟨rfl, -, rfl⟩ := e
      have HC : Hid (∀ (j : Nat) (x : Int), l[j]? = some x → W2.cell? ⟨b, j, none⟩ = some (.int .i64 x)) := hc
      have h0' : 0 < l.length := List.length_pos_iff.2 hnil
      clear hc hnil
      · have h0 : 0 < (l.length : Int) := by omega
        have HG : Hid (putCfgL ⟨co, sy, la, mo, l⟩ = (T ++ (⟨#[32, 114, 101, 115]⟩ : ByteArray)).data.toList ++ resT l) := by
          unfold Hid
          rw [HP.out, HF.out, resTT, if_neg (fun e => by rw [e] at h0'; simp at h0')]
          simp [kRes]
        clear HF HP
        go_wp2_with fail
        go_loop [3, 37] (fun t i => ∃ (k : Nat) (q : ByteArray), k ≤ l.length ∧ i = .int .i64 k ∧ t = .string q ∧ q.size ≤ 104 + 6 * k ∧ q.data.toList = (T ++ (⟨#[32, 114, 101, 115]⟩ : ByteArray)).data.toList ++ resT (l.take k)) (fun _ i => l.length - (intOf i).toNat)
        case atStart => exact ⟨0, _, Nat.zero_le _, rfl, rfl, by have e1 : (⟨#[32, 114, 101, 115]⟩ : ByteArray).size = 4 := rfl; simp only [ByteArray.size_append, e1]; omega, by simp [resT]⟩
        case round =>
          obtain ⟨k, q, hk, rfl, rfl, hq, hh⟩ := hrel
          have HH : Hid (q.data.toList = (T ++ (⟨#[32, 114, 101, 115]⟩ : ByteArray)).data.toList ++ resT (l.take k)) := hh
          clear hh
          by_cases hlt : k < l.length
          · obtain ⟨x, hx⟩ : ∃ x, l[k]? = some x := ⟨_, List.getElem?_eq_getElem hlt⟩
            have cx := HC.out k x hx
            obtain ⟨x0, x1⟩ := N6.out x (List.mem_of_getElem? hx)
            have HX : Hid (l[k]? = some x) := hx
            have zx := dec_len (x := x) (by omega)
            clear hx
            go_wp2_with (go_at_call 42; refine (num_small _ (by omega) (by omega) _).mono ?_; rintro e w' ⟨rfl, hw⟩; subst w')
            go_round
            case rel => exact ⟨k + 1, _, by omega, by go_num, rfl, by have e1 : (⟨#[32]⟩ : ByteArray).size = 1 := rfl; simp only [ByteArray.size_append, e1, size_list]; omega, by rw [resT_take HX.out, app_list, HH.out]; simp⟩
            case measure => simp [intOf]; omega
          · go_wp2_with fail
            go_ret
            have e : l.take k = l := List.take_of_length_le (by omega)
            exact ⟨_, rfl, by rw [HG.out, HH.out, e], B2.out⟩
end Go.Proofs.YtcgmbfpmcldfdaaGreatDoor
