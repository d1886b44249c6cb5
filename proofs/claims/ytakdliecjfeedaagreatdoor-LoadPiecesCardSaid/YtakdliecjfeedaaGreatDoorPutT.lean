/- The contracts of note.number and note.PutConfig. -/
import Derived.Test.YtakdliecjfeedaaGreatDoorGetT
import Derived.Deep.QuietTactic
import Derived.BigQuiet
import Derived.Deep.RegionHeld3
import Derived.Laws.Concat
import Derived.Deep.OwnRows
namespace Go.Proofs.YtakdliecjfeedaaGreatDoor
open Go Go.RowKit

theorem below_grow7 (w : World) (k : Nat) (os : Array Obj) : Below w.heap.size w (Sort.grow (w.drewN k) os) :=
  ⟨rfl, rfl, rfl, by show w.heap.size ≤ (w.heap ++ os).size; rw [Array.size_append]; omega, fun j hj => by show (w.heap ++ os)[j]? = w.heap[j]?; exact Array.getElem?_append_left hj⟩
theorem dec_len {x : Int} (h : x < 100000) : (dec x).length ≤ 5 := by
  unfold dec
  have h2 : x.toNat < 100000 := by omega
  generalize x.toNat = u at h2
  rw [Lib.decDigits_length]
  by_cases a1 : u < 10
  · rw [Lib.nDigits_small a1]; omega
  rw [Lib.nDigits_big a1]
  by_cases a2 : u / 10 < 10
  · rw [Lib.nDigits_small a2]; omega
  rw [Lib.nDigits_big a2]
  by_cases a3 : u / 10 / 10 < 10
  · rw [Lib.nDigits_small a3]; omega
  rw [Lib.nDigits_big a3]
  by_cases a4 : u / 10 / 10 / 10 < 10
  · rw [Lib.nDigits_small a4]; omega
  rw [Lib.nDigits_big a4, Lib.nDigits_small (by omega)]
  omega
theorem num_small (x : Int) (h0 : 0 ≤ x) (h1 : x < 100) (w : World) :
    Calls Tryz.prog 95 #[.int .i64 x] w fun e w' => e = .returned (.string ⟨(dec x).toArray⟩) ∧ w' = w := by
  obtain ⟨n, rfl⟩ : ∃ n : Nat, x = n := ⟨x.toNat, by omega⟩
  have HD : Hid (dec (n : Int) = Lib.decDigits n) := by unfold Hid dec; rw [Int.toNat_natCast]
  rw [HD.out]
  clear HD
  have hn : n < 100 := by omega
  go_enter Tryz.func95, Tryz.ntmps95
  go_wp2_with (go_at_call 107; refine (Tryz.strconv_FormatInt_10_small n hn _).mono ?_; rintro e w' ⟨rfl, rfl⟩)
  go_ret
  exact ⟨rfl, rfl⟩
theorem num_any (x : Int) (h0 : 0 ≤ x) (h1 : x < 100000) (w : World) (hE : Env w) :
    Calls Tryz.prog 95 #[.int .i64 x] w fun e w' => e = .returned (.string ⟨(dec x).toArray⟩) ∧ Below w.heap.size w w' := by
  have HD : Hid (Lib.itoa x = dec x) := by unfold Hid dec Lib.itoa; rw [if_neg (by omega)]
  have HT : Hid (Env w) := hE
  clear hE
  go_enter Tryz.func95, Tryz.ntmps95
  go_wp2_with fail
  refine (Tryz.strconv_FormatInt_10 x (by omega) (by omega) _ HT.out.2.2.2).mono ?_
  rintro e w' ⟨rfl, k, os, rfl⟩
  rw [HD.out]
  have G : Hid (Below w.heap.size w (Sort.grow (w.drewN k) os)) := below_grow7 _ _ _
  generalize Sort.grow (w.drewN k) os = w2 at G ⊢
  go_wp2_with fail
  go_ret
  exact ⟨rfl, G.out⟩

def putCfgL (c : Cfg) : List UInt8 := if cfgB c then putCfgT c else []
def putTskL (t : Tsk) : List UInt8 := if tskB 6 t then putTskT t else []
theorem app_list (a b : ByteArray) : (a ++ b).data.toList = a.data.toList ++ b.data.toList := by simp
theorem resT_take {l : List Int} {k : Nat} {x : Int} (h : l[k]? = some x) : resT (l.take (k + 1)) = resT (l.take k) ++ (32 :: dec x) := by
  obtain ⟨hk, rfl⟩ := List.getElem?_eq_some_iff.1 h
  rw [List.take_succ_eq_append_getElem hk]
  simp only [resT, List.flatMap_append, List.flatMap_cons, List.flatMap_nil, List.append_nil]

set_option maxHeartbeats 4000000 in
set_option maxRecDepth 100000 in
theorem putCfg_any (co sy la mo : Int) (v : Value) (l : List Int) (w : World) (hv : Ints w v l) (hl : l.length ≤ 1000000) :
    Calls Tryz.prog 81 #[.agg #[.int .i64 co, .int .i64 sy, .int .i64 la, .int .i64 mo, v]] w fun e w' => ∃ t, e = .returned (.string t) ∧ t.data.toList = putCfgL ⟨co, sy, la, mo, l⟩ ∧ Below w.heap.size w w' := by
  have hx := hv.below (balloc w (.cells #[.int .i64 co, .int .i64 sy, .int .i64 la, .int .i64 mo, v] 24))
  obtain ⟨a, cap, rfl⟩ := hv.form
  clear hv
  have HV : Hid (Ints (w.alloc (.cells #[.int .i64 co, .int .i64 sy, .int .i64 la, .int .i64 mo, .slice a l.length cap] 24)) (.slice a l.length cap) l) := hx
  have HB : Hid (Below w.heap.size w (w.alloc (.cells #[.int .i64 co, .int .i64 sy, .int .i64 la, .int .i64 mo, .slice a l.length cap] 24))) := balloc _ _
  have HK : Hid (Blk (w.alloc (.cells #[.int .i64 co, .int .i64 sy, .int .i64 la, .int .i64 mo, .slice a l.length cap] 24)) w.heap.size #[.int .i64 co, .int .i64 sy, .int .i64 la, .int .i64 mo, .slice a l.length cap] 24) := heap_alloc_new _ _
  clear hx
  go_enter Tryz.func81, Tryz.ntmps81
  go_wp2_with fail
  refine (rconfig_any co sy la mo _ l _ HV.out hl).mono ?_
  rintro e w1 ⟨rfl, g1⟩
  have V1 : Hid (Ints w1 (.slice a l.length cap) l) := HV.out.below g1
  have B1 : Hid (Below w.heap.size w w1) := btrans HB.out g1
  have k1 := HK.out.below g1
  have c0 : w1.cell? ⟨w.heap.size, 0, none⟩ = some (.int .i64 co) := k1.cell 0
  have c1 : w1.cell? ⟨w.heap.size, 1, none⟩ = some (.int .i64 sy) := k1.cell 1
  have c2 : w1.cell? ⟨w.heap.size, 2, none⟩ = some (.int .i64 la) := k1.cell 2
  have c3 : w1.cell? ⟨w.heap.size, 3, none⟩ = some (.int .i64 mo) := k1.cell 3
  have c4 : w1.cell? ⟨w.heap.size, 4, none⟩ = some (.slice a l.length cap) := k1.cell 4
  have l1 := k1.lt
  clear g1 k1 HV HB HK
  cases hb : cfgB ⟨co, sy, la, mo, l⟩
  · go_wp2_with fail
    go_ret
    exact ⟨_, rfl, by unfold putCfgL; rw [hb]; rfl, B1.out⟩
  · obtain ⟨n1, n2, n3, n4, n5, n6⟩ := cfgB_iff.1 hb
    have N6 : Hid (∀ x ∈ l, 0 ≤ x ∧ x < sy) := n6
    have HP : Hid (putCfgL ⟨co, sy, la, mo, l⟩ = putCfgT ⟨co, sy, la, mo, l⟩) := by unfold Hid putCfgL; rw [hb]; rfl
    simp only at n1 n2 n3 n4 n5
    obtain ⟨n11, n12⟩ := n1
    obtain ⟨n21, n22⟩ := n2
    obtain ⟨n31, n32⟩ := n3
    obtain ⟨n41, n42⟩ := n4
    clear n6 hb
    have z1 := dec_len (x := co) (by omega)
    have z2 := dec_len (x := sy) (by omega)
    have z3 := dec_len (x := la) (by omega)
    have z4 := dec_len (x := mo) (by omega)
    go_wp2_with fail
    go_quiet ((go_at_call 95; exact Calls.quiet_of_same (num_small _ (by omega) (by omega) _)))
    generalize hW2 : w1.drewN _ = W2
    have g2 : Below w1.heap.size w1 W2 := by rw [← hW2]; exact ⟨rfl, rfl, rfl, Nat.le_refl _, fun _ _ => rfl⟩
    have B2 : Hid (Below w.heap.size w W2) := btrans B1.out g2
    have V2 : Hid (Ints W2 (.slice a l.length cap) l) := V1.out.below g2
    have c4' : W2.cell? ⟨w.heap.size, 4, none⟩ = some (.slice a l.length cap) := (g2.cell (p := ⟨w.heap.size, 4, none⟩) l1).trans c4
    clear hW2 g2 B1 V1 c0 c1 c2 c3 c4 l1
    generalize hT : ((((((((⟨#[99, 111, 114, 101, 115, 32]⟩ : ByteArray) ++ (⟨(dec co).toArray⟩ : ByteArray)) ++ (⟨#[32, 115, 121, 110, 99, 115, 32]⟩ : ByteArray)) ++ (⟨(dec sy).toArray⟩ : ByteArray)) ++ (⟨#[32, 108, 97, 103, 32]⟩ : ByteArray)) ++ (⟨(dec la).toArray⟩ : ByteArray)) ++ (⟨#[32, 109, 111, 118, 101, 32]⟩ : ByteArray)) ++ (⟨(dec mo).toArray⟩ : ByteArray)) = T
    have HT : Hid (T.data.toList = kCores ++ (dec co ++ (kSyncs ++ (dec sy ++ (kLag ++ (dec la ++ (kMove ++ dec mo))))))) := by
      unfold Hid
      rw [← hT]
      simp [kCores, kSyncs, kLag, kMove]
    have hTs : T.size ≤ 100 := by
      rw [← size_len, HT.out]
      simp [kCores, kSyncs, kLag, kMove]
      omega
    have HF : Hid (putCfgT ⟨co, sy, la, mo, l⟩ = T.data.toList ++ resTT l) := by
      unfold Hid putCfgT
      rw [HT.out]
      simp only [List.append_assoc]
    clear hT HT z1 z2 z3 z4 n11 n12 n31 n32 n41 n42
    by_cases hnil : l = []
    · subst hnil
      go_wp2_with fail
      go_loop [3, 37] (fun t i => t = .string T ∧ i = .int .i64 0) (fun _ _ => 0)
      case atStart => exact ⟨rfl, rfl⟩
      case round =>
        obtain ⟨rfl, rfl⟩ := hrel
        go_wp2_with fail
        go_ret
        exact ⟨_, rfl, by rw [HP.out, HF.out]; simp [resTT], B2.out⟩
    · rcases V2.out with ⟨hn, _⟩ | ⟨b, cap', e, hb, hc⟩
      · exact absurd hn hnil
      simp only [Value.slice.injEq] at e
      obtain ⟨rfl, -, rfl⟩ := e
      have HC : Hid (∀ (j : Nat) (x : Int), l[j]? = some x → W2.cell? ⟨b, j, none⟩ = some (.int .i64 x)) := hc
      have h0' : 0 < l.length := List.length_pos_iff.2 hnil
      clear hc hnil
      · have h0 : 0 < (l.length : Int) := by omega
        have HG : Hid (putCfgL ⟨co, sy, la, mo, l⟩ = (T ++ (⟨#[32, 114, 101, 115]⟩ : ByteArray)).data.toList ++ resT l) := by
          unfold Hid
          rw [HP.out, HF.out, resTT, if_neg (fun e => by rw [e] at h0'; simp at h0')]
          simp [kRes]
        clear HF HP
        go_wp2_with fail
        go_loop [3, 37] (fun t i => ∃ (k : Nat) (q : ByteArray), k ≤ l.length ∧ i = .int .i64 k ∧ t = .string q ∧ q.size ≤ 104 + 6 * k ∧ q.data.toList = (T ++ (⟨#[32, 114, 101, 115]⟩ : ByteArray)).data.toList ++ resT (l.take k)) (fun _ i => l.length - (intOf i).toNat)
        case atStart => exact ⟨0, _, Nat.zero_le _, rfl, rfl, by have e1 : (⟨#[32, 114, 101, 115]⟩ : ByteArray).size = 4 := rfl; simp only [ByteArray.size_append, e1]; omega, by simp [resT]⟩
        case round =>
          obtain ⟨k, q, hk, rfl, rfl, hq, hh⟩ := hrel
          have HH : Hid (q.data.toList = (T ++ (⟨#[32, 114, 101, 115]⟩ : ByteArray)).data.toList ++ resT (l.take k)) := hh
          clear hh
          by_cases hlt : k < l.length
          · obtain ⟨x, hx⟩ : ∃ x, l[k]? = some x := ⟨_, List.getElem?_eq_getElem hlt⟩
            have cx := HC.out k x hx
            obtain ⟨x0, x1⟩ := N6.out x (List.mem_of_getElem? hx)
            have HX : Hid (l[k]? = some x) := hx
            have zx := dec_len (x := x) (by omega)
            clear hx
            go_wp2_with (go_at_call 95; refine (num_small _ (by omega) (by omega) _).mono ?_; rintro e w' ⟨rfl, hw⟩; subst w')
            go_round
            case rel => exact ⟨k + 1, _, by omega, by go_num, rfl, by have e1 : (⟨#[32]⟩ : ByteArray).size = 1 := rfl; simp only [ByteArray.size_append, e1, size_list]; omega, by rw [resT_take HX.out, app_list, HH.out]; simp⟩
            case measure => simp [intOf]; omega
          · go_wp2_with fail
            go_ret
            have e : l.take k = l := List.take_of_length_le (by omega)
            exact ⟨_, rfl, by rw [HG.out, HH.out, e], B2.out⟩
end Go.Proofs.YtakdliecjfeedaaGreatDoor

/- The contracts of note.widest and note.PutTask. -/
namespace Go.Proofs.YtakdliecjfeedaaGreatDoor
open Go Go.RowKit

def six0 : List Int := [0, 0, 0, 0, 0, 0]
set_option maxHeartbeats 1000000 in
theorem widest_any (w : World) :
    Calls Tryz.prog 96 #[] w fun e w' => ∃ u, e = .returned (.agg #[.int .i64 1, .int .i64 1, .int .i64 0, .int .i64 0, u]) ∧ Ints w' u six0 ∧ Below w.heap.size w w' := by
  have hmk : ∀ w : World, (Instr.makeSlice 22 (.int .i64 6) (.int .i64 6)).run Tryz.prog w = .ok (.slice (some ⟨w.heap.size, 0, none⟩) 6 6) (w.alloc (.cells #[.int .i64 0, .int .i64 0, .int .i64 0, .int .i64 0, .int .i64 0, .int .i64 0] 3)) := by
    intro w
    have h := run_make_row' (P := Tryz.prog) 22 3 (.int .i64 0) 8 Tryz.underlying22 infoI rfl .i64 .i64 6 (by omega) (by omega) w
    have e : madeCells #[Value.int .i64 0] 6 = #[.int .i64 0, .int .i64 0, .int .i64 0, .int .i64 0, .int .i64 0, .int .i64 0] := by kernel_rfl
    rw [e] at h
    exact h
  go_enter Tryz.func96, Tryz.ntmps96
  go_wp2_with fail
  refine bodyPost_ret (v := .agg #[.int .i64 1, .int .i64 1, .int .i64 0, .int .i64 0, .slice (some ⟨w.heap.size + 1, 0, none⟩) 6 6]) (by simp [results, Tryz.results96, go_sem]) rfl ⟨_, rfl, ?_, btrans (balloc _ _) (balloc _ _)⟩
  refine .inr ⟨w.heap.size + 1, 6, rfl, by simp, fun j x hj => ?_⟩
  have hl : j < 6 := (List.getElem?_eq_some_iff.1 hj).1
  match j, hl, hj with
  | 0, _, hj => simp [six0] at hj; subst hj; simp
  | 1, _, hj => simp [six0] at hj; subst hj; simp
  | 2, _, hj => simp [six0] at hj; subst hj; simp
  | 3, _, hj => simp [six0] at hj; subst hj; simp
  | 4, _, hj => simp [six0] at hj; subst hj; simp
  | 5, _, hj => simp [six0] at hj; subst hj; simp
/-- A task in a box; the rest as it was. -/
structure TBox (w0 : World) (g : Nat) (cs : Array Value) (t : TypeId) (w : World) : Prop where
  env : Env w
  blk : Blk w g cs t
  bel : Below w0.heap.size w0 w
theorem TBox.below {w0 w w' : World} {g : Nat} {cs : Array Value} {t : TypeId} (h : TBox w0 g cs t w) (k : Below w.heap.size w w') : TBox w0 g cs t w' := ⟨h.env.below k, h.blk.below k, btrans h.bel k⟩
theorem TBox.drew {w0 w : World} {g : Nat} {cs : Array Value} {t : TypeId} (h : TBox w0 g cs t w) : TBox w0 g cs t w.drew := h.below ((Below.refl _ _).drew)
theorem secsT_take {l : List Sec} {k : Nat} {x : Sec} (h : l[k]? = some x) : secsT (l.take (k + 1)) = secsT (l.take k) ++ secT x := by
  obtain ⟨hk, rfl⟩ := List.getElem?_eq_some_iff.1 h
  rw [List.take_succ_eq_append_getElem hk]
  simp only [secsT, List.flatMap_append, List.flatMap_cons, List.flatMap_nil, List.append_nil]
theorem six_ok : cfgB ⟨1, 1, 0, 0, six0⟩ = true := by decide
theorem rtask6 (u : Value) (c d t : Int) (v : Value) (m : List Sec) (w : World) (hu : Ints w u six0) (hv : Secs w v m) (hm : m.length ≤ 1000000) :
    Calls Tryz.prog 39 #[.agg #[.int .i64 1, .int .i64 1, .int .i64 0, .int .i64 0, u], .agg #[.int .i64 c, .int .i64 d, .int .i64 t, v]] w fun e w' => e = .returned (.bool (tskB 6 ⟨c, d, t, m⟩)) ∧ Below w.heap.size w w' := by
  have h := rtask_any 1 1 0 0 u six0 c d t v m w hu (by decide) hv hm
  rw [six_ok, Bool.true_and] at h
  exact h

set_option maxHeartbeats 8000000 in
set_option maxRecDepth 100000 in
theorem putTsk_any (c d t : Int) (v : Value) (m : List Sec) (w : World) (hE : Env w) (hv : Secs w v m) (hm : m.length ≤ 1000000) :
    Calls Tryz.prog 82 #[.agg #[.int .i64 c, .int .i64 d, .int .i64 t, v]] w fun e w' => ∃ q, e = .returned (.string q) ∧ q.data.toList = putTskL ⟨c, d, t, m⟩ ∧ Below w.heap.size w w' := by
  obtain ⟨a, cap, e⟩ := hv.form
  subst e
  have HV : Hid (Secs w (.slice a m.length cap) m) := hv
  have P0 : Hid (TBox w w.heap.size #[.int .i64 c, .int .i64 d, .int .i64 t, .slice a m.length cap] 34 (w.alloc (.cells #[.int .i64 c, .int .i64 d, .int .i64 t, .slice a m.length cap] 34))) :=
    ⟨hE.below (balloc _ _), heap_alloc_new _ _, balloc _ _⟩
  clear hv hE
  go_enter Tryz.func82, Tryz.ntmps82
  go_wp2_with fail
  generalize hW : w.alloc _ = W0 at P0 ⊢
  clear hW
  have c0 : W0.cell? ⟨w.heap.size, 0, none⟩ = some (.int .i64 c) := P0.out.blk.cell 0
  have c1 : W0.cell? ⟨w.heap.size, 1, none⟩ = some (.int .i64 d) := P0.out.blk.cell 1
  have c2 : W0.cell? ⟨w.heap.size, 2, none⟩ = some (.int .i64 t) := P0.out.blk.cell 2
  have c3 : W0.cell? ⟨w.heap.size, 3, none⟩ = some (.slice a m.length cap) := P0.out.blk.cell 3
  go_region_held3 (fun w' => w'.cell? ⟨w.heap.size, 0, none⟩ = some (.int .i64 c) ∧ w'.cell? ⟨w.heap.size, 1, none⟩ = some (.int .i64 d) ∧ w'.cell? ⟨w.heap.size, 2, none⟩ = some (.int .i64 t) ∧ w'.cell? ⟨w.heap.size, 3, none⟩ = some (.slice a m.length cap)) (first | exact ⟨c0, c1, c2, c3⟩ | go_keep | exact ⟨d0, d1, d2, d3⟩ | exact ⟨e0, e1, e2, e3⟩)
    (first | (go_at_call 96; refine (widest_any _).mono ?_; rintro e w1 ⟨u, rfl, iu, g1⟩; have P1 : Hid (TBox w w.heap.size #[.int .i64 c, .int .i64 d, .int .i64 t, .slice a m.length cap] 34 w1) := (by first | exact P0.out.below g1 | exact P0.out.drew.below g1); have d0 : w1.cell? ⟨w.heap.size, 0, none⟩ = some (.int .i64 c) := P1.out.blk.cell 0; have d1 : w1.cell? ⟨w.heap.size, 1, none⟩ = some (.int .i64 d) := P1.out.blk.cell 1; have d2 : w1.cell? ⟨w.heap.size, 2, none⟩ = some (.int .i64 t) := P1.out.blk.cell 2; have d3 : w1.cell? ⟨w.heap.size, 3, none⟩ = some (.slice a m.length cap) := P1.out.blk.cell 3; have IU : Hid (Ints w1 u six0) := iu; clear g1 iu) | (go_at_call 39; refine (rtask6 u c d t (.slice a m.length cap) m _ (by first | exact IU.out | exact IU.out.below ((Below.refl _ _).drew)) (by first | exact HV.out.below P1.out.bel | exact HV.out.below P1.out.drew.bel) hm).mono ?_; rintro e w2 ⟨rfl, g2⟩; have P2 : Hid (TBox w w.heap.size #[.int .i64 c, .int .i64 d, .int .i64 t, .slice a m.length cap] 34 w2) := (by first | exact P1.out.below g2 | exact P1.out.drew.below g2); have e0 : w2.cell? ⟨w.heap.size, 0, none⟩ = some (.int .i64 c) := P2.out.blk.cell 0; have e1 : w2.cell? ⟨w.heap.size, 1, none⟩ = some (.int .i64 d) := P2.out.blk.cell 1; have e2 : w2.cell? ⟨w.heap.size, 2, none⟩ = some (.int .i64 t) := P2.out.blk.cell 2; have e3 : w2.cell? ⟨w.heap.size, 3, none⟩ = some (.slice a m.length cap) := P2.out.blk.cell 3; clear g2))
  clear c0 c1 c2 c3 d0 d1 d2 d3 P0 P1 IU
  cases hb : tskB 6 ⟨c, d, t, m⟩
  · go_wp2_with fail
    go_ret
    exact ⟨_, rfl, by unfold putTskL; rw [hb]; rfl, P2.out.bel⟩
  · obtain ⟨n1, n2, n3, n4, n5, n6⟩ := tskB_facts hb
    have HP : Hid (putTskL ⟨c, d, t, m⟩ = putTskT ⟨c, d, t, m⟩) := by unfold Hid putTskL; rw [hb]; rfl
    have N6 : Hid (∀ s ∈ m, (0 ≤ s.res ∧ s.res < 6) ∧ (1 ≤ s.len ∧ s.len ≤ 200) ∧ 1 ≤ s.pos ∧ s.pos ≤ c - 1) := n6
    simp only at n1 n2 n3 n4 n5
    clear n6 hb
    have z1 := dec_len (x := c) (by omega)
    have z2 := dec_len (x := d) (by omega)
    have z3 := dec_len (x := t) (by omega)
    have y1 : ¬ 9223372036854775807 < (dec c).length + 1 := by omega
    have y2 : ¬ 9223372036854775807 < (dec c).length + 1 + (dec d).length := by omega
    have y3 : ¬ 9223372036854775807 < (dec c).length + 1 + (dec d).length + 1 := by omega
    have y4 : ¬ 9223372036854775807 < (dec c).length + 1 + (dec d).length + 1 + (dec t).length := by omega
    go_wp2_with fail
    go_region_held3 (fun w' => w'.cell? ⟨w.heap.size, 0, none⟩ = some (.int .i64 c) ∧ w'.cell? ⟨w.heap.size, 1, none⟩ = some (.int .i64 d) ∧ w'.cell? ⟨w.heap.size, 2, none⟩ = some (.int .i64 t)) (first | exact ⟨e0, e1, e2⟩ | go_keep | exact ⟨r0, r1, r2⟩ | exact ⟨s0, s1, s2⟩ | exact ⟨u0, u1, u2⟩) (first | (go_at_call 95; refine (num_any c (by omega) (by omega) _ (by first | exact P2.out.env | exact P2.out.drew.env)).mono ?_; rintro e w3 ⟨rfl, g3⟩; have P3 : Hid (TBox w (w.heap.size) #[.int .i64 c, .int .i64 d, .int .i64 t, .slice a m.length cap] 34 w3) := (by first | exact P2.out.below g3 | exact P2.out.drew.below g3); have r0 : w3.cell? ⟨w.heap.size, 0, none⟩ = some (.int .i64 c) := P3.out.blk.cell 0; have r1 : w3.cell? ⟨w.heap.size, 1, none⟩ = some (.int .i64 d) := P3.out.blk.cell 1; have r2 : w3.cell? ⟨w.heap.size, 2, none⟩ = some (.int .i64 t) := P3.out.blk.cell 2; clear g3) | (go_at_call 95; refine (num_any d (by omega) (by omega) _ (by first | exact P3.out.env | exact P3.out.drew.env)).mono ?_; rintro e w4 ⟨rfl, g4⟩; have P4 : Hid (TBox w (w.heap.size) #[.int .i64 c, .int .i64 d, .int .i64 t, .slice a m.length cap] 34 w4) := (by first | exact P3.out.below g4 | exact P3.out.drew.below g4); have s0 : w4.cell? ⟨w.heap.size, 0, none⟩ = some (.int .i64 c) := P4.out.blk.cell 0; have s1 : w4.cell? ⟨w.heap.size, 1, none⟩ = some (.int .i64 d) := P4.out.blk.cell 1; have s2 : w4.cell? ⟨w.heap.size, 2, none⟩ = some (.int .i64 t) := P4.out.blk.cell 2; clear g4) | (go_at_call 95; refine (num_any t (by omega) (by omega) _ (by first | exact P4.out.env | exact P4.out.drew.env)).mono ?_; rintro e w5 ⟨rfl, g5⟩; have P5 : Hid (TBox w (w.heap.size) #[.int .i64 c, .int .i64 d, .int .i64 t, .slice a m.length cap] 34 w5) := (by first | exact P4.out.below g5 | exact P4.out.drew.below g5); have u0 : w5.cell? ⟨w.heap.size, 0, none⟩ = some (.int .i64 c) := P5.out.blk.cell 0; have u1 : w5.cell? ⟨w.heap.size, 1, none⟩ = some (.int .i64 d) := P5.out.blk.cell 1; have u2 : w5.cell? ⟨w.heap.size, 2, none⟩ = some (.int .i64 t) := P5.out.blk.cell 2; clear g5))
    generalize hT : (((((⟨(dec c).toArray⟩ : ByteArray) ++ (⟨#[47]⟩ : ByteArray)) ++ (⟨(dec d).toArray⟩ : ByteArray)) ++ (⟨#[47]⟩ : ByteArray)) ++ (⟨(dec t).toArray⟩ : ByteArray)) = T
    have HT : Hid (T.data.toList = dec c ++ (47 :: (dec d ++ (47 :: dec t)))) := by
      unfold Hid
      rw [← hT]
      simp
    have hTs : T.size ≤ 20 := by
      rw [← size_len, HT.out]
      simp
      omega
    have HF : Hid (putTskL ⟨c, d, t, m⟩ = T.data.toList ++ secsT m) := by
      unfold Hid
      rw [HP.out, putTskT, HT.out]
      simp only [List.append_assoc, List.cons_append]
    have c3 : w5.cell? ⟨w.heap.size, 3, none⟩ = some (.slice a m.length cap) := P5.out.blk.cell 3
    have B5 : Hid (Below w.heap.size w w5) := P5.out.bel
    have E5 : Hid (Env w5) := P5.out.env
    clear hT HT z1 z2 z3 y1 y2 y3 y4 e0 e1 e2 e3 r0 r1 r2 s0 s1 s2 u0 u1 u2 P2 P3 P4 P5 HP
    by_cases hnil : m = []
    · subst hnil
      go_wp2_with fail
      go_loop [3, 26] (fun q i => q = .string T ∧ i = .int .i64 0) (fun _ _ => 0)
      case atStart => exact ⟨rfl, rfl⟩
      case round =>
        obtain ⟨rfl, rfl⟩ := hrel
        go_wp2_with fail
        go_ret
        exact ⟨_, rfl, by rw [HF.out]; simp [secsT], B5.out⟩
    · rcases HV.out with ⟨hn, _⟩ | ⟨b, cap', e, hb, hc⟩
      · exact absurd hn hnil
      simp only [Value.slice.injEq] at e
      obtain ⟨rfl, -, rfl⟩ := e
      have HC : Hid (∀ j s, m[j]? = some s → w.cell? ⟨b, j * 3, none⟩ = some (.int .i64 s.res) ∧ w.cell? ⟨b, j * 3 + 1, none⟩ = some (.int .i64 s.pos) ∧ w.cell? ⟨b, j * 3 + 2, none⟩ = some (.int .i64 s.len)) := hc
      have h0 : 0 < m.length := List.length_pos_iff.2 hnil
      clear hc hnil HV
      go_wp2_with fail
      go_loopw [3, 26] (fun q i wr => ∃ (k : Nat) (q' : ByteArray), k ≤ m.length ∧ i = .int .i64 k ∧ q = .string q' ∧ q'.size ≤ 20 + 20 * k ∧ q'.data.toList = T.data.toList ++ secsT (m.take k) ∧ Env wr ∧ Below w.heap.size w wr) (fun _ i _ => m.length - (intOf i).toNat)
      case atStart => exact ⟨0, T, Nat.zero_le _, rfl, rfl, by omega, by simp [secsT], E5.out, B5.out⟩
      case round =>
        obtain ⟨k, q, hk, rfl, rfl, hq, hh, hE, hB⟩ := hrel
        have HH : Hid (q.data.toList = T.data.toList ++ secsT (m.take k)) := hh
        have HE : Hid (Env wr) := hE
        have HB : Hid (Below w.heap.size w wr) := hB
        have zb : w.heap.size ≤ wr.heap.size := hB.size
        clear hh hE hB
        by_cases hlt : k < m.length
        · obtain ⟨x, hx⟩ : ∃ x, m[k]? = some x := ⟨_, List.getElem?_eq_getElem hlt⟩
          obtain ⟨sr, sp, sl⟩ := x
          obtain ⟨y0, y1, y2⟩ := HC.out k _ hx
          have x0 := (HB.out.cell (p := ⟨b, k * 3, none⟩) hb).trans y0
          have x1 := (HB.out.cell (p := ⟨b, k * 3 + 1, none⟩) hb).trans y1
          have x2 := (HB.out.cell (p := ⟨b, k * 3 + 2, none⟩) hb).trans y2
          have nn := N6.out _ (List.mem_of_getElem? hx)
          simp only at nn x0 x1 x2
          obtain ⟨⟨v1, v2⟩, ⟨v3, v4⟩, v5, v6⟩ := nn
          have HX : Hid (m[k]? = some ⟨sr, sp, sl⟩) := hx
          clear hx y0 y1 y2
          have z1 := dec_len (x := sr) (by omega)
          have z2 := dec_len (x := sp) (by omega)
          have z3 := dec_len (x := sl) (by omega)
          have y1 : ¬ 9223372036854775807 < 1 + (dec sr).length := by omega
          have y2 : ¬ 9223372036854775807 < 1 + (dec sr).length + 1 := by omega
          have y3 : ¬ 9223372036854775807 < 1 + (dec sr).length + 1 + (dec sp).length := by omega
          have y4 : ¬ 9223372036854775807 < 1 + (dec sr).length + 1 + (dec sp).length + 1 := by omega
          have y5 : ¬ 9223372036854775807 < 1 + (dec sr).length + 1 + (dec sp).length + 1 + (dec sl).length := by omega
          have y6 : ¬ 9223372036854775807 < q.size + (1 + (dec sr).length + 1 + (dec sp).length + 1 + (dec sl).length) := by omega
          have P6 : Hid (TBox w wr.heap.size #[.int .i64 sr, .int .i64 sp, .int .i64 sl] 39 (wr.alloc (.cells #[.int .i64 sr, .int .i64 sp, .int .i64 sl] 39))) := ⟨HE.out.below (balloc _ _), heap_alloc_new _ _, btrans HB.out (balloc _ _)⟩
          go_wp2_with fail
          generalize hW : wr.alloc _ = W6 at P6 ⊢
          have p0 : W6.cell? ⟨wr.heap.size, 0, none⟩ = some (.int .i64 sr) := P6.out.blk.cell 0
          have p1 : W6.cell? ⟨wr.heap.size, 1, none⟩ = some (.int .i64 sp) := P6.out.blk.cell 1
          have p2 : W6.cell? ⟨wr.heap.size, 2, none⟩ = some (.int .i64 sl) := P6.out.blk.cell 2
          clear hW x0 x1 x2
          go_region_held3 (fun w' => w'.cell? ⟨wr.heap.size, 0, none⟩ = some (.int .i64 sr) ∧ w'.cell? ⟨wr.heap.size, 1, none⟩ = some (.int .i64 sp) ∧ w'.cell? ⟨wr.heap.size, 2, none⟩ = some (.int .i64 sl)) (first | exact ⟨p0, p1, p2⟩ | go_keep | exact ⟨r0, r1, r2⟩ | exact ⟨s0, s1, s2⟩ | exact ⟨u0, u1, u2⟩) (first | (go_at_call 95; refine (num_any sr (by omega) (by omega) _ (by first | exact P6.out.env | exact P6.out.drew.env)).mono ?_; rintro e w7 ⟨rfl, g7⟩; have P7 : Hid (TBox w (wr.heap.size) #[.int .i64 sr, .int .i64 sp, .int .i64 sl] 39 w7) := (by first | exact P6.out.below g7 | exact P6.out.drew.below g7); have r0 : w7.cell? ⟨wr.heap.size, 0, none⟩ = some (.int .i64 sr) := P7.out.blk.cell 0; have r1 : w7.cell? ⟨wr.heap.size, 1, none⟩ = some (.int .i64 sp) := P7.out.blk.cell 1; have r2 : w7.cell? ⟨wr.heap.size, 2, none⟩ = some (.int .i64 sl) := P7.out.blk.cell 2; clear g7) | (go_at_call 95; refine (num_any sp (by omega) (by omega) _ (by first | exact P7.out.env | exact P7.out.drew.env)).mono ?_; rintro e w8 ⟨rfl, g8⟩; have P8 : Hid (TBox w (wr.heap.size) #[.int .i64 sr, .int .i64 sp, .int .i64 sl] 39 w8) := (by first | exact P7.out.below g8 | exact P7.out.drew.below g8); have s0 : w8.cell? ⟨wr.heap.size, 0, none⟩ = some (.int .i64 sr) := P8.out.blk.cell 0; have s1 : w8.cell? ⟨wr.heap.size, 1, none⟩ = some (.int .i64 sp) := P8.out.blk.cell 1; have s2 : w8.cell? ⟨wr.heap.size, 2, none⟩ = some (.int .i64 sl) := P8.out.blk.cell 2; clear g8) | (go_at_call 95; refine (num_any sl (by omega) (by omega) _ (by first | exact P8.out.env | exact P8.out.drew.env)).mono ?_; rintro e w9 ⟨rfl, g9⟩; have P9 : Hid (TBox w (wr.heap.size) #[.int .i64 sr, .int .i64 sp, .int .i64 sl] 39 w9) := (by first | exact P8.out.below g9 | exact P8.out.drew.below g9); have u0 : w9.cell? ⟨wr.heap.size, 0, none⟩ = some (.int .i64 sr) := P9.out.blk.cell 0; have u1 : w9.cell? ⟨wr.heap.size, 1, none⟩ = some (.int .i64 sp) := P9.out.blk.cell 1; have u2 : w9.cell? ⟨wr.heap.size, 2, none⟩ = some (.int .i64 sl) := P9.out.blk.cell 2; clear g9))
          go_wp2_with fail
          go_round
          case rel =>
            refine ⟨k + 1, _, by omega, by go_num, rfl, ?_, ?_, P9.out.env, P9.out.bel⟩
            · have e1 : (⟨#[32]⟩ : ByteArray).size = 1 := rfl
              have e2 : (⟨#[64]⟩ : ByteArray).size = 1 := rfl
              have e3 : (⟨#[43]⟩ : ByteArray).size = 1 := rfl
              simp only [ByteArray.size_append, e1, e2, e3, size_list]
              omega
            · rw [secsT_take HX.out, app_list, HH.out]
              simp [secT]
          case measure => simp [intOf]; omega
        · go_wp2_with fail
          go_ret
          have e : m.take k = m := List.take_of_length_le (by omega)
          exact ⟨_, rfl, by rw [HF.out, HH.out, e], HB.out⟩
end Go.Proofs.YtakdliecjfeedaaGreatDoor
