/- The contracts of package rule's small functions. -/
import Derived.Test.YtakdliecjfeedaaGreatDoorSpec
namespace Go.Proofs.YtakdliecjfeedaaGreatDoor
open Go Go.RowKit

theorem within_int (v lo hi : Int) (w : World) :
    Calls Tryz.prog 64 #[.int .i64 v, .int .i64 lo, .int .i64 hi] w fun e w' => e = .returned (.bool (inB v lo hi)) ∧ w' = w := by
  by_cases h1 : lo ≤ v
  · by_cases h2 : v ≤ hi
    · rw [inB_iff.2 ⟨h1, h2⟩]
      go_enter Tryz.func64, Tryz.ntmps64
      go_wp2
      go_ret
      exact ⟨rfl, rfl⟩
    · rw [inB_no.2 (fun h => h2 h.2)]
      go_enter Tryz.func64, Tryz.ntmps64
      go_wp2
      go_ret
      exact ⟨rfl, rfl⟩
  · rw [inB_no.2 (fun h => h1 h.1)]
    go_enter Tryz.func64, Tryz.ntmps64
    go_wp2
    go_ret
    exact ⟨rfl, rfl⟩
theorem within_i64 (v lo hi : Int) (w : World) :
    Calls Tryz.prog 51 #[.int .i64 v, .int .i64 lo, .int .i64 hi] w fun e w' => e = .returned (.bool (inB v lo hi)) ∧ w' = w := by
  by_cases h1 : lo ≤ v
  · by_cases h2 : v ≤ hi
    · rw [inB_iff.2 ⟨h1, h2⟩]
      go_enter Tryz.func51, Tryz.ntmps51
      go_wp2
      go_ret
      exact ⟨rfl, rfl⟩
    · rw [inB_no.2 (fun h => h2 h.2)]
      go_enter Tryz.func51, Tryz.ntmps51
      go_wp2
      go_ret
      exact ⟨rfl, rfl⟩
  · rw [inB_no.2 (fun h => h1 h.1)]
    go_enter Tryz.func51, Tryz.ntmps51
    go_wp2
    go_ret
    exact ⟨rfl, rfl⟩
theorem one_of (n i : Int) (w : World) :
    Calls Tryz.prog 66 #[.int .i64 n, .int .i64 i] w fun e w' => e = .returned (.bool (oneOfB n i)) ∧ w' = w := by
  by_cases h1 : 0 ≤ i
  · by_cases h2 : i < n
    · rw [oneOfB_iff.2 ⟨h1, h2⟩]
      go_enter Tryz.func66, Tryz.ntmps66
      go_wp2
      go_ret
      exact ⟨rfl, rfl⟩
    · rw [oneOfB_no.2 (fun h => h2 h.2)]
      go_enter Tryz.func66, Tryz.ntmps66
      go_wp2
      go_ret
      exact ⟨rfl, rfl⟩
  · rw [oneOfB_no.2 (fun h => h1 h.1)]
    go_enter Tryz.func66, Tryz.ntmps66
    go_wp2
    go_ret
    exact ⟨rfl, rfl⟩

theorem resB_take {n : Int} {l : List Int} {k : Nat} {x : Int} (h : l[k]? = some x) : resB n (l.take (k + 1)) = (resB n (l.take k) && oneOfB n x) := by
  obtain ⟨hk, rfl⟩ := List.getElem?_eq_some_iff.1 h
  unfold resB
  rw [List.take_succ_eq_append_getElem hk]
  simp only [List.all_append, List.all_cons, List.all_nil, Bool.and_true]
theorem resB_no {n : Int} {l : List Int} {k : Nat} {x : Int} (h : l[k]? = some x) (hx : oneOfB n x = false) : resB n l = false := by
  unfold resB
  rw [List.all_eq_false]
  exact ⟨x, List.mem_of_getElem? h, by simp [hx]⟩

set_option maxHeartbeats 1000000 in
theorem resources_any (co sy la mo : Int) (v : Value) (l : List Int) (w : World) (hv : Ints w v l) (hl : l.length ≤ 1000000) :
    Calls Tryz.prog 65 #[.agg #[.int .i64 co, .int .i64 sy, .int .i64 la, .int .i64 mo, v]] w fun e w' => e = .returned (.bool (resAllB sy l)) ∧ Below w.heap.size w w' := by
  rcases hv with ⟨rfl, a, cap, rfl⟩ | ⟨b, cap, rfl, hb, hc⟩
  · go_enter Tryz.func65, Tryz.ntmps65
    go_wp2
    go_loop [12] (fun i => i = .int .i64 0) (fun _ => 0)
    case atStart => rfl
    case round =>
      subst hrel
      go_wp2
      go_ret
      exact ⟨rfl, balloc _ _⟩
  · by_cases h6 : l.length ≤ 6
    · have hn : ¬ (6 < (l.length : Int)) := by omega
      have hw : ¬ b = w.heap.size := by omega
      have hr : resAllB sy l = resB sy l := by unfold resAllB; simp [h6]
      rw [hr]
      clear hr
      have HC : Hid (∀ (j : Nat) (x : Int), l[j]? = some x → w.cell? ⟨b, j, none⟩ = some (.int .i64 x)) := hc
      clear hc
      go_enter Tryz.func65, Tryz.ntmps65
      go_wp2
      go_loop [12] (fun i => ∃ k : Nat, k ≤ l.length ∧ i = .int .i64 k ∧ resB sy (l.take k) = true) (fun i => l.length - (intOf i).toNat)
      case atStart => exact ⟨0, Nat.zero_le _, rfl, rfl⟩
      case round =>
        obtain ⟨k, hk, rfl, hh⟩ := hrel
        have HH : Hid (resB sy (l.take k) = true) := hh
        clear hh
        by_cases hlt : k < l.length
        · obtain ⟨x, hx⟩ : ∃ x, l[k]? = some x := ⟨_, List.getElem?_eq_getElem hlt⟩
          have cx := HC.out k x hx
          have HX : Hid (l[k]? = some x) := hx
          clear hx
          cases ho : oneOfB sy x
          · go_wp2_with (go_at_call 66; refine (one_of _ _ _).mono ?_; rintro e w' ⟨rfl, rfl⟩)
            go_ret
            exact ⟨ret_bool (resB_no HX.out ho).symm, balloc _ _⟩
          · go_wp2_with (go_at_call 66; refine (one_of _ _ _).mono ?_; rintro e w' ⟨rfl, rfl⟩)
            go_round
            case rel => exact ⟨k + 1, by omega, by go_num, by rw [resB_take HX.out, HH.out, ho]; rfl⟩
            case measure => simp [intOf]; omega
        · go_wp2
          go_ret
          have e : l.take k = l := List.take_of_length_le (by omega)
          have := HH.out
          rw [e] at this
          exact ⟨ret_bool this.symm, balloc _ _⟩
    · have hn : 6 < (l.length : Int) := by omega
      have hr : resAllB sy l = false := by unfold resAllB; simp [h6]
      rw [hr]
      clear hr
      go_enter Tryz.func65, Tryz.ntmps65
      go_wp2
      go_ret
      exact ⟨rfl, balloc _ _⟩
end Go.Proofs.YtakdliecjfeedaaGreatDoor

/- The contracts of rule.Config, Load, Piece, sections, Task. -/
namespace Go.Proofs.YtakdliecjfeedaaGreatDoor
open Go Go.RowKit

set_option maxHeartbeats 1000000 in
theorem rconfig_any (co sy la mo : Int) (v : Value) (l : List Int) (w : World) (hv : Ints w v l) (hl : l.length ≤ 1000000) :
    Calls Tryz.prog 50 #[.agg #[.int .i64 co, .int .i64 sy, .int .i64 la, .int .i64 mo, v]] w fun e w' => e = .returned (.bool (cfgB ⟨co, sy, la, mo, l⟩)) ∧ Below w.heap.size w w' := by
  have hx := hv.below (balloc w (.cells #[.int .i64 co, .int .i64 sy, .int .i64 la, .int .i64 mo, v] 24))
  obtain ⟨a, cap, rfl⟩ := hv.form
  clear hv
  have HV : Hid (Ints (w.alloc (.cells #[.int .i64 co, .int .i64 sy, .int .i64 la, .int .i64 mo, .slice a l.length cap] 24)) (.slice a l.length cap) l) := hx
  clear hx
  have HR : Hid (cfgB ⟨co, sy, la, mo, l⟩ = (inB co 1 6 && inB sy 0 3 && inB la 0 5 && inB mo 0 5 && resAllB sy l)) := rfl
  rw [HR.out]
  clear HR
  cases h1 : inB co 1 6
  · go_enter Tryz.func50, Tryz.ntmps50
    go_wp2_with (first | (go_at_call 64; refine (within_int _ _ _ _).mono ?_; rintro e w' ⟨rfl, rfl⟩) | (go_at_call 51; refine (within_i64 _ _ _ _).mono ?_; rintro e w' ⟨rfl, rfl⟩))
    go_ret
    exact ⟨rfl, balloc _ _⟩
  cases h2 : inB sy 0 3
  · go_enter Tryz.func50, Tryz.ntmps50
    go_wp2_with (first | (go_at_call 64; refine (within_int _ _ _ _).mono ?_; rintro e w' ⟨rfl, rfl⟩) | (go_at_call 51; refine (within_i64 _ _ _ _).mono ?_; rintro e w' ⟨rfl, rfl⟩))
    go_ret
    exact ⟨rfl, balloc _ _⟩
  cases h3 : inB la 0 5
  · go_enter Tryz.func50, Tryz.ntmps50
    go_wp2_with (first | (go_at_call 64; refine (within_int _ _ _ _).mono ?_; rintro e w' ⟨rfl, rfl⟩) | (go_at_call 51; refine (within_i64 _ _ _ _).mono ?_; rintro e w' ⟨rfl, rfl⟩))
    go_ret
    exact ⟨rfl, balloc _ _⟩
  cases h4 : inB mo 0 5
  · go_enter Tryz.func50, Tryz.ntmps50
    go_wp2_with (first | (go_at_call 64; refine (within_int _ _ _ _).mono ?_; rintro e w' ⟨rfl, rfl⟩) | (go_at_call 51; refine (within_i64 _ _ _ _).mono ?_; rintro e w' ⟨rfl, rfl⟩))
    go_ret
    exact ⟨rfl, balloc _ _⟩
  · go_enter Tryz.func50, Tryz.ntmps50
    go_wp2_with (first | (go_at_call 64; refine (within_int _ _ _ _).mono ?_; rintro e w' ⟨rfl, rfl⟩) | (go_at_call 51; refine (within_i64 _ _ _ _).mono ?_; rintro e w' ⟨rfl, rfl⟩) | (go_at_call 65; refine (resources_any _ _ _ _ _ l _ HV.out hl).mono ?_; rintro e w1 ⟨rfl, g1⟩))
    go_ret
    exact ⟨by simp, btrans (balloc _ _) g1⟩

set_option maxHeartbeats 1000000 in
theorem load_any (c d t : Int) (w : World) :
    Calls Tryz.prog 79 #[.agg #[.int .i64 c, .int .i64 d, .int .i64 t]] w fun e w' => e = .returned (.bool (loadB c d t)) ∧ Below w.heap.size w w' := by
  have HR : Hid (loadB c d t = (inB c 1 20000 && inB t 1 200 && inB d 1 t)) := rfl
  rw [HR.out]
  clear HR
  cases h1 : inB c 1 20000
  · go_enter Tryz.func79, Tryz.ntmps79
    go_wp2_with (go_at_call 51; refine (within_i64 _ _ _ _).mono ?_; rintro e w' ⟨rfl, rfl⟩)
    go_ret
    exact ⟨rfl, balloc _ _⟩
  cases h2 : inB t 1 200
  · go_enter Tryz.func79, Tryz.ntmps79
    go_wp2_with (go_at_call 51; refine (within_i64 _ _ _ _).mono ?_; rintro e w' ⟨rfl, rfl⟩)
    go_ret
    exact ⟨rfl, balloc _ _⟩
  · go_enter Tryz.func79, Tryz.ntmps79
    go_wp2_with (go_at_call 51; refine (within_i64 _ _ _ _).mono ?_; rintro e w' ⟨rfl, rfl⟩)
    go_ret
    exact ⟨by simp, balloc _ _⟩

set_option maxHeartbeats 1000000 in
theorem piece_any (co sy la mo : Int) (a : Option Addr) (n cap : Nat) (core off len c : Int) (w : World) :
    Calls Tryz.prog 87 #[.agg #[.int .i64 co, .int .i64 sy, .int .i64 la, .int .i64 mo, .slice a n cap], .agg #[.int .i64 core, .int .i64 off, .int .i64 len, .int .i64 c]] w fun e w' => e = .returned (.bool (pieceB co core off len c)) ∧ Below w.heap.size w w' := by
  have HR : Hid (pieceB co core off len c = (oneOfB co core && inB len 1 200 && inB off 0 (200 - len) && inB c 1 len)) := rfl
  rw [HR.out]
  clear HR
  cases h1 : oneOfB co core
  · go_enter Tryz.func87, Tryz.ntmps87
    go_wp2_with (first | (go_at_call 51; refine (within_i64 _ _ _ _).mono ?_; rintro e w' ⟨rfl, rfl⟩) | (go_at_call 66; refine (one_of _ _ _).mono ?_; rintro e w' ⟨rfl, rfl⟩))
    go_ret
    exact ⟨rfl, btrans (balloc _ _) (balloc _ _)⟩
  cases h2 : inB len 1 200
  · go_enter Tryz.func87, Tryz.ntmps87
    go_wp2_with (first | (go_at_call 51; refine (within_i64 _ _ _ _).mono ?_; rintro e w' ⟨rfl, rfl⟩) | (go_at_call 66; refine (one_of _ _ _).mono ?_; rintro e w' ⟨rfl, rfl⟩))
    go_ret
    exact ⟨rfl, btrans (balloc _ _) (balloc _ _)⟩
  have hb := inB_iff.1 h2
  obtain ⟨b1, b2⟩ := hb
  cases h3 : inB off 0 (200 - len)
  · go_enter Tryz.func87, Tryz.ntmps87
    go_wp2_with (first | (go_at_call 51; refine (within_i64 _ _ _ _).mono ?_; rintro e w' ⟨rfl, rfl⟩) | (go_at_call 66; refine (one_of _ _ _).mono ?_; rintro e w' ⟨rfl, rfl⟩))
    go_ret
    exact ⟨rfl, btrans (balloc _ _) (balloc _ _)⟩
  · go_enter Tryz.func87, Tryz.ntmps87
    go_wp2_with (first | (go_at_call 51; refine (within_i64 _ _ _ _).mono ?_; rintro e w' ⟨rfl, rfl⟩) | (go_at_call 66; refine (one_of _ _ _).mono ?_; rintro e w' ⟨rfl, rfl⟩))
    go_ret
    exact ⟨by simp, btrans (balloc _ _) (balloc _ _)⟩
end Go.Proofs.YtakdliecjfeedaaGreatDoor

/- The contracts of rule.sections and rule.Task. -/
namespace Go.Proofs.YtakdliecjfeedaaGreatDoor
open Go Go.RowKit

theorem secsB_step {n c lo : Int} {l : List Sec} {k : Nat} {s : Sec} (h : l[k]? = some s) : secsB n c lo (l.drop k) = (secB n c lo s && secsB n c (s.pos + 1) (l.drop (k + 1))) := by
  obtain ⟨hk, rfl⟩ := List.getElem?_eq_some_iff.1 h
  rw [List.drop_eq_getElem_cons hk]
  rfl
theorem secsB_end {n c lo : Int} {l : List Sec} {k : Nat} (h : l.length ≤ k) : secsB n c lo (l.drop k) = true := by
  rw [List.drop_eq_nil_iff.2 h]; rfl

set_option maxHeartbeats 4000000 in
theorem sections_any (co sy la mo : Int) (a : Option Addr) (n cap : Nat) (c d t : Int) (v : Value) (l : List Sec) (w : World) (hv : Secs w v l) (hl : l.length ≤ 1000000) (hc1 : 1 ≤ c) (hc2 : c ≤ 200) :
    Calls Tryz.prog 52 #[.agg #[.int .i64 co, .int .i64 sy, .int .i64 la, .int .i64 mo, .slice a n cap], .agg #[.int .i64 c, .int .i64 d, .int .i64 t, v]] w fun e w' => e = .returned (.bool (secsAllB n ⟨c, d, t, l⟩)) ∧ Below w.heap.size w w' := by
  have HR : Hid (secsAllB n ⟨c, d, t, l⟩ = (decide (l.length ≤ 2) && secsB n c 1 l)) := rfl
  rw [HR.out]
  clear HR
  rcases hv with ⟨rfl, a', cap', rfl⟩ | ⟨b, cap', rfl, hb, hc⟩
  · go_enter Tryz.func52, Tryz.ntmps52
    go_wp2
    go_loop [15] (fun i => i = .int .i64 0) (fun _ => 0)
    case atStart => rfl
    case round =>
      subst hrel
      go_wp2
      go_ret
      exact ⟨rfl, btrans (balloc _ _) (balloc _ _)⟩
  · by_cases h2 : l.length ≤ 2
    · have hn : ¬ (2 < (l.length : Int)) := by omega
      have hr : (decide (l.length ≤ 2) && secsB n c 1 l) = secsB n c 1 l := by simp [h2]
      rw [hr]
      clear hr
      have HC : Hid (∀ j s, l[j]? = some s → w.cell? ⟨b, j * 3, none⟩ = some (.int .i64 s.res) ∧ w.cell? ⟨b, j * 3 + 1, none⟩ = some (.int .i64 s.pos) ∧ w.cell? ⟨b, j * 3 + 2, none⟩ = some (.int .i64 s.len)) := hc
      clear hc
      go_enter Tryz.func52, Tryz.ntmps52
      go_wp2
      generalize hW : (w.alloc _).alloc _ = W
      have cW : W.cell? ⟨w.heap.size + 1, 0, none⟩ = some (.int .i64 c) := by rw [← hW]; simp
      have cA : W.cell? ⟨w.heap.size, 4, none⟩ = some (.slice a n cap) := by rw [← hW]; simp
      have sW : W.heap.size = w.heap.size + 2 := by rw [← hW]; simp
      have bW : Below w.heap.size w W := by rw [← hW]; exact btrans (balloc _ _) (balloc _ _)
      clear hW
      go_loopw [5, 15] (fun f i wr => ∃ k : Nat, ∃ lo : Int, k ≤ l.length ∧ i = .int .i64 k ∧ f = .int .i64 lo ∧ 1 ≤ lo ∧ lo ≤ 200 ∧ secsB n c 1 l = secsB n c lo (l.drop k) ∧ Below W.heap.size W wr) (fun _ i _ => l.length - (intOf i).toNat)
      case atStart => exact ⟨0, 1, Nat.zero_le _, rfl, rfl, by omega, by omega, rfl, Below.refl _ _⟩
      case round =>
        obtain ⟨k, lo, hk, rfl, rfl, hlo1, hlo2, hh, hB⟩ := hrel
        have HH : Hid (secsB n c 1 l = secsB n c lo (l.drop k)) := hh
        clear hh
        have s1 := hB.size
        have c1 := (hB.cell (p := ⟨w.heap.size + 1, 0, none⟩) (by show w.heap.size + 1 < W.heap.size; omega)).trans cW
        have c2 := (hB.cell (p := ⟨w.heap.size, 4, none⟩) (by show w.heap.size < W.heap.size; omega)).trans cA
        by_cases hlt : k < l.length
        · obtain ⟨s, hx⟩ : ∃ x, l[k]? = some x := ⟨_, List.getElem?_eq_getElem hlt⟩
          obtain ⟨x1, x2, x3⟩ := HC.out k s hx
          have y1 := ((btrans bW hB).cell (p := ⟨b, k * 3, none⟩) hb).trans x1
          have y2 := ((btrans bW hB).cell (p := ⟨b, k * 3 + 1, none⟩) hb).trans x2
          have y3 := ((btrans bW hB).cell (p := ⟨b, k * 3 + 2, none⟩) hb).trans x3
          have HX : Hid (secsB n c lo (l.drop k) = (secB n c lo s && secsB n c (s.pos + 1) (l.drop (k + 1)))) := secsB_step hx
          have HY : Hid (secB n c lo s = (oneOfB n s.res && inB s.len 1 200 && inB s.pos lo (c - 1))) := rfl
          clear hx x1 x2 x3
          have n1 : b < wr.heap.size := by omega
          have n2 : w.heap.size < wr.heap.size := by omega
          have n3 : w.heap.size + 1 < wr.heap.size := by omega
          clear sW s1
          cases h3 : oneOfB n s.res
          · go_wp2_with (first | (go_at_call 51; refine (within_i64 _ _ _ _).mono ?_; rintro e w' ⟨rfl, rfl⟩) | (go_at_call 66; refine (one_of _ _ _).mono ?_; rintro e w' ⟨rfl, rfl⟩))
            go_ret
            exact ⟨ret_bool (by rw [HH.out, HX.out, HY.out, h3]; rfl), btrans bW (btrans hB (balloc _ _))⟩
          cases h4 : inB s.len 1 200
          · go_wp2_with (first | (go_at_call 51; refine (within_i64 _ _ _ _).mono ?_; rintro e w' ⟨rfl, rfl⟩) | (go_at_call 66; refine (one_of _ _ _).mono ?_; rintro e w' ⟨rfl, rfl⟩))
            go_ret
            exact ⟨ret_bool (by rw [HH.out, HX.out, HY.out, h3, h4]; rfl), btrans bW (btrans hB (balloc _ _))⟩
          cases h5 : inB s.pos lo (c - 1)
          · go_wp2_with (first | (go_at_call 51; refine (within_i64 _ _ _ _).mono ?_; rintro e w' ⟨rfl, rfl⟩) | (go_at_call 66; refine (one_of _ _ _).mono ?_; rintro e w' ⟨rfl, rfl⟩))
            go_ret
            exact ⟨ret_bool (by rw [HH.out, HX.out, HY.out, h3, h4, h5]; rfl), btrans bW (btrans hB (balloc _ _))⟩
          · obtain ⟨p1, p2⟩ := inB_iff.1 h5
            have q1 : 1 ≤ s.pos := by omega
            have q2 : s.pos ≤ 199 := by omega
            go_wp2_with (first | (go_at_call 51; refine (within_i64 _ _ _ _).mono ?_; rintro e w' ⟨rfl, rfl⟩) | (go_at_call 66; refine (one_of _ _ _).mono ?_; rintro e w' ⟨rfl, rfl⟩))
            go_round
            case rel => exact ⟨k + 1, s.pos + 1, by omega, by go_num, rfl, by omega, by omega, by rw [HH.out, HX.out, HY.out, h3, h4, h5]; simp, btrans hB (balloc _ _)⟩
            case measure => simp [intOf]; omega
        · go_wp2
          go_ret
          exact ⟨ret_bool (by rw [HH.out, secsB_end (by omega)]), btrans bW hB⟩
    · have hn : 2 < (l.length : Int) := by omega
      have hr : (decide (l.length ≤ 2) && secsB n c 1 l) = false := by simp [h2]
      rw [hr]
      clear hr
      go_enter Tryz.func52, Tryz.ntmps52
      go_wp2
      go_ret
      exact ⟨rfl, btrans (balloc _ _) (balloc _ _)⟩

set_option maxHeartbeats 4000000 in
theorem rtask_any (co sy la mo : Int) (v : Value) (l : List Int) (c d t : Int) (u : Value) (m : List Sec) (w : World) (hv : Ints w v l) (hl : l.length ≤ 1000000) (hu : Secs w u m) (hm : m.length ≤ 1000000) :
    Calls Tryz.prog 39 #[.agg #[.int .i64 co, .int .i64 sy, .int .i64 la, .int .i64 mo, v], .agg #[.int .i64 c, .int .i64 d, .int .i64 t, u]] w fun e w' => e = .returned (.bool (cfgB ⟨co, sy, la, mo, l⟩ && tskB l.length ⟨c, d, t, m⟩)) ∧ Below w.heap.size w w' := by
  have b0 := btrans (balloc w (.cells #[.int .i64 co, .int .i64 sy, .int .i64 la, .int .i64 mo, v] 24)) (balloc _ (.cells #[.int .i64 c, .int .i64 d, .int .i64 t, u] 34))
  have hx := hv.below b0
  have hy := hu.below b0
  obtain ⟨a, cap, rfl⟩ := hv.form
  obtain ⟨a', cap', rfl⟩ := hu.form
  clear hv hu
  have HV : Hid (Ints _ (.slice a l.length cap) l) := hx
  have HU : Hid (Secs _ (.slice a' m.length cap') m) := hy
  have HB : Hid (Below _ _ _) := b0
  clear hx hy b0
  have HR : Hid ((cfgB ⟨co, sy, la, mo, l⟩ && tskB l.length ⟨c, d, t, m⟩) = (cfgB ⟨co, sy, la, mo, l⟩ && (inB t 1 200 && inB d 1 t && inB c 1 d && secsAllB l.length ⟨c, d, t, m⟩))) := rfl
  rw [HR.out]
  clear HR
  go_enter Tryz.func39, Tryz.ntmps39
  go_wp2_with fail
  refine (rconfig_any _ _ _ _ _ l _ HV.out hl).mono ?_
  rintro e w1 ⟨rfl, g1⟩
  obtain ⟨f1, f2⟩ := bcell g1
  have HU1 : Hid (Secs w1 (.slice a' m.length cap') m) := HU.out.below g1
  have HB1 : Hid (Below w.heap.size w w1) := btrans HB.out g1
  have HS : Hid (Below _ _ _) := g1
  clear g1 HU HV HB
  cases h0 : cfgB ⟨co, sy, la, mo, l⟩
  · go_wp2_with fail
    go_ret
    exact ⟨ret_bool (by simp [h0]), HB1.out⟩
  cases h1 : inB t 1 200
  · go_wp2_with (go_at_call 51; refine (within_i64 _ _ _ _).mono ?_; rintro e w' ⟨rfl, rfl⟩)
    go_ret
    exact ⟨ret_bool (by simp [h0, h1]), HB1.out⟩
  cases h2 : inB d 1 t
  · go_wp2_with (go_at_call 51; refine (within_i64 _ _ _ _).mono ?_; rintro e w' ⟨rfl, rfl⟩)
    go_ret
    exact ⟨ret_bool (by simp [h0, h1, h2]), HB1.out⟩
  cases h3 : inB c 1 d
  · go_wp2_with (go_at_call 51; refine (within_i64 _ _ _ _).mono ?_; rintro e w' ⟨rfl, rfl⟩)
    go_ret
    exact ⟨ret_bool (by simp [h0, h1, h2, h3]), HB1.out⟩
  · have q1 := inB_iff.1 h1
    have q2 := inB_iff.1 h2
    have q3 := inB_iff.1 h3
    have k1 : 1 ≤ c := by omega
    have k2 : c ≤ 200 := by omega
    clear q1 q2 q3
    go_wp2_with (first | (go_at_call 51; refine (within_i64 _ _ _ _).mono ?_; rintro e w' ⟨rfl, rfl⟩) | (go_at_call 52; refine (sections_any _ _ _ _ _ _ _ _ _ _ _ m _ HU1.out hm k1 k2).mono ?_; rintro e w2 ⟨rfl, g2⟩))
    go_ret
    exact ⟨ret_bool (by simp [h0, h1, h2, h3]), btrans HB1.out g2⟩
end Go.Proofs.YtakdliecjfeedaaGreatDoor
