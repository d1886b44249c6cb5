/- The contract of the laws' own same: rows that are the same. -/
import Derived.Test.YtakdliecjfeedaaGreatDoorLMay
import Derived.Deep.QuietTactic
import Derived.BigQuiet
namespace Go.Proofs.YtakdliecjfeedaaGreatDoor
open Go Go.RowKit

/-- Rows of loads that may be read. -/
def Rw (w : World) (v : Value) (rows : List (List Sec)) : Prop := ∃ B us, OwnR w B v us rows
theorem Rw.below {w w' : World} {v : Value} {rows : List (List Sec)} (h : Rw w v rows) (g : Below w.heap.size w w') : Rw w' v rows := by
  obtain ⟨B, us, h1⟩ := h
  exact ⟨B, us, h1.below g⟩
/-- What one of the rows reads. -/
theorem Rw.at {w : World} {g n cap k : Nat} {rows : List (List Sec)} {l : List Sec} (h : Rw w (.slice (some ⟨g, 0, none⟩) n cap) rows) (hk : rows[k]? = some l) : ∃ a c, w.cell? ⟨g, k, none⟩ = some (.slice a l.length c) ∧ Secs w (.slice a l.length c) l := by
  obtain ⟨B, us, h1⟩ := h
  obtain ⟨u, hu⟩ : ∃ u, us[k]? = some u := ⟨_, List.getElem?_eq_getElem (by rw [h1.len]; exact (List.getElem?_eq_some_iff.1 hk).1)⟩
  have h2 := h1.row k u l hu hk
  obtain ⟨a, c, e⟩ := h2.form
  subst e
  exact ⟨a, c, (h1.cell hu).1, h2.secs⟩
set_option maxHeartbeats 8000000 in
set_option maxRecDepth 100000 in
theorem same12_any (ga gb N ca cb : Nat) (rows : List (List Sec)) (w : World) (ha : Rw w (.slice (some ⟨ga, 0, none⟩) N ca) rows) (hb : Rw w (.slice (some ⟨gb, 0, none⟩) N cb) rows) (hn : rows.length = N) (hN : N ≤ 6) (hR : ∀ r ∈ rows, r.length ≤ 20000) :
    Calls Tryz.prog 25 #[.slice (some ⟨ga, 0, none⟩) N ca, .slice (some ⟨gb, 0, none⟩) N cb] w fun e w' => e = .returned (.bool true) ∧ Below w.heap.size w w' := by
  have HA : Hid (Rw w (.slice (some ⟨ga, 0, none⟩) N ca) rows) := ha
  have HB : Hid (Rw w (.slice (some ⟨gb, 0, none⟩) N cb) rows) := hb
  have HN : Hid (rows.length = N) := hn
  have HR : Hid (∀ r ∈ rows, r.length ≤ 20000) := hR
  have e0 : ((N : Int) != N) = false := by simp
  clear ha hb hn hR
  go_enter Tryz.func25, Tryz.ntmps25
  go_wp2_with fail
  go_loopw [5] (fun i wr => ∃ k : Nat, k ≤ N ∧ i = .int .i64 k ∧ Hid (Below w.heap.size w wr)) (fun i _ => N - (intOf i).toNat)
  case atStart => exact ⟨0, Nat.zero_le _, rfl, Below.refl _ _⟩
  case round =>
    obtain ⟨k, hk, rfl, hB⟩ := hrel
    have B0 : Hid (Below w.heap.size w wr) := hB.out
    clear hB
    by_cases hlt : k < N
    · obtain ⟨l, hl⟩ : ∃ l, rows[k]? = some l := ⟨_, List.getElem?_eq_getElem (by rw [HN.out]; exact hlt)⟩
      obtain ⟨aa, ka, y1, s1⟩ := (HA.out.below B0.out).at hl
      obtain ⟨ab, kb, y2, s2⟩ := (HB.out.below B0.out).at hl
      have hlen := HR.out l (List.mem_of_getElem? hl)
      have HL : Hid (rows[k]? = some l) := hl
      obtain ⟨M, hM⟩ : ∃ M, l.length = M := ⟨_, rfl⟩
      have HM : Hid (l.length = M) := hM
      rw [hM] at y1 y2 s1 s2 hlen
      have e1 : ((M : Int) != M) = false := by simp
      have q0 : (0 : Int) ≤ (k : Int) := by omega
      have q1 : (k : Int) < (N : Int) := by omega
      have S1 : Hid (Secs wr (.slice aa M ka) l) := s1
      have S2 : Hid (Secs wr (.slice ab M kb) l) := s2
      clear hl hM s1 s2
      go_wp2_with fail
      go_big_quiet (fail)
      go_wp2_with fail
      go_loopw [6] (fun i2 wz => ∃ j : Nat, j ≤ M ∧ i2 = .int .i64 j ∧ Hid (Below wr.heap.size wr wz)) (fun i2 _ => M - (intOf i2).toNat)
      case atStart => exact ⟨0, Nat.zero_le _, rfl, by first | exact bdrew _ | exact bdrewN _ _⟩
      case round =>
        obtain ⟨j, hj, rfl, hZ⟩ := hrel
        rename World => wz
        have Z : Hid (Below wr.heap.size wr wz) := hZ.out
        have z1 := cell_keep y1 hZ.out
        have z2 := cell_keep y2 hZ.out
        clear hZ
        by_cases hjM : j < M
        · obtain ⟨⟨c, d, t⟩, hx⟩ : ∃ x, l[j]? = some x := ⟨_, List.getElem?_eq_getElem (by rw [HM.out]; exact hjM)⟩
          obtain ⟨b1, eb1, _, x0, x1, x2⟩ := secs_at (S1.out.below Z.out) hx
          obtain ⟨b2, eb2, _, x3, x4, x5⟩ := secs_at (S2.out.below Z.out) hx
          subst eb1 eb2
          simp only at x0 x1 x2 x3 x4 x5
          have j0 : (0 : Int) ≤ (j : Int) := by omega
          have j1 : (j : Int) < (M : Int) := by omega
          clear hx
          go_wp2_with fail
          go_big_quiet (fail)
          go_wp2_with fail
          go_round
          case rel => exact ⟨j + 1, by omega, by go_num, Z.out.trans (by first | exact (bdrew _).mono Z.out.size | exact (bdrewN _ _).mono Z.out.size)⟩
          case measure => simp [intOf]; omega
        · go_wp2_with fail
          go_round
          case rel => exact ⟨k + 1, by omega, by go_num, B0.out.trans (Z.out.mono B0.out.size)⟩
          case measure => simp [intOf]; omega
    · go_wp2_with fail
      go_ret
      exact ⟨rfl, B0.out⟩
end Go.Proofs.YtakdliecjfeedaaGreatDoor
