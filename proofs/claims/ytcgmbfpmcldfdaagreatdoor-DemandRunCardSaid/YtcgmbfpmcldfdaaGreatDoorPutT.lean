/- The contracts of note.widest and note.PutTask. -/
import Derived.Test.YtcgmbfpmcldfdaaGreatDoorPut
import Derived.Deep.OwnRows
namespace Go.Proofs.YtcgmbfpmcldfdaaGreatDoor
open Go Go.RowKit

def six0 : List Int := [0, 0, 0, 0, 0, 0]
set_option maxHeartbeats 1000000 in
theorem widest_any (w : World) :
    Calls Tryz.prog 43 #[] w fun e w' => ∃ u, e = .returned (.agg #[.int .i64 1, .int .i64 1, .int .i64 0, .int .i64 0, u]) ∧ Ints w' u six0 ∧ Below w.heap.size w w' := by
  have hmk : ∀ w : World, (Instr.makeSlice 23 (.int .i64 6) (.int .i64 6)).run Tryz.prog w = .ok (.slice (some ⟨w.heap.size, 0, none⟩) 6 6) (w.alloc (.cells #[.int .i64 0, .int .i64 0, .int .i64 0, .int .i64 0, .int .i64 0, .int .i64 0] 3)) := by
    intro w
    have h := run_make_row' (P := Tryz.prog) 23 3 (.int .i64 0) 8 Tryz.underlying23 infoI rfl .i64 .i64 6 (by omega) (by omega) w
    have e : madeCells #[Value.int .i64 0] 6 = #[.int .i64 0, .int .i64 0, .int .i64 0, .int .i64 0, .int .i64 0, .int .i64 0] := by kernel_rfl
    rw [e] at h
    exact h
  go_enter Tryz.func43, Tryz.ntmps43
  go_wp2_with fail
  refine bodyPost_ret (v := .agg #[.int .i64 1, .int .i64 1, .int .i64 0, .int .i64 0, .slice (some ⟨w.heap.size + 1, 0, none⟩) 6 6]) (by simp [results, Tryz.results43, go_sem]) rfl ⟨_, rfl, ?_, btrans (balloc _ _) (balloc _ _)⟩
  refine .inr ⟨w.heap.size + 1, 6, rfl, by simp, fun j x hj => ?_⟩
  have hl : j < 6 := (List.getElem?_eq_some_iff.1 hj).1
  match j, hl, hj with
  | 0, _, hj => simp [six0] at hj; subst hj; simp
  | 1, _, hj => simp [six0] at hj; subst hj; simp
  | 2, _, hj => simp [six0] at hj; subst hj; simp
  | 3, _, hj => simp [six0] at hj; subst hj; simp
  | 4, _, hj => simp [six0] at hj; subst hj; simp
  | 5, _, hj => simp [six0] at hj; subst hj; simp
/-- A task in a box; the rest as it was. -/
structure TBox (w0 : World) (g : Nat) (cs : Array Value) (t : TypeId) (w : World) : Prop where
  env : Env w
  blk : Blk w g cs t
  bel : Below w0.heap.size w0 w
theorem TBox.below {w0 w w' : World} {g : Nat} {cs : Array Value} {t : TypeId} (h : TBox w0 g cs t w) (k : Below w.heap.size w w') : TBox w0 g cs t w' := ⟨h.env.below k, h.blk.below k, btrans h.bel k⟩
theorem TBox.drew {w0 w : World} {g : Nat} {cs : Array Value} {t : TypeId} (h : TBox w0 g cs t w) : TBox w0 g cs t w.drew := h.below ((Below.refl _ _).drew)
theorem secsT_take {l : List Sec} {k : Nat} {x : Sec} (h : l[k]? = some x) : secsT (l.take (k + 1)) = secsT (l.take k) ++ secT x := by
  obtain ⟨hk, rfl⟩ := List.getElem?_eq_some_iff.1 h
  rw [List.take_succ_eq_append_getElem hk]
  simp only [secsT, List.flatMap_append, List.flatMap_cons, List.flatMap_nil, List.append_nil]
theorem six_ok : cfgB ⟨1, 1, 0, 0, six0⟩ = true := by decide
theorem rtask6 (u : Value) (c d t : Int) (v : Value) (m : List Sec) (w : World) (hu : Ints w u six0) (hv : Secs w v m) (hm : m.length ≤ 1000000) :
    Calls Tryz.prog 33 #[.agg #[.int .i64 1, .int .i64 1, .int .i64 0, .int .i64 0, u], .agg #[.int .i64 c, .int .i64 d, .int .i64 t, v]] w fun e w' => e = .returned (.bool (tskB 6 ⟨c, d, t, m⟩)) ∧ Below w.heap.size w w' := by
  have h := rtask_any 1 1 0 0 u six0 c d t v m w hu (by decide) hv hm
  rw [six_ok, Bool.true_and] at h
  exact h

set_option maxHeartbeats 8000000 in
set_option maxRecDepth 100000 in
theorem putTsk_any (c d t : Int) (v : Value) (m : List Sec) (w : World) (hE : Env w) (hv : Secs w v m) (hm : m.length ≤ 1000000) :
    Calls Tryz.prog 28 #[.agg #[.int .i64 c, .int .i64 d, .int .i64 t, v]] w fun e w' => ∃ q, e = .returned (.string q) ∧ q.data.toList = putTskL ⟨c, d, t, m⟩ ∧ Below w.heap.size w w' := by
  obtain ⟨a, cap, e⟩ := hv.form
  subst e
  have HV : Hid (Secs w (.slice a m.length cap) m) := hv
  have P0 : Hid (TBox w w.heap.size #[.int .i64 c, .int .i64 d, .int .i64 t, .slice a m.length cap] 48 (w.alloc (.cells #[.int .i64 c, .int .i64 d, .int .i64 t, .slice a m.length cap] 48))) :=
    ⟨hE.below (balloc _ _), heap_alloc_new _ _, balloc _ _⟩
  clear hv hE
  go_enter Tryz.func28, Tryz.ntmps28
  go_wp2_with fail
  generalize hW : w.alloc _ = W0 at P0 ⊢
  clear hW
  have c0 : W0.cell? ⟨w.heap.size, 0, none⟩ = some (.int .i64 c) := P0.out.blk.cell 0
  have c1 : W0.cell? ⟨w.heap.size, 1, none⟩ = some (.int .i64 d) := P0.out.blk.cell 1
  have c2 : W0.cell? ⟨w.heap.size, 2, none⟩ = some (.int .i64 t) := P0.out.blk.cell 2
  have c3 : W0.cell? ⟨w.heap.size, 3, none⟩ = some (.slice a m.length cap) := P0.out.blk.cell 3
  go_region_held3 (fun w' => w'.cell? ⟨w.heap.size, 0, none⟩ = some (.int .i64 c) ∧ w'.cell? ⟨w.heap.size, 1, none⟩ = some (.int .i64 d) ∧ w'.cell? ⟨w.heap.size, 2, none⟩ = some (.int .i64 t) ∧ w'.cell? ⟨w.heap.size, 3, none⟩ = some (.slice a m.length cap)) (first | exact ⟨c0, c1, c2, c3⟩ | go_keep | exact ⟨d0, d1, d2, d3⟩ | exact ⟨e0, e1, e2, e3⟩)
    (first | (go_at_call 43; refine (widest_any _).mono ?_; rintro e w1 ⟨u, rfl, iu, g1⟩; have P1 : Hid (TBox w w.heap.size #[.int .i64 c, .int .i64 d, .int .i64 t, .slice a m.length cap] 48 w1) := (by first | exact P0.out.below g1 | exact P0.out.drew.below g1); have d0 : w1.cell? ⟨w.heap.size, 0, none⟩ = some (.int .i64 c) := P1.out.blk.cell 0; have d1 : w1.cell? ⟨w.heap.size, 1, none⟩ = some (.int .i64 d) := P1.out.blk.cell 1; have d2 : w1.cell? ⟨w.heap.size, 2, none⟩ = some (.int .i64 t) := P1.out.blk.cell 2; have d3 : w1.cell? ⟨w.heap.size, 3, none⟩ = some (.slice a m.length cap) := P1.out.blk.cell 3; have IU : Hid (Ints w1 u six0) := iu; clear g1 iu) | (go_at_call 33; refine (rtask6 u c d t (.slice a m.length cap) m _ (by first | exact IU.out | exact IU.out.below ((Below.refl _ _).drew)) (by first | exact HV.out.below P1.out.bel | exact HV.out.below P1.out.drew.bel) hm).mono ?_; rintro e w2 ⟨rfl, g2⟩; have P2 : Hid (TBox w w.heap.size #[.int .i64 c, .int .i64 d, .int .i64 t, .slice a m.length cap] 48 w2) := (by first | exact P1.out.below g2 | exact P1.out.drew.below g2); have e0 : w2.cell? ⟨w.heap.size, 0, none⟩ = some (.int .i64 c) := P2.out.blk.cell 0; have e1 : w2.cell? ⟨w.heap.size, 1, none⟩ = some (.int .i64 d) := P2.out.blk.cell 1; have e2 : w2.cell? ⟨w.heap.size, 2, none⟩ = some (.int .i64 t) := P2.out.blk.cell 2; have e3 : w2.cell? ⟨w.heap.size, 3, none⟩ = some (.slice a m.length cap) := P2.out.blk.cell 3; clear g2))
  clear c0 c1 c2 c3 d0 d1 d2 d3 P0 P1 IU
  cases hb : tskB 6 ⟨c, d, t, m⟩
  · go_wp2_with fail
    go_ret
    exact ⟨_, rfl, by unfold putTskL; rw [hb]; rfl, P2.out.bel⟩
  · obtain ⟨n1, n2, n3, n4, n5, n6⟩ := tskB_facts hb
    have HP : Hid (putTskL ⟨c, d, t, m⟩ = putTskT ⟨c, d, t, m⟩) := by unfold Hid putTskL; rw [hb]; rfl
    have N6 : Hid (∀ s ∈ m, (0 ≤ s.res ∧ s.res < 6) ∧ (1 ≤ s.len ∧ s.len ≤ 200) ∧ 1 ≤ s.pos ∧ s.pos ≤ c - 1) := n6
    simp only at n1 n2 n3 n4 n5
    clear n6 hb
    have z1 := dec_len (x := c) (by omega)
    have z2 := dec_len (x := d) (by omega)
    have z3 := dec_len (x := t) (by omega)
    have y1 : ¬ 9223372036854775807 < (dec c).length + 1 := by omega
    have y2 : ¬ 9223372036854775807 < (dec c).length + 1 + (dec d).length := by omega
    have y3 : ¬ 9223372036854775807 < (dec c).length + 1 + (dec d).length + 1 := by omega
    have y4 : ¬ 9223372036854775807 < (dec c).length + 1 + (dec d).length + 1 + (dec t).length := by omega
    go_wp2_with fail
    go_region_held3 (fun w' => w'.cell? ⟨w.heap.size, 0, none⟩ = some (.int .i64 c) ∧ w'.cell? ⟨w.heap.size, 1, none⟩ = some (.int .i64 d) ∧ w'.cell? ⟨w.heap.size, 2, none⟩ = some (.int .i64 t)) (first | exact ⟨e0, e1, e2⟩ | go_keep | exact ⟨r0, r1, r2⟩ | exact ⟨s0, s1, s2⟩ | exact ⟨u0, u1, u2⟩) (first | (go_at_call 42; refine (num_any c (by omega) (by omega) _ (by first | exact P2.out.env | exact P2.out.drew.env)).mono ?_; rintro e w3 ⟨rfl, g3⟩; have P3 : Hid (TBox w (w.heap.size) #[.int .i64 c, .int .i64 d, .int .i64 t, .slice a m.length cap] 48 w3) := (by first | exact P2.out.below g3 | exact P2.out.drew.below g3); have r0 : w3.cell? ⟨w.heap.size, 0, none⟩ = some (.int .i64 c) := P3.out.blk.cell 0; have r1 : w3.cell? ⟨w.heap.size, 1, none⟩ = some (.int .i64 d) := P3.out.blk.cell 1; have r2 : w3.cell? ⟨w.heap.size, 2, none⟩ = some (.int .i64 t) := P3.out.blk.cell 2; clear g3) | (go_at_call 42; refine (num_any d (by omega) (by omega) _ (by first | exact P3.out.env | exact P3.out.drew.env)).mono ?_; rintro e w4 ⟨rfl, g4⟩; have P4 : Hid (TBox w (w.heap.size) #[.int .i64 c, .int .i64 d, .int .i64 t, .slice a m.length cap] 48 w4) := (by first | exact P3.out.below g4 | exact P3.out.drew.below g4); have s0 : w4.cell? ⟨w.heap.size, 0, none⟩ = some (.int .i64 c) := P4.out.blk.cell 0; have s1 : w4.cell? ⟨w.heap.size, 1, none⟩ = some (.int .i64 d) := P4.out.blk.cell 1; have s2 : w4.cell? ⟨w.heap.size, 2, none⟩ = some (.int .i64 t) := P4.out.blk.cell 2; clear g4) | (go_at_call 42; refine (num_any t (by omega) (by omega) _ (by first | exact P4.out.env | exact P4.out.drew.env)).mono ?_; rintro e w5 ⟨rfl, g5⟩; have P5 : Hid (TBox w (w.heap.size) #[.int .i64 c, .int .i64 d, .int .i64 t, .slice a m.length cap] 48 w5) := (by first | exact P4.out.below g5 | exact P4.out.drew.below g5); have u0 : w5.cell? ⟨w.heap.size, 0, none⟩ = some (.int .i64 c) := P5.out.blk.cell 0; have u1 : w5.cell? ⟨w.heap.size, 1, none⟩ = some (.int .i64 d) := P5.out.blk.cell 1; have u2 : w5.cell? ⟨w.heap.size, 2, none⟩ = some (.int .i64 t) := P5.out.blk.cell 2; clear g5))
    generalize hT : (((((⟨(dec c).toArray⟩ : ByteArray) ++ (⟨#[47]⟩ : ByteArray)) ++ (⟨(dec d).toArray⟩ : ByteArray)) ++ (⟨#[47]⟩ : ByteArray)) ++ (⟨(dec t).toArray⟩ : ByteArray)) = T
    have HT : Hid (T.data.toList = dec c ++ (47 :: (dec d ++ (47 :: dec t)))) := by
      unfold Hid
      rw [← hT]
      simp
    have hTs : T.size ≤ 20 := by
      rw [← size_len, HT.out]
      simp
      omega
    have HF : Hid (putTskL ⟨c, d, t, m⟩ = T.data.toList ++ secsT m) := by
      unfold Hid
      rw [HP.out, putTskT, HT.out]
      simp only [List.append_assoc, List.cons_append]
    have c3 : w5.cell? ⟨w.heap.size, 3, none⟩ = some (.slice a m.length cap) := P5.out.blk.cell 3
    have B5 : Hid (Below w.heap.size w w5) := P5.out.bel
    have E5 : Hid (Env w5) := P5.out.env
    clear hT HT z1 z2 z3 y1 y2 y3 y4 e0 e1 e2 e3 r0 r1 r2 s0 s1 s2 u0 u1 u2 P2 P3 P4 P5 HP
    by_cases hnil : m = []
    · subst hnil
      go_wp2_with fail
      go_loop [3, 26] (fun q i => q = .string T ∧ i = .int .i64 0) (fun _ _ => 0)
      case atStart => exact ⟨rfl, rfl⟩
      case round =>
        obtain ⟨rfl, rfl⟩ := hrel
        go_wp2_with fail
        go_ret
        exact ⟨_, rfl, by rw [HF.out]; simp [secsT], B5.out⟩
    · rcases HV.out with ⟨hn, _⟩ | ⟨b, cap', e, hb, hc⟩
      · exact absurd hn hnil
      simp only [Value.slice.injEq] at e
      obtain ⟨rfl, -, rfl⟩ := e
      have HC : Hid (∀ j s, m[j]? = some s → w.cell? ⟨b, j * 3, none⟩ = some (.int .i64 s.res) ∧ w.cell? ⟨b, j * 3 + 1, none⟩ = some (.int .i64 s.pos) ∧ w.cell? ⟨b, j * 3 + 2, none⟩ = some (.int .i64 s.len)) := hc
      have h0 : 0 < m.length := List.length_pos_iff.2 hnil
      clear hc hnil HV
      go_wp2_with fail
      go_loopw [3, 26] (fun q i wr => ∃ (k : Nat) (q' : ByteArray), k ≤ m.length ∧ i = .int .i64 k ∧ q = .string q' ∧ q'.size ≤ 20 + 20 * k ∧ q'.data.toList = T.data.toList ++ secsT (m.take k) ∧ Env wr ∧ Below w.heap.size w wr) (fun _ i _ => m.length - (intOf i).toNat)
      case atStart => exact ⟨0, T, Nat.zero_le _, rfl, rfl, by omega, by simp [secsT], E5.out, B5.out⟩
      case round =>
        obtain ⟨k, q, hk, rfl, rfl, hq, hh, hE, hB⟩ := hrel
        have HH : Hid (q.data.toList = T.data.toList ++ secsT (m.take k)) := hh
        have HE : Hid (Env wr) := hE
        have HB : Hid (Below w.heap.size w wr) := hB
        have zb : w.heap.size ≤ wr.heap.size := hB.size
        clear hh hE hB
        by_cases hlt : k < m.length
        · obtain ⟨x, hx⟩ : ∃ x, m[k]? = some x := ⟨_, List.getElem?_eq_getElem hlt⟩
          obtain ⟨sr, sp, sl⟩ := x
          obtain ⟨y0, y1, y2⟩ := HC.out k _ hx
          have x0 := (HB.out.cell (p := ⟨b, k * 3, none⟩) hb).trans y0
          have x1 := (HB.out.cell (p := ⟨b, k * 3 + 1, none⟩) hb).trans y1
          have x2 := (HB.out.cell (p := ⟨b, k * 3 + 2, none⟩) hb).trans y2
          have nn := N6.out _ (List.mem_of_getElem? hx)
          simp only at nn x0 x1 x2
          obtain ⟨⟨v1, v2⟩, ⟨v3, v4⟩, v5, v6⟩ := nn
          have HX : Hid (m[k]? = some ⟨sr, sp, sl⟩) := hx
          clear hx y0 y1 y2
          have z1 := dec_len (x := sr) (by omega)
          have z2 := dec_len (x := sp) (by omega)
          have z3 := dec_len (x := sl) (by omega)
          have y1 : ¬ 9223372036854775807 < 1 + (dec sr).length := by omega
          have y2 : ¬ 9223372036854775807 < 1 + (dec sr).length + 1 := by omega
          have y3 : ¬ 9223372036854775807 < 1 + (dec sr).length + 1 + (dec sp).length := by omega
          have y4 : ¬ 9223372036854775807 < 1 + (dec sr).length + 1 + (dec sp).length + 1 := by omega
          have y5 : ¬ 9223372036854775807 < 1 + (dec sr).length + 1 + (dec sp).length + 1 + (dec sl).length := by omega
          have y6 : ¬ 9223372036854775807 < q.size + (1 + (dec sr).length + 1 + (dec sp).length + 1 + (dec sl).length) := by omega
          have P6 : Hid (TBox w wr.heap.size #[.int .i64 sr, .int .i64 sp, .int .i64 sl] 45 (wr.alloc (.cells #[.int .i64 sr, .int .i64 sp, .int .i64 sl] 45))) := ⟨HE.out.below (balloc _ _), heap_alloc_new _ _, btrans HB.out (balloc _ _)⟩
          go_wp2_with fail
          generalize hW : wr.alloc _ = W6 at P6 ⊢
          have p0 : W6.cell? ⟨wr.heap.size, 0, none⟩ = some (.int .i64 sr) := P6.out.blk.cell 0
          have p1 : W6.cell? ⟨wr.heap.size, 1, none⟩ = some (.int .i64 sp) := P6.out.blk.cell 1
          have p2 : W6.cell? ⟨wr.heap.size, 2, none⟩ = some (.int .i64 sl) := P6.out.blk.cell 2
          clear hW x0 x1 x2
          go_region_held3 (fun w' => w'.cell? ⟨wr.heap.size, 0, none⟩ = some (.int .i64 sr) ∧ w'.cell? ⟨wr.heap.size, 1, none⟩ = some (.int .i64 sp) ∧ w'.cell? ⟨wr.heap.size, 2, none⟩ = some (.int .i64 sl)) (first | exact ⟨p0, p1, p2⟩ | go_keep | exact ⟨r0, r1, r2⟩ | exact ⟨s0, s1, s2⟩ | exact ⟨u0, u1, u2⟩) (first | (go_at_call 42; refine (num_any sr (by omega) (by omega) _ (by first | exact P6.out.env | exact P6.out.drew.env)).mono ?_; rintro e w7 ⟨rfl, g7⟩; have P7 : Hid (TBox w (wr.heap.size) #[.int .i64 sr, .int .i64 sp, .int .i64 sl] 45 w7) := (by first | exact P6.out.below g7 | exact P6.out.drew.below g7); have r0 : w7.cell? ⟨wr.heap.size, 0, none⟩ = some (.int .i64 sr) := P7.out.blk.cell 0; have r1 : w7.cell? ⟨wr.heap.size, 1, none⟩ = some (.int .i64 sp) := P7.out.blk.cell 1; have r2 : w7.cell? ⟨wr.heap.size, 2, none⟩ = some (.int .i64 sl) := P7.out.blk.cell 2; clear g7) | (go_at_call 42; refine (num_any sp (by omega) (by omega) _ (by first | exact P7.out.env | exact P7.out.drew.env)).mono ?_; rintro e w8 ⟨rfl, g8⟩; have P8 : Hid (TBox w (wr.heap.size) #[.int .i64 sr, .int .i64 sp, .int .i64 sl] 45 w8) := (by first | exact P7.out.below g8 | exact P7.out.drew.below g8); have s0 : w8.cell? ⟨wr.heap.size, 0, none⟩ = some (.int .i64 sr) := P8.out.blk.cell 0; have s1 : w8.cell? ⟨wr.heap.size, 1, none⟩ = some (.int .i64 sp) := P8.out.blk.cell 1; have s2 : w8.cell? ⟨wr.heap.size, 2, none⟩ = some (.int .i64 sl) := P8.out.blk.cell 2; clear g8) | (go_at_call 42; refine (num_any sl (by omega) (by omega) _ (by first | exact P8.out.env | exact P8.out.drew.env)).mono ?_; rintro e w9 ⟨rfl, g9⟩; have P9 : Hid (TBox w (wr.heap.size) #[.int .i64 sr, .int .i64 sp, .int .i64 sl] 45 w9) := (by first | exact P8.out.below g9 | exact P8.out.drew.below g9); have u0 : w9.cell? ⟨wr.heap.size, 0, none⟩ = some (.int .i64 sr) := P9.out.blk.cell 0; have u1 : w9.cell? ⟨wr.heap.size, 1, none⟩ = some (.int .i64 sp) := P9.out.blk.cell 1; have u2 : w9.cell? ⟨wr.heap.size, 2, none⟩ = some (.int .i64 sl) := P9.out.blk.cell 2; clear g9))
          go_wp2_with fail
          go_round
          case rel =>
            refine ⟨k + 1, _, by omega, by go_num, rfl, ?_, ?_, P9.out.env, P9.out.bel⟩
            · have e1 : (⟨#[32]⟩ : ByteArray).size = 1 := rfl
              have e2 : (⟨#[64]⟩ : ByteArray).size = 1 := rfl
              have e3 : (⟨#[43]⟩ : ByteArray).size = 1 := rfl
              simp only [ByteArray.size_append, e1, e2, e3, size_list]
              omega
            · rw [secsT_take HX.out, app_list, HH.out]
              simp [secT]
          case measure => simp [intOf]; omega
        · go_wp2_with fail
          go_ret
          have e : m.take k = m := List.take_of_length_le (by omega)
          exact ⟨_, rfl, by rw [HF.out, HH.out, e], HB.out⟩
end Go.Proofs.YtcgmbfpmcldfdaaGreatDoor
