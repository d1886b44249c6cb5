/- Tasks in a row of memory; how long requests wait, by plain lists. -/
import Derived.Test.YtakdliecjfeedaaGreatDoorText2
import Derived.Test.YtakdliecjfeedaaGreatDoorOwn
import Derived.Test.YtakdliecjfeedaaGreatDoorRef3
import Derived.Test.YtakdliecjfeedaaGreatDoorRule3
import Derived.Test.YtakdliecjfeedaaGreatDoorDem2
import Derived.BigQuiet
namespace Go.Proofs.YtakdliecjfeedaaGreatDoor
open Go Go.RowKit

/-- A task as it lies: its sections behind u. -/
structure TV where
  c : Int
  d : Int
  t : Int
  u : Value
  m : List Sec
def TV.tsk (x : TV) : Tsk := ⟨x.c, x.d, x.t, x.m⟩
/-- A slice of tasks, each with its sections. -/
def Tks (w : World) (v : Value) (l : List TV) : Prop :=
  (l = [] ∧ ∃ a cap, v = .slice a 0 cap) ∨ ∃ b o cap, v = .slice (some ⟨b, o, none⟩) l.length cap ∧ b < w.heap.size ∧ ∀ j x, l[j]? = some x → (w.cell? ⟨b, o + j * 4, none⟩ = some (.int .i64 x.c) ∧ w.cell? ⟨b, o + j * 4 + 1, none⟩ = some (.int .i64 x.d) ∧ w.cell? ⟨b, o + j * 4 + 2, none⟩ = some (.int .i64 x.t) ∧ w.cell? ⟨b, o + j * 4 + 3, none⟩ = some x.u) ∧ Secs w x.u x.m
theorem Tks.below {w w' : World} {v : Value} {l : List TV} (h : Tks w v l) (g : Below w.heap.size w w') : Tks w' v l := by
  rcases h with h | ⟨b, o, cap, e, hb, hc⟩
  · exact .inl h
  · refine .inr ⟨b, o, cap, e, Nat.lt_of_lt_of_le hb g.size, fun j x hj => ?_⟩
    obtain ⟨⟨h1, h2, h3, h4⟩, h5⟩ := hc j x hj
    exact ⟨⟨(g.cell (p := ⟨b, _, none⟩) hb).trans h1, (g.cell (p := ⟨b, _, none⟩) hb).trans h2, (g.cell (p := ⟨b, _, none⟩) hb).trans h3, (g.cell (p := ⟨b, _, none⟩) hb).trans h4⟩, h5.below g⟩
theorem Tks.form {w : World} {v : Value} {l : List TV} (h : Tks w v l) : ∃ a cap, v = .slice a l.length cap := by
  rcases h with ⟨rfl, a, cap, e⟩ | ⟨b, o, cap, e, _⟩
  · exact ⟨a, cap, e⟩
  · exact ⟨_, _, e⟩
/-- What one of them reads. -/
theorem Tks.at {w : World} {a : Option Addr} {n cap j : Nat} {l : List TV} {x : TV} (h : Tks w (.slice a n cap) l) (hj : l[j]? = some x) :
    ∃ b o, a = some ⟨b, o, none⟩ ∧ b < w.heap.size ∧ w.cell? ⟨b, o + j * 4, none⟩ = some (.int .i64 x.c) ∧ w.cell? ⟨b, o + j * 4 + 1, none⟩ = some (.int .i64 x.d) ∧ w.cell? ⟨b, o + j * 4 + 2, none⟩ = some (.int .i64 x.t) ∧ w.cell? ⟨b, o + j * 4 + 3, none⟩ = some x.u ∧ Secs w x.u x.m := by
  rcases h with ⟨rfl, _⟩ | ⟨b, o, cap', e, hb, hc⟩
  · simp at hj
  · simp only [Value.slice.injEq] at e
    obtain ⟨⟨h1, h2, h3, h4⟩, h5⟩ := hc j x hj
    exact ⟨b, o, e.1, hb, h1, h2, h3, h4, h5⟩
/-- A part of them. -/
theorem Tks.part {w : World} {b o n cap : Nat} {l : List TV} (h : Tks w (.slice (some ⟨b, o, none⟩) n cap) l) (i k c : Nat) (hi : i + k ≤ l.length) : Tks w (.slice (some ⟨b, o + i * 4, none⟩) k c) ((l.drop i).take k) := by
  have hl : ((l.drop i).take k).length = k := by rw [List.length_take, List.length_drop]; omega
  rcases h with ⟨rfl, _⟩ | ⟨b', o', cap', e, hb, hc⟩
  · simp at hl
    exact .inl ⟨by simp, some ⟨b, o + i * 4, none⟩, c, by rw [hl]⟩
  · simp only [Value.slice.injEq, Option.some.injEq, Addr.mk.injEq] at e
    obtain ⟨⟨rfl, rfl, -⟩, rfl, -⟩ := e
    refine .inr ⟨b, o + i * 4, c, by rw [hl], hb, fun j x hj => ?_⟩
    have hjk : j < k := by have := (List.getElem?_eq_some_iff.1 hj).1; omega
    rw [List.getElem?_take_of_lt hjk, List.getElem?_drop] at hj
    have := hc _ _ hj
    rw [show o + i * 4 + j * 4 = o + (i + j) * 4 by omega]
    exact this

-- how long
def resAt (res : List Int) (r : Int) : Int := (res[r.toNat]?).getD 0
def othL (res : List Int) (ag i : Int) : List TV → Nat → Int
  | [], _ => 0
  | x :: l, j => (if (j : Int) = i then 0 else lonL res ag x.m) + othL res ag i l (j + 1)
theorem oth_take {res : List Int} {ag i : Int} {l : List TV} {k : Nat} {x : TV} (h : l[k]? = some x) (j : Nat) : othL res ag i (l.take (k + 1)) j = othL res ag i (l.take k) j + (if ((j + k : Nat) : Int) = i then 0 else lonL res ag x.m) := by
  induction l generalizing k j with
  | nil => simp at h
  | cons y l ih =>
    cases k with
    | zero => simp at h; subst h; simp [othL]
    | succ k =>
      have := ih (k := k) (by simpa using h) (j + 1)
      simp only [List.take_succ_cons, othL]
      rw [this, show j + 1 + k = j + (k + 1) by omega]
      omega
theorem lonS_bd {res : List Int} {ag n : Int} {s : Sec} (h : 1 ≤ s.len ∧ s.len ≤ 200) (h0 : 0 ≤ n ∧ n ≤ 200) : 0 ≤ lonS res ag n s ∧ lonS res ag n s ≤ 200 := by
  unfold lonS; split <;> omega
theorem lon_bd {res : List Int} {ag : Int} {m : List Sec} (h : ∀ s ∈ m, 1 ≤ s.len ∧ s.len ≤ 200) : 0 ≤ lonL res ag m ∧ lonL res ag m ≤ 200 := by
  have key : ∀ (m : List Sec) (n : Int), (∀ s ∈ m, 1 ≤ s.len ∧ s.len ≤ 200) → 0 ≤ n ∧ n ≤ 200 → 0 ≤ m.foldl (lonS res ag) n ∧ m.foldl (lonS res ag) n ≤ 200 := by
    intro m
    induction m with
    | nil => intro n _ h0; exact h0
    | cons s m ih => intro n hs h0; exact ih _ (fun y hy => hs y (by simp [hy])) (lonS_bd (hs s (by simp)) h0)
  exact key m 0 h (by omega)
theorem oth_bd {res : List Int} {ag i : Int} {l : List TV} (h : ∀ x ∈ l, ∀ s ∈ x.m, 1 ≤ s.len ∧ s.len ≤ 200) (j : Nat) : 0 ≤ othL res ag i l j ∧ othL res ag i l j ≤ 200 * l.length := by
  induction l generalizing j with
  | nil => simp [othL]
  | cons x l ih =>
    have h1 := ih (fun y hy => h y (by simp [hy])) (j + 1)
    have h2 := lon_bd (res := res) (ag := ag) (h x (by simp))
    simp only [othL, List.length_cons]
    split <;> omega
/-- How long the s-th section of the i-th task waits. -/
def secV (la : Int) (res : List Int) (l : List TV) (i s : Int) : Int :=
  if 0 ≤ i ∧ 0 ≤ s then
    match l[i.toNat]? with
    | some x => match x.m[s.toNat]? with
      | some y => 2 * la + y.len + othL res (resAt res y.res) i l 0
      | none => 0
    | none => 0
  else 0
theorem secV_at {la : Int} {res : List Int} {l : List TV} {i s : Nat} {x : TV} {y : Sec} (hx : l[i]? = some x) (hy : x.m[s]? = some y) : secV la res l i s = 2 * la + y.len + othL res (resAt res y.res) i l 0 := by
  unfold secV; rw [if_pos (by omega)]; simp only [Int.toNat_natCast, hx, hy]
theorem secV_no {la : Int} {res : List Int} {l : List TV} {i s : Int} (h : ∀ (a b : Nat) x y, i = a → s = b → l[a]? = some x → x.m[b]? = some y → False) : secV la res l i s = 0 := by
  unfold secV
  split
  · rename_i h0
    split
    · rename_i x hx
      split
      · rename_i y hy
        exact (h i.toNat s.toNat x y (by omega) (by omega) hx hy).elim
      · rfl
    · rfl
  · rfl
/-- The first n sections of the i-th task. -/
def wSum (la : Int) (res : List Int) (l : List TV) (i : Int) : Nat → Int
  | 0 => 0
  | n + 1 => wSum la res l i n + secV la res l i n
def waitV (la : Int) (res : List Int) (l : List TV) (i : Int) : Int :=
  if 0 ≤ i then match l[i.toNat]? with
    | some x => wSum la res l i x.m.length
    | none => 0
  else 0
theorem waitV_at {la : Int} {res : List Int} {l : List TV} {i : Nat} {x : TV} (hx : l[i]? = some x) : waitV la res l i = wSum la res l i x.m.length := by
  unfold waitV; rw [if_pos (by omega)]; simp only [Int.toNat_natCast, hx]
theorem waitV_no {la : Int} {res : List Int} {l : List TV} {i : Int} (h : i < 0 ∨ (l.length : Int) ≤ i) : waitV la res l i = 0 := by
  unfold waitV
  split
  · rw [List.getElem?_eq_none (by omega)]
  · rfl
/-- Tasks that may be. -/
def mayV (n : Nat) (l : List TV) : Bool := decide (l.length ≤ 12) && l.all fun x => tskB n x.tsk
theorem mayV_all {n : Nat} {l : List TV} (h : mayV n l = true) : ∀ x ∈ l, tskB n x.tsk = true := by
  unfold mayV at h
  simp only [Bool.and_eq_true, List.all_eq_true] at h
  exact h.2
theorem mayV_len {n : Nat} {l : List TV} (h : mayV n l = true) : l.length ≤ 12 := by
  unfold mayV at h
  simp only [Bool.and_eq_true, decide_eq_true_eq] at h
  exact h.1
theorem tv_secs {n : Nat} {x : TV} (h : tskB n x.tsk = true) : x.m.length ≤ 2 ∧ ∀ s ∈ x.m, (0 ≤ s.res ∧ s.res < n) ∧ 1 ≤ s.len ∧ s.len ≤ 200 := by
  obtain ⟨-, -, -, -, h5, h6⟩ := tskB_facts h
  exact ⟨h5, fun s hs => ⟨(h6 s hs).1, (h6 s hs).2.1⟩⟩
theorem sec_bd {la : Int} {res : List Int} {l : List TV} (h0 : 0 ≤ la) (h1 : la ≤ 5) (hn : l.length ≤ 1000) (h : ∀ x ∈ l, ∀ s ∈ x.m, 1 ≤ s.len ∧ s.len ≤ 200) (i s : Int) : 0 ≤ secV la res l i s ∧ secV la res l i s ≤ 200210 := by
  unfold secV
  split
  · split
    · rename_i x hx
      split
      · rename_i y hy
        have a := oth_bd (res := res) (ag := resAt res y.res) (i := i) h 0
        have b := h x (List.mem_of_getElem? hx) y (List.mem_of_getElem? hy)
        omega
      · omega
    · omega
  · omega
theorem wSum_bd {la : Int} {res : List Int} {l : List TV} (h0 : 0 ≤ la) (h1 : la ≤ 5) (hn : l.length ≤ 1000) (h : ∀ x ∈ l, ∀ s ∈ x.m, 1 ≤ s.len ∧ s.len ≤ 200) (i : Int) (n : Nat) : 0 ≤ wSum la res l i n ∧ wSum la res l i n ≤ 200210 * n := by
  induction n with
  | zero => simp [wSum]
  | succ n ih =>
    have := sec_bd (res := res) h0 h1 hn h i n
    simp only [wSum]
    omega
end Go.Proofs.YtakdliecjfeedaaGreatDoor

/- The contracts of wait.has, longest, Longest, mayBe. -/
namespace Go.Proofs.YtakdliecjfeedaaGreatDoor
open Go Go.RowKit

theorem hasT_any (a : Option Addr) (n cap : Nat) (i : Int) (w : World) : Calls Tryz.prog 36 #[.slice a n cap, .int .i64 i] w fun e w' => e = .returned (.bool (decide (0 ≤ i) && decide (i < (n : Int)))) ∧ w' = w := by
  by_cases h1 : 0 ≤ i
  · by_cases h2 : i < (n : Int)
    · have HR : Hid ((decide (0 ≤ i) && decide (i < (n : Int))) = true) := by unfold Hid; simp [h1, h2]
      go_enter Tryz.func36, Tryz.ntmps36
      go_wp2
      go_ret
      exact ⟨ret_bool (by first | exact HR.out.symm | (simp; done) | (simp; omega)), rfl⟩
    · have HR : Hid ((decide (0 ≤ i) && decide (i < (n : Int))) = false) := by unfold Hid; simp [h2]
      go_enter Tryz.func36, Tryz.ntmps36
      go_wp2
      go_ret
      exact ⟨ret_bool (by first | exact HR.out.symm | (simp; done) | (simp; omega)), rfl⟩
  · have HR : Hid ((decide (0 ≤ i) && decide (i < (n : Int))) = false) := by unfold Hid; simp [h1]
    go_enter Tryz.func36, Tryz.ntmps36
    go_wp2
    go_ret
    exact ⟨ret_bool (by first | exact HR.out.symm | (simp; done) | (simp; omega)), rfl⟩
theorem hasS_any (a : Option Addr) (n cap : Nat) (i : Int) (w : World) : Calls Tryz.prog 37 #[.slice a n cap, .int .i64 i] w fun e w' => e = .returned (.bool (decide (0 ≤ i) && decide (i < (n : Int)))) ∧ w' = w := by
  by_cases h1 : 0 ≤ i
  · by_cases h2 : i < (n : Int)
    · have HR : Hid ((decide (0 ≤ i) && decide (i < (n : Int))) = true) := by unfold Hid; simp [h1, h2]
      go_enter Tryz.func37, Tryz.ntmps37
      go_wp2
      go_ret
      exact ⟨ret_bool (by first | exact HR.out.symm | (simp; done) | (simp; omega)), rfl⟩
    · have HR : Hid ((decide (0 ≤ i) && decide (i < (n : Int))) = false) := by unfold Hid; simp [h2]
      go_enter Tryz.func37, Tryz.ntmps37
      go_wp2
      go_ret
      exact ⟨ret_bool (by first | exact HR.out.symm | (simp; done) | (simp; omega)), rfl⟩
  · have HR : Hid ((decide (0 ≤ i) && decide (i < (n : Int))) = false) := by unfold Hid; simp [h1]
    go_enter Tryz.func37, Tryz.ntmps37
    go_wp2
    go_ret
    exact ⟨ret_bool (by first | exact HR.out.symm | (simp; done) | (simp; omega)), rfl⟩
theorem ints_at {w : World} {a : Option Addr} {n cap j : Nat} {l : List Int} {y : Int} (h : Ints w (.slice a n cap) l) (hj : l[j]? = some y) : ∃ f, a = some ⟨f, 0, none⟩ ∧ f < w.heap.size ∧ w.cell? ⟨f, j, none⟩ = some (.int .i64 y) := by
  rcases h with ⟨e, _⟩ | ⟨f, cap', e, hf, hc⟩
  · subst e; simp at hj
  · simp only [Value.slice.injEq] at e
    exact ⟨f, e.1, hf, hc j y hj⟩
set_option maxHeartbeats 8000000 in
theorem wlong_any (co sy la mo : Int) (v : Value) (l : List Int) (c d t : Int) (u : Value) (m : List Sec) (ag : Int) (w : World) (hv : Ints w v l) (hl : l.length ≤ 1000000) (hu : Secs w u m) (hm : m.length ≤ 1000000)
    (ok : ∀ s ∈ m, 0 ≤ s.res ∧ s.res < l.length) :
    Calls Tryz.prog 40 #[.agg #[.int .i64 co, .int .i64 sy, .int .i64 la, .int .i64 mo, v], .agg #[.int .i64 c, .int .i64 d, .int .i64 t, u], .int .i64 ag] w fun e w' => e = .returned (.int .i64 (lonL l ag m)) ∧ Below w.heap.size w w' := by
  obtain ⟨a, cap, rfl⟩ := hv.form
  obtain ⟨a2, cap2, rfl⟩ := hu.form
  obtain ⟨n, hn⟩ : ∃ n, n = l.length := ⟨_, rfl⟩
  obtain ⟨q, hq⟩ : ∃ q, q = m.length := ⟨_, rfl⟩
  have HV : Hid (Ints w (.slice a l.length cap) l) := hv
  have HU : Hid (Secs w (.slice a2 m.length cap2) m) := hu
  have OK : Hid (∀ s ∈ m, 0 ≤ s.res ∧ s.res < l.length) := ok
  clear hv hu ok
  rw [← hn] at HV ⊢
  rw [← hq] at HU ⊢
  have HN : Hid (n = l.length) := hn
  have HQ : Hid (q = m.length) := hq
  have n6 : n ≤ 1000000 := by omega
  have q6 : q ≤ 1000000 := by omega
  clear hn hq hl hm
  have BW : Hid (Below w.heap.size w ((w.alloc (.cells #[.int .i64 co, .int .i64 sy, .int .i64 la, .int .i64 mo, .slice a n cap] 24)).alloc (.cells #[.int .i64 c, .int .i64 d, .int .i64 t, .slice a2 q cap2] 34))) := btrans (balloc _ _) (balloc _ _)
  go_enter Tryz.func40, Tryz.ntmps40
  go_wp2_with fail
  generalize hW : (w.alloc _).alloc _ = W at BW
  have cC : Blk W w.heap.size #[.int .i64 co, .int .i64 sy, .int .i64 la, .int .i64 mo, .slice a n cap] 24 := by rw [← hW]; exact (show Blk (w.alloc (.cells #[.int .i64 co, .int .i64 sy, .int .i64 la, .int .i64 mo, .slice a n cap] 24)) w.heap.size #[.int .i64 co, .int .i64 sy, .int .i64 la, .int .i64 mo, .slice a n cap] 24 from heap_alloc_new _ _).below (balloc _ _)
  have KW : Hid (Blk W w.heap.size #[.int .i64 co, .int .i64 sy, .int .i64 la, .int .i64 mo, .slice a n cap] 24) := cC
  have sW : w.heap.size < W.heap.size := cC.lt
  clear hW cC
  go_loopw [7, 13] (fun x i wr => ∃ k : Nat, k ≤ q ∧ i = .int .i64 k ∧ x = .int .i64 (lonL l ag (m.take k)) ∧ Below W.heap.size W wr) (fun _ i _ => q - (intOf i).toNat)
  case atStart => exact ⟨0, Nat.zero_le _, rfl, rfl, Below.refl _ _⟩
  case round =>
    obtain ⟨k, hk, rfl, rfl, hB⟩ := hrel
    have B : Hid (Below W.heap.size W wr) := hB
    have K : Hid (Blk wr w.heap.size #[.int .i64 co, .int .i64 sy, .int .i64 la, .int .i64 mo, .slice a n cap] 24) := KW.out.below hB
    have sr : W.heap.size ≤ wr.heap.size := hB.size
    have BB : Hid (Below w.heap.size w wr) := BW.out.trans (hB.mono (by omega))
    clear hB
    have g4 : wr.cell? ⟨w.heap.size, 4, none⟩ = some (.slice a n cap) := K.out.cell 4
    have n2 : w.heap.size < wr.heap.size := by omega
    by_cases hlt : k < q
    · obtain ⟨⟨r, p, ln⟩, hx⟩ : ∃ x, m[k]? = some x := ⟨_, List.getElem?_eq_getElem (by rw [← HQ.out]; exact hlt)⟩
      obtain ⟨b, e, hb, hb2, x1, x2, x3⟩ := secs_at' HU.out hx BB.out
      subst e
      obtain ⟨r0, r1⟩ := OK.out _ (List.mem_of_getElem? hx)
      simp only at r0 r1
      obtain ⟨j, rfl⟩ : ∃ j : Nat, r = (j : Int) := ⟨r.toNat, by omega⟩
      have hj : j < n := by have := HN.out; omega
      obtain ⟨y, hy⟩ : ∃ y, l[j]? = some y := ⟨_, List.getElem?_eq_getElem (by rw [← HN.out]; exact hj)⟩
      obtain ⟨f, e, hf, xf⟩ := ints_at (HV.out.below BB.out) hy
      subst e
      obtain ⟨X, hX⟩ : ∃ X, lonL l ag (m.take k) = X := ⟨_, rfl⟩
      rw [hX]
      have HX : Hid (lonL l ag (m.take (k + 1)) = if y = ag then max X ln else X) := by
        unfold Hid
        rw [lonL_take hx, hX]
        unfold lonS
        simp only [Int.toNat_natCast, hy, Option.some.injEq]
      clear hx hy hX r0 r1
      by_cases e : y = ag
      · have d0 : (y == ag) = true := by simp [e]
        have HY : Hid (lonL l ag (m.take (k + 1)) = max X ln) := by unfold Hid; rw [HX.out, if_pos e]
        clear e HX
        go_wp2_with fail
        go_round
        case rel => exact ⟨k + 1, by omega, by go_num, by rw [HY.out], btrans B.out (balloc _ _)⟩
        case measure => simp [intOf]; omega
      · have d0 : (y == ag) = false := by simp [e]
        have HY : Hid (lonL l ag (m.take (k + 1)) = X) := by unfold Hid; rw [HX.out, if_neg e]
        clear e HX
        go_wp2_with fail
        go_round
        case rel => exact ⟨k + 1, by omega, by go_num, by rw [HY.out], btrans B.out (balloc _ _)⟩
        case measure => simp [intOf]; omega
    · have e : m.take k = m := List.take_of_length_le (by have := HQ.out; omega)
      rw [e]
      clear e
      go_wp2_with fail
      go_ret
      exact ⟨rfl, BB.out⟩
/-- What Longest answers of whatever task. -/
def lonA (res : List Int) (x : Tsk) (ag : Int) : Int := if tskB res.length x = true then lonL res ag x.secs else 0
set_option maxHeartbeats 4000000 in
theorem wLong_any (co sy la mo : Int) (v : Value) (l : List Int) (c d t : Int) (u : Value) (m : List Sec) (ag : Int) (w : World) (hv : Ints w v l) (hl : l.length ≤ 1000000) (hu : Secs w u m) (hm : m.length ≤ 1000000) (hc : cfgB ⟨co, sy, la, mo, l⟩ = true) :
    Calls Tryz.prog 18 #[.agg #[.int .i64 co, .int .i64 sy, .int .i64 la, .int .i64 mo, v], .agg #[.int .i64 c, .int .i64 d, .int .i64 t, u], .int .i64 ag] w fun e w' => e = .returned (.int .i64 (lonA l ⟨c, d, t, m⟩ ag)) ∧ Below w.heap.size w w' := by
  obtain ⟨a, cap, rfl⟩ := hv.form
  obtain ⟨a2, cap2, rfl⟩ := hu.form
  have HV : Hid (Ints w (.slice a l.length cap) l) := hv
  have HU : Hid (Secs w (.slice a2 m.length cap2) m) := hu
  have HC : Hid (cfgB ⟨co, sy, la, mo, l⟩ = true) := hc
  clear hv hu hc
  have BW : Hid (Below w.heap.size w ((w.alloc (.cells #[.int .i64 co, .int .i64 sy, .int .i64 la, .int .i64 mo, .slice a l.length cap] 24)).alloc (.cells #[.int .i64 c, .int .i64 d, .int .i64 t, .slice a2 m.length cap2] 34))) := btrans (balloc _ _) (balloc _ _)
  go_enter Tryz.func18, Tryz.ntmps18
  go_wp2_with fail
  generalize hW : (w.alloc _).alloc _ = W at BW ⊢
  have cT : Blk W (w.heap.size + 1) #[.int .i64 c, .int .i64 d, .int .i64 t, .slice a2 m.length cap2] 34 := by rw [← hW]; exact blkTwo _ _ _ _
  have cC : Blk W w.heap.size #[.int .i64 co, .int .i64 sy, .int .i64 la, .int .i64 mo, .slice a l.length cap] 24 := by rw [← hW]; exact (show Blk (w.alloc (.cells #[.int .i64 co, .int .i64 sy, .int .i64 la, .int .i64 mo, .slice a l.length cap] 24)) w.heap.size #[.int .i64 co, .int .i64 sy, .int .i64 la, .int .i64 mo, .slice a l.length cap] 24 from heap_alloc_new _ _).below (balloc _ _)
  clear hW
  refine (rtask_any co sy la mo _ l c d t _ m _ (HV.out.below BW.out) hl (HU.out.below BW.out) hm).mono ?_
  rintro e w1 ⟨rfl, g1⟩
  rw [HC.out, Bool.true_and]
  have B1 : Hid (Below w.heap.size w w1) := btrans BW.out g1
  have bC := cC.below g1
  have bT := cT.below g1
  have c0 := bC.cell 0
  have c1 := bC.cell 1
  have c2 := bC.cell 2
  have c3 := bC.cell 3
  have c4 := bC.cell 4
  have t0 := bT.cell 0
  have t1 := bT.cell 1
  have t2 := bT.cell 2
  have t3 := bT.cell 3
  simp at c0 c1 c2 c3 c4 t0 t1 t2 t3
  clear g1 cT cC bC bT
  cases hb : tskB l.length ⟨c, d, t, m⟩
  · have HA : Hid (lonA l ⟨c, d, t, m⟩ ag = 0) := by unfold Hid lonA; rw [hb]; rfl
    clear hb
    go_wp2_with fail
    go_ret
    exact ⟨ret_int HA.out.symm, B1.out⟩
  · have HA : Hid (lonA l ⟨c, d, t, m⟩ ag = lonL l ag m) := by unfold Hid lonA; rw [hb]; rfl
    have HO : Hid (∀ s ∈ m, 0 ≤ s.res ∧ s.res < l.length) := fun s hs => ((tskB_facts hb).2.2.2.2.2 s hs).1
    clear hb
    go_wp2_with fail
    refine (wlong_any co sy la mo _ l c d t _ m ag _ (HV.out.below B1.out) hl (HU.out.below B1.out) hm HO.out).mono ?_
    rintro e w2 ⟨rfl, g2⟩
    have B2 : Hid (Below w.heap.size w w2) := btrans B1.out g2
    clear g2
    go_wp2_with fail
    go_ret
    exact ⟨ret_int HA.out.symm, B2.out⟩
theorem mayV_bad {n k : Nat} {l : List TV} {x : TV} (hx : l[k]? = some x) (h : tskB n x.tsk = false) : mayV n l = false := by
  unfold mayV
  rw [Bool.and_eq_false_iff]
  exact .inr (by rw [List.all_eq_false]; exact ⟨x, List.mem_of_getElem? hx, by simp [h]⟩)
theorem mayV_done {n k : Nat} {l : List TV} (hl : l.length ≤ 12) (hk : ¬ k < l.length) (h : ∀ j x, j < k → l[j]? = some x → tskB n x.tsk = true) : mayV n l = true := by
  unfold mayV
  rw [Bool.and_eq_true, decide_eq_true_eq]
  refine ⟨hl, List.all_eq_true.2 fun x hx => ?_⟩
  obtain ⟨j, hj, e⟩ := List.getElem_of_mem hx
  exact h j x (by omega) (by rw [List.getElem?_eq_getElem hj, e])
set_option maxHeartbeats 8000000 in
theorem wmay_any (co sy la mo : Int) (v : Value) (res : List Int) (a : Option Addr) (n cap : Nat) (l : List TV) (w : World) (hv : Ints w v res) (hr : res.length ≤ 1000000) (hc : cfgB ⟨co, sy, la, mo, res⟩ = true) (hl : Tks w (.slice a n cap) l) (hn : l.length = n) (n6 : n ≤ 1000000) (hm : ∀ x ∈ l, x.m.length ≤ 1000000) :
    Calls Tryz.prog 35 #[.agg #[.int .i64 co, .int .i64 sy, .int .i64 la, .int .i64 mo, v], .slice a n cap] w fun e w' => e = .returned (.bool (mayV res.length l)) ∧ Below w.heap.size w w' := by
  obtain ⟨av, cv, rfl⟩ := hv.form
  have HV : Hid (Ints w (.slice av res.length cv) res) := hv
  have HL : Hid (Tks w (.slice a n cap) l) := hl
  have HC : Hid (cfgB ⟨co, sy, la, mo, res⟩ = true) := hc
  have HN : Hid (l.length = n) := hn
  have HM : Hid (∀ x ∈ l, x.m.length ≤ 1000000) := hm
  clear hv hl hc hn hm
  by_cases h12 : n ≤ 12
  · go_enter Tryz.func35, Tryz.ntmps35
    have BW : Hid (Below w.heap.size w (w.alloc (.cells #[.int .i64 co, .int .i64 sy, .int .i64 la, .int .i64 mo, .slice av res.length cv] 24))) := balloc _ _
    have cC : Blk (w.alloc (.cells #[.int .i64 co, .int .i64 sy, .int .i64 la, .int .i64 mo, .slice av res.length cv] 24)) w.heap.size #[.int .i64 co, .int .i64 sy, .int .i64 la, .int .i64 mo, .slice av res.length cv] 24 := heap_alloc_new _ _
    go_wp2_with fail
    generalize hW : w.alloc _ = W at BW cC
    have KW : Hid (Blk W w.heap.size #[.int .i64 co, .int .i64 sy, .int .i64 la, .int .i64 mo, .slice av res.length cv] 24) := cC
    have sW : w.heap.size < W.heap.size := cC.lt
    clear hW cC
    go_loopw [12] (fun i wr => ∃ k : Nat, k ≤ n ∧ i = .int .i64 k ∧ Below W.heap.size W wr ∧ Hid (∀ j x, j < k → l[j]? = some x → tskB res.length x.tsk = true)) (fun i _ => n - (intOf i).toNat)
    case atStart => exact ⟨0, Nat.zero_le _, rfl, Below.refl _ _, fun j x hj => by omega⟩
    case round =>
      obtain ⟨k, hk, rfl, hB, hA⟩ := hrel
      have B : Hid (Below W.heap.size W wr) := hB
      have K := KW.out.below hB
      have BB : Hid (Below w.heap.size w wr) := BW.out.trans (hB.mono (by omega))
      have n2 : w.heap.size < wr.heap.size := K.lt
      clear hB
      by_cases hlt : k < n
      · obtain ⟨⟨c, d, t, u, m⟩, hx⟩ : ∃ x, l[k]? = some x := ⟨_, List.getElem?_eq_getElem (by rw [HN.out]; exact hlt)⟩
        obtain ⟨b, o, e, hb, y1, y2, y3, y4, ys⟩ := (HL.out.below BB.out).at hx
        subst e
        simp only at y1 y2 y3 y4 ys
        obtain ⟨a2, cap2, rfl⟩ := ys.form
        have HX : Hid (l[k]? = some ⟨c, d, t, .slice a2 m.length cap2, m⟩) := hx
        have HS : Hid (Secs wr (.slice a2 m.length cap2) m) := ys
        have c0 := K.cell 0
        have c1 := K.cell 1
        have c2 := K.cell 2
        have c3 := K.cell 3
        have c4 := K.cell 4
        simp at c0 c1 c2 c3 c4
        clear hx ys K
        go_wp2_with fail
        refine (rtask_any co sy la mo _ res c d t _ m _ (HV.out.below (btrans BB.out (balloc _ _))) hr (HS.out.below (balloc _ _)) (HM.out _ (List.mem_of_getElem? HX.out))).mono ?_
        rintro e w1 ⟨rfl, g1⟩
        rw [HC.out, Bool.true_and]
        have B1 : Hid (Below W.heap.size W w1) := btrans B.out (btrans (balloc _ _) g1)
        have BB1 : Hid (Below w.heap.size w w1) := btrans BB.out (btrans (balloc _ _) g1)
        clear g1 c0 c1 c2 c3 c4 y1 y2 y3 y4
        cases hb : tskB res.length ⟨c, d, t, m⟩
        · have HR : Hid (mayV res.length l = false) := mayV_bad HX.out hb
          clear hb
          go_wp2_with fail
          go_ret
          exact ⟨ret_bool HR.out.symm, BB1.out⟩
        · have HA2 : Hid (∀ j x, j < k + 1 → l[j]? = some x → tskB res.length x.tsk = true) := fun j x hj hx => by
            by_cases hjk : j = k
            · subst hjk; rw [HX.out] at hx; cases hx; exact hb
            · exact hA.out j x (by omega) hx
          clear hb
          go_wp2_with fail
          go_round
          case rel => exact ⟨k + 1, by omega, by go_num, B1.out, HA2.out⟩
          case measure => simp [intOf]; omega
      · have HR : Hid (mayV res.length l = true) := mayV_done (by rw [HN.out]; exact h12) (by rw [HN.out]; exact hlt) hA.out
        go_wp2_with fail
        go_ret
        exact ⟨ret_bool HR.out.symm, BB.out⟩
  · have HR : Hid (mayV res.length l = false) := by
      unfold Hid mayV
      rw [Bool.and_eq_false_iff]
      exact .inl (by rw [decide_eq_false_iff_not, HN.out]; exact h12)
    go_enter Tryz.func35, Tryz.ntmps35
    go_wp2_with fail
    go_ret
    exact ⟨ret_bool HR.out.symm, balloc _ _⟩
end Go.Proofs.YtakdliecjfeedaaGreatDoor
