/- The contract of rule.Agents. -/
import Derived.Test.YtakdliecjfeedaaGreatDoorSects
import Derived.Test.YtakdliecjfeedaaGreatDoorRule3
import Derived.Lib.RowBridge
namespace Go.Proofs.YtakdliecjfeedaaGreatDoor
open Go Go.RowKit Go.Sort

def agR (res : List Int) (s : Sec) : Int := res.getD s.res.toNat 0
def agM (res : List Int) (secs : List Sec) : List Int := secs.map (agR res)
def agL (res : List Int) (secs : List Sec) : List Int := Lib.compact ((agM res secs).mergeSort fun x y => decide (x ≤ y))
def agentsL (c : Cfg) (t : Tsk) : List Int := if cfgB c && tskB c.res.length t then agL c.res t.secs else []
theorem agL_nil (l : List Int) : agL l [] = [] := by simp [agL, agM, Lib.compact, Lib.compactUpTo]
theorem only_put {w : World} {g n : Nat} {d : Array Int} {os : Array Obj} : Only [g] w (grow (putRow (Value.int .i64) (Sort.ahead w n) g 0 d) os) := by
  refine ⟨rfl, rfl, rfl, by simp, fun k hk hs => ?_⟩
  rw [heap_grow_old _ _ (by simp; exact hk)]
  unfold putRow mapBlock
  simp only [Sort.ahead]
  rw [Array.getElem?_modify, if_neg (by simp at hs; omega)]
theorem own_holds {w : World} {base e g cap : Nat} {l : List Int} (h : w.ownsRow base e 1 (.slice (some ⟨g, 0, none⟩) l.length cap) l.length (l.map mkI)) : Holds (Value.int .i64) w g 0 l.toArray ∧ g < w.heap.size ∧ base ≤ g := by
  rcases h.2 with ⟨e, _⟩ | ⟨g', cap', cur, e, hb, hh, h1, h2, h3, h4⟩
  · simp at e
  simp only [Value.slice.injEq, Option.some.injEq, Addr.mk.injEq] at e
  obtain ⟨⟨rfl, -⟩, -, rfl⟩ := e
  refine ⟨fun j hj => ?_, (Array.getElem?_eq_some_iff.1 hh).1, hb⟩
  have hj' : j < l.length := by simpa using hj
  constructor
  · have e : (cur.toList.take (l.length * 1))[j]? = some (mkI l[j]) := by rw [h4, List.getElem?_map, List.getElem?_eq_getElem hj']; rfl
    rw [List.getElem?_take_of_lt (by omega)] at e
    simp only [World.cell?, hh]
    simpa [mkI, hj'] using e
  · simp [World.frozen?, hh]
theorem holds_ints {w : World} {g cap : Nat} {d : Array Int} {l : List Int} (h : Holds (Value.int .i64) w g 0 d) (hg : g < w.heap.size) (hl : ∀ j x, l[j]? = some x → j < d.size ∧ d[j]! = x) : Ints w (.slice (some ⟨g, 0, none⟩) l.length cap) l :=
  .inr ⟨g, cap, rfl, hg, fun j x hj => by
    obtain ⟨h1, h2⟩ := hl j x hj
    have := (h j h1).1
    rw [h2] at this
    simpa using this⟩

def agS (z : List Int) : List Int := z.mergeSort fun x y => decide (x ≤ y)
def agC (z : List Int) : List Int := Lib.compact (agS z)
theorem agS_length (z : List Int) : (agS z).length = z.length := by unfold agS; exact List.length_mergeSort _
theorem agC_length (z : List Int) : (agC z).length ≤ z.length := by have := Lib.compact_length_le (agS z); rw [agS_length] at this; exact this
theorem after_sort {w w2 : World} {g : Nat} {z : List Int} (hh : Holds (Value.int .i64) w g 0 z.toArray) (hg : g < w.heap.size) (h : ∃ n os, w2 = grow (putRow (Value.int .i64) (Sort.ahead w n) g 0 (agS z).toArray) os) : Only [g] w w2 ∧ Holds (Value.int .i64) w2 g 0 (agS z).toArray := by
  obtain ⟨n, os, rfl⟩ := h
  refine ⟨only_put, holds_grow _ _ _ _ _ _ (by rw [size_putRow]; exact hg) (holds_putRow _ _ _ _ z.toArray _ hh ?_)⟩
  rw [List.size_toArray, List.size_toArray, agS_length]
theorem after_compact {w w2 : World} {g k : Nat} {z : List Int} (hk : z.length = k) (hh : Holds (Value.int .i64) w g 0 (agS z).toArray) (hg : g < w.heap.size) (h : ∃ q, w2 = putRow (Value.int .i64) (Sort.ahead w q) g 0 (agC z ++ List.replicate (k - (agC z).length) 0).toArray) (cap : Nat) : Only [g] w w2 ∧ Ints w2 (.slice (some ⟨g, 0, none⟩) (agC z).length cap) (agC z) := by
  obtain ⟨q, rfl⟩ := h
  have o := only_put (w := w) (g := g) (n := q) (d := (agC z ++ List.replicate (k - (agC z).length) 0).toArray) (os := #[])
  rw [grow_empty] at o
  refine ⟨o, ?_⟩
  have hz : (agC z ++ List.replicate (k - (agC z).length) 0).toArray.size = (agS z).toArray.size := by
    have := agC_length z
    rw [List.size_toArray, List.size_toArray, List.length_append, List.length_replicate, agS_length]; omega
  refine holds_ints (holds_putRow _ _ _ _ (agS z).toArray _ hh hz) (Nat.lt_of_lt_of_le hg o.size) (fun j x hj => ?_)
  have hjl := (List.getElem?_eq_some_iff.1 hj).1
  have e : (agC z ++ List.replicate (k - (agC z).length) 0)[j]? = some x := by rw [List.getElem?_append_left hjl]; exact hj
  obtain ⟨e1, e2⟩ := List.getElem?_eq_some_iff.1 e
  refine ⟨by rw [List.size_toArray]; exact e1, ?_⟩
  rw [getElem!_pos _ _ (by rw [List.size_toArray]; exact e1), List.getElem_toArray]
  exact e2
theorem sort_at (g cap k : Nat) (z : List Int) (hk : z.length = k) (w : World) (hh : Holds (Value.int .i64) w g 0 z.toArray) (hg : g < w.heap.size) (hz : k ≤ 1000) :
    Calls Tryz.prog 105 #[.slice (some ⟨g, 0, none⟩) k cap] w fun e w' => e = .returned (.tuple #[]) ∧ Only [g] w w' ∧ Holds (Value.int .i64) w' g 0 (agS z).toArray := by
  subst hk
  refine (Tryz.slices_Sort_int g 0 cap z w hh hg (by omega)).mono ?_
  rintro e w2 ⟨rfl, h⟩
  exact ⟨rfl, after_sort hh hg h⟩
theorem compact_at (g cap k : Nat) (z : List Int) (hk : z.length = k) (w : World) (hh : Holds (Value.int .i64) w g 0 (agS z).toArray) (hg : g < w.heap.size) (hz : k ≤ 1000) (hc : k ≤ cap) :
    Calls Tryz.prog 106 #[.slice (some ⟨g, 0, none⟩) k cap] w fun e w' => e = .returned (.slice (some ⟨g, 0, none⟩) (agC z).length cap) ∧ Only [g] w w' ∧ Ints w' (.slice (some ⟨g, 0, none⟩) (agC z).length cap) (agC z) := by
  have hs := agS_length z
  have h := Tryz.slices_Compact_int g 0 cap (agS z) w hh (by omega) (by omega)
  rw [hs, hk] at h
  refine h.mono ?_
  rintro e w2 ⟨rfl, h⟩
  exact ⟨rfl, after_compact hk hh hg h cap⟩
theorem agL_eq (res : List Int) (secs : List Sec) : agL res secs = agC (agM res secs) := rfl
theorem agM_take {res : List Int} {l : List Sec} {k : Nat} {s : Sec} (h : l[k]? = some s) : agM res (l.take (k + 1)) = agM res (l.take k) ++ [agR res s] := by
  obtain ⟨hk, rfl⟩ := List.getElem?_eq_some_iff.1 h
  rw [List.take_succ_eq_append_getElem hk]
  simp only [agM, List.map_append, List.map_cons, List.map_nil]

set_option maxHeartbeats 1000000 in
set_option maxRecDepth 100000 in
theorem ragents_any (co sy la mo : Int) (v : Value) (l : List Int) (c d t : Int) (u : Value) (m : List Sec) (w : World) (hv : Ints w v l) (hl : l.length ≤ 1000000) (hu : Secs w u m) (hm : m.length ≤ 1000000) :
    Calls Tryz.prog 88 #[.agg #[.int .i64 co, .int .i64 sy, .int .i64 la, .int .i64 mo, v], .agg #[.int .i64 c, .int .i64 d, .int .i64 t, u]] w fun e w' => ∃ q, e = .returned q ∧ Ints w' q (agentsL ⟨co, sy, la, mo, l⟩ ⟨c, d, t, m⟩) ∧ Below w.heap.size w w' := by
  obtain ⟨i0, hi0, hz0, hz1, hz2⟩ := info_parts infoI
  obtain ⟨a, cap, e⟩ := hv.form
  subst e
  obtain ⟨a', cap', e⟩ := hu.form
  subst e
  have b0 := balloc w (.cells #[.int .i64 co, .int .i64 sy, .int .i64 la, .int .i64 mo, .slice a l.length cap] 24)
  have k0 : Blk (w.alloc (.cells #[.int .i64 co, .int .i64 sy, .int .i64 la, .int .i64 mo, .slice a l.length cap] 24)) w.heap.size #[.int .i64 co, .int .i64 sy, .int .i64 la, .int .i64 mo, .slice a l.length cap] 24 := heap_alloc_new _ _
  have b1 := balloc (w.alloc (.cells #[.int .i64 co, .int .i64 sy, .int .i64 la, .int .i64 mo, .slice a l.length cap] 24)) (.cells #[.int .i64 c, .int .i64 d, .int .i64 t, .slice a' m.length cap'] 34)
  have k1 : Blk ((w.alloc (.cells #[.int .i64 co, .int .i64 sy, .int .i64 la, .int .i64 mo, .slice a l.length cap] 24)).alloc (.cells #[.int .i64 c, .int .i64 d, .int .i64 t, .slice a' m.length cap'] 34)) (w.heap.size + 1) #[.int .i64 c, .int .i64 d, .int .i64 t, .slice a' m.length cap'] 34 := by
    have := heap_alloc_new (w.alloc (.cells #[.int .i64 co, .int .i64 sy, .int .i64 la, .int .i64 mo, .slice a l.length cap] 24)) (.cells #[.int .i64 c, .int .i64 d, .int .i64 t, .slice a' m.length cap'] 34)
    simpa [Blk] using this
  have K : Hid (Blk _ w.heap.size _ 24 ∧ Blk _ (w.heap.size + 1) _ 34 ∧ Below w.heap.size w _) := ⟨k0.below b1, k1, btrans b0 b1⟩
  have HV : Hid (Ints w (.slice a l.length cap) l) := hv
  have HU : Hid (Secs w (.slice a' m.length cap') m) := hu
  clear hv hu b0 b1 k0 k1
  go_enter Tryz.func88, Tryz.ntmps88
  go_wp2_with fail
  refine (rtask_any co sy la mo _ l c d t _ m _ (HV.out.below K.out.2.2) hl (HU.out.below K.out.2.2) hm).mono ?_
  rintro e w1 ⟨rfl, g1⟩
  have B1 : Hid (Below w.heap.size w w1) := btrans K.out.2.2 g1
  have c4 : w1.cell? ⟨w.heap.size, 4, none⟩ = some (.slice a l.length cap) := (K.out.1.below g1).cell 4
  have d3 : w1.cell? ⟨w.heap.size + 1, 3, none⟩ = some (.slice a' m.length cap') := (K.out.2.1.below g1).cell 3
  have l1 : w.heap.size + 1 < w1.heap.size := (K.out.2.1.below g1).lt
  clear g1 K
  cases hb : (cfgB ⟨co, sy, la, mo, l⟩ && tskB l.length ⟨c, d, t, m⟩)
  · go_wp2_with fail
    go_ret
    exact ⟨_, rfl, by unfold agentsL; rw [hb]; exact .inl ⟨rfl, _, _, rfl⟩, B1.out⟩
  · have HA : Hid (agentsL ⟨co, sy, la, mo, l⟩ ⟨c, d, t, m⟩ = agL l m) := by unfold Hid agentsL; rw [hb]; rfl
    obtain ⟨n1, n2, n3, n4, n5, n6⟩ := tskB_facts (Bool.and_eq_true_iff.1 hb).2
    have N6 : Hid (∀ s ∈ m, (0 ≤ s.res ∧ s.res < l.length) ∧ (1 ≤ s.len ∧ s.len ≤ 200) ∧ 1 ≤ s.pos ∧ s.pos ≤ c - 1) := n6
    simp only at n5
    clear n1 n2 n3 n4 n6 hb
    by_cases hnil : m = []
    · subst hnil
      go_wp2_with fail
      go_loop [5, 15] (fun q i => q = .slice none 0 0 ∧ i = .int .i64 0) (fun _ _ => 0)
      case atStart => exact ⟨rfl, rfl⟩
      case round =>
        obtain ⟨rfl, rfl⟩ := hrel
        go_wp2_with (first | (go_at_call 105; refine (Tryz.slices_Sort_int_none none 0 _).mono ?_; rintro e w' ⟨rfl, hw⟩; subst w') | (go_at_call 106; refine (Tryz.slices_Compact_int_empty none 0 _).mono ?_; rintro e w' ⟨rfl, hw⟩; subst w'))
        go_ret
        exact ⟨_, rfl, by rw [HA.out]; exact .inl ⟨agL_nil l, _, _, rfl⟩, B1.out⟩
    · rcases HU.out with ⟨hn, _⟩ | ⟨b2, cap2, e, hb2, hc2⟩
      · exact absurd hn hnil
      simp only [Value.slice.injEq] at e
      obtain ⟨rfl, -, rfl⟩ := e
      have C2 : Hid (∀ j s, m[j]? = some s → w.cell? ⟨b2, j * 3, none⟩ = some (.int .i64 s.res) ∧ w.cell? ⟨b2, j * 3 + 1, none⟩ = some (.int .i64 s.pos) ∧ w.cell? ⟨b2, j * 3 + 2, none⟩ = some (.int .i64 s.len)) := hc2
      have h0 : 0 < m.length := List.length_pos_iff.2 hnil
      clear hc2 hnil
      go_wp2_with fail
      go_loopw [5, 15] (fun q i wr => ∃ k : Nat, k ≤ m.length ∧ i = .int .i64 k ∧ wr.ownsRow w1.heap.size 3 1 q (agM l (m.take k)).length ((agM l (m.take k)).map mkI) ∧ Below w1.heap.size w1 wr) (fun _ i _ => m.length - (intOf i).toNat)
      case atStart => exact ⟨0, Nat.zero_le _, rfl, World.ownsRow_nil _ _ _ _, Below.refl _ _⟩
      case round =>
        obtain ⟨k, hk, rfl, own, hB⟩ := hrel
        obtain ⟨aq, cq, e⟩ := own_form own
        subst e
        have zs : w1.heap.size ≤ wr.heap.size := hB.size
        have lk : (agM l (m.take k)).length = k := by unfold agM; rw [List.length_map, List.length_take]; omega
        rw [lk] at own ⊢
        by_cases hlt : k < m.length
        · obtain ⟨s, hx⟩ : ∃ x, m[k]? = some x := ⟨_, List.getElem?_eq_getElem hlt⟩
          have nn := N6.out _ (List.mem_of_getElem? hx)
          obtain ⟨y0, y1, y2⟩ := C2.out k _ hx
          have bw := btrans B1.out hB
          have x0 := (bw.cell (p := ⟨b2, k * 3, none⟩) hb2).trans y0
          have x1 := (bw.cell (p := ⟨b2, k * 3 + 1, none⟩) hb2).trans y1
          have x2 := (bw.cell (p := ⟨b2, k * 3 + 2, none⟩) hb2).trans y2
          have e4 := (hB.cell (p := ⟨w.heap.size, 4, none⟩) (by show w.heap.size < w1.heap.size; omega)).trans c4
          obtain ⟨r, hr⟩ : ∃ r : Nat, s.res = r := ⟨s.res.toNat, by omega⟩
          have hrl : r < l.length := by omega
          rcases HV.out with ⟨hn, _⟩ | ⟨b1, cap1, e, hb1, hc1⟩
          · rw [hn] at hrl; simp at hrl
          simp only [Value.slice.injEq] at e
          obtain ⟨rfl, -, rfl⟩ := e
          have hy : l[r]? = some l[r] := List.getElem?_eq_getElem hrl
          have cy := (bw.cell (p := ⟨b1, r, none⟩) hb1).trans (hc1 r _ hy)
          have HR : Hid (agR l s = l[r]) := by unfold Hid agR; rw [hr]; simp [hrl]
          obtain ⟨y, hy2⟩ : ∃ y, l[r] = y := ⟨_, rfl⟩
          rw [hy2] at cy
          have HY : Hid (l[r] = y) := hy2
          have HX : Hid (m[k]? = some s) := hx
          have OW : Hid (wr.ownsRow w1.heap.size 3 1 (.slice aq k cq) k ((agM l (m.take k)).map mkI)) := own
          have HB : Hid (Below w1.heap.size w1 wr) := hB
          rw [hr] at x0
          obtain ⟨sr, sp, sl⟩ := s
          simp only at x0 x1 x2
          have n1 : b2 < wr.heap.size := by have := bw.size; omega
          have n2 : w.heap.size < wr.heap.size := by omega
          have n3 : b1 < wr.heap.size := by have := bw.size; omega
          clear hx hy hy2 hc1 y0 y1 y2 nn bw own hB hr
          have own := OW.out.alloc (.cells #[.int .i64 r, .int .i64 sp, .int .i64 sl] 39)
          have cz : Hid (∀ (j : Nat) (q : Value), [Value.int .i64 y][j]? = some q → ((wr.alloc (.cells #[.int .i64 r, .int .i64 sp, .int .i64 sl] 39)).alloc (.cells #[.int .i64 y] 3)).cell? ((⟨wr.heap.size + 1, 0, none⟩ : Addr).add j) = some q) := by
            intro j q hj
            have := cell_one (wr.alloc (.cells #[.int .i64 r, .int .i64 sp, .int .i64 sl] 39)) (.int .i64 y) 3 j q hj
            simpa using this
          have zz : (wr.alloc (.cells #[.int .i64 r, .int .i64 sp, .int .i64 sl] 39)).heap.size = wr.heap.size + 1 := by simp
          have zy : w1.heap.size ≤ (wr.alloc (.cells #[.int .i64 r, .int .i64 sp, .int .i64 sl] 39)).heap.size := by rw [zz]; omega
          clear zz
          go_wp2_with (at_builtin; refine wpList_append_own_at _ rfl (.tmp 19) (.tmp 26) 22 rfl w1.heap.size 3 i0 (.int .i64 0) 1 8 Tryz.underlying22 hi0 hz0 hz1 hz2 rfl (by decide) _ _ _ rfl (own.alloc _) ⟨wr.heap.size + 1, 0, none⟩ 1 1 [.int .i64 y] rfl rfl cz.out (by intro u hu; simp at hu; subst hu; rfl) (by unfold maxLen; omega) (by omega) (by simp; omega) ?_; intro v7 w7 own7 grow7 nil7 at7; have L7 : Hid (Below w1.heap.size (wr.alloc (.cells #[.int .i64 r, .int .i64 sp, .int .i64 sl] 39)) w7 ∧ w7.ownsRow w1.heap.size 3 1 v7 (k + 1) ((agM l (m.take k)).map mkI ++ [.int .i64 y])) := ⟨own_grow own zy grow7, own7⟩; clear own7 grow7 nil7 at7)
          go_round
          case rel =>
            refine ⟨k + 1, by omega, by go_num, ?_, HB.out.trans (((balloc _ _).mono zs).trans L7.out.1)⟩
            rw [agM_take HX.out, HR.out, HY.out]
            have := L7.out.2
            simpa [mkI, lk] using this
          case measure => simp [intOf]; omega
        · have hkm : k = m.length := by omega
          have e : m.take k = m := List.take_of_length_le (by omega)
          rw [e] at own lk
          have hk0 : 0 < k := by omega
          have own2 := own
          rw [← lk] at own2
          obtain ⟨g, cg, eg⟩ : ∃ g cg, Value.slice aq k cq = .slice (some ⟨g, 0, none⟩) k cg := by
            rcases own.2 with ⟨e, hz⟩ | ⟨g, cg, cur, e, _⟩
            · omega
            · exact ⟨g, cg, e⟩
          simp only [Value.slice.injEq] at eg
          obtain ⟨rfl, -, rfl⟩ := eg
          obtain ⟨hh, hg, hg1⟩ := own_holds own2
          have hcap : k ≤ cq := by
            rcases own.2 with ⟨e, _⟩ | ⟨g', cg, cur, e, _, _, h, _⟩
            · simp at e
            · simp only [Value.slice.injEq] at e; omega
          have HH : Hid (Holds (Value.int .i64) wr g 0 (agM l m).toArray) := hh
          have HB : Hid (Below w1.heap.size w1 wr) := hB
          have HK : Hid ((agM l m).length = k) := lk
          have HG : Hid (g < wr.heap.size ∧ w1.heap.size ≤ g ∧ k ≤ cq ∧ k ≤ 1000) := ⟨hg, hg1, hcap, by omega⟩
          clear own own2 hh hB lk e hg hg1 hcap hk0 hkm
          go_wp2_with fail
          refine (sort_at g cq k (agM l m) HK.out wr HH.out HG.out.1 HG.out.2.2.2).mono ?_
          rintro e w2 ⟨rfl, o2, h2⟩
          have H2 : Hid (Holds (Value.int .i64) w2 g 0 (agS (agM l m)).toArray) := h2
          have O2 : Hid (Only [g] wr w2) := o2
          clear o2 h2 HH
          go_wp2_with fail
          refine (compact_at g cq k (agM l m) HK.out w2 H2.out (Nat.lt_of_lt_of_le HG.out.1 O2.out.size) HG.out.2.2.2 HG.out.2.2.1).mono ?_
          rintro e w3 ⟨rfl, o3, i3⟩
          have I3 : Hid (Ints w3 (.slice (some ⟨g, 0, none⟩) (agC (agM l m)).length cq) (agC (agM l m))) := i3
          have B3 : Hid (Below w.heap.size w w3) := (btrans B1.out HB.out).trans ((O2.out.same o3).belowOf (by have := B1.out.size; have := HB.out.size; omega) (by simp; have := B1.out.size; have := HG.out.2.1; omega))
          clear o3 i3 H2 O2
          go_wp2_with fail
          go_ret
          exact ⟨_, rfl, by rw [HA.out, agL_eq]; exact I3.out, B3.out⟩
end Go.Proofs.YtakdliecjfeedaaGreatDoor
