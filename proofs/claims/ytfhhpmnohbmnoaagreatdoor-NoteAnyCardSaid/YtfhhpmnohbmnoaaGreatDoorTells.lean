/- The contract of the laws' tells. -/
import Derived.Test.YtfhhpmnohbmnoaaGreatDoorRPut
import Derived.Test.YtfhhpmnohbmnoaaGreatDoorRef4
import Derived.Test.YtfhhpmnohbmnoaaGreatDoorLim
import Derived.Test.YtfhhpmnohbmnoaaGreatDoorBegun
namespace Go.Proofs.YtfhhpmnohbmnoaaGreatDoor
open Go Go.RowKit

theorem sameCfg_at (co sy la mo co' sy' la' mo' : Int) (v v' : Value) (m m' : List Int) (w : World) (h1 : Ints w v m) (h2 : Ints w v' m') (hl1 : m.length ≤ 1000000) (hl2 : m'.length ≤ 1000000) (X : Bool) (hX : decide ((⟨co, sy, la, mo, m⟩ : Cfg) = ⟨co', sy', la', mo', m'⟩) = X) :
    Calls Tryz.prog 26 #[.agg #[.int .i64 co, .int .i64 sy, .int .i64 la, .int .i64 mo, v], .agg #[.int .i64 co', .int .i64 sy', .int .i64 la', .int .i64 mo', v']] w fun e w' => e = .returned (.bool X) ∧ Below w.heap.size w w' := by
  have h := sameCfg_any co sy la mo co' sy' la' mo' v v' m m' w h1 h2 hl1 hl2
  rw [hX] at h
  exact h
theorem sameTsk_at (c d t c' d' t' : Int) (v v' : Value) (m m' : List Sec) (w : World) (h1 : Secs w v m) (h2 : Secs w v' m') (hl1 : m.length ≤ 1000000) (hl2 : m'.length ≤ 1000000) (X : Bool) (hX : decide ((⟨c, d, t, m⟩ : Tsk) = ⟨c', d', t', m'⟩) = X) :
    Calls Tryz.prog 12 #[.agg #[.int .i64 c, .int .i64 d, .int .i64 t, v], .agg #[.int .i64 c', .int .i64 d', .int .i64 t', v']] w fun e w' => e = .returned (.bool X) ∧ Below w.heap.size w w' := by
  have h := same_any c d t c' d' t' v v' m m' w h1 h2 hl1 hl2
  rw [hX] at h
  exact h
theorem refPutCfg_s (co sy la mo : Int) (v : Value) (l : List Int) (s : ByteArray) (w : World) (hE : Env w) (hv : Ints w v l) (hl : l.length ≤ 1000000) (hs : s.data.toList = putCfgL ⟨co, sy, la, mo, l⟩) :
    Calls Tryz.prog 24 #[.agg #[.int .i64 co, .int .i64 sy, .int .i64 la, .int .i64 mo, v]] w fun e w' => e = .returned (.string s) ∧ Below w.heap.size w w' := by
  refine (refPutCfg_any co sy la mo v l w hE hv hl).mono ?_
  rintro e w' ⟨t, rfl, ht, g⟩
  rw [← hs] at ht
  rw [bytes_ext ht]
  exact ⟨rfl, g⟩
theorem refPutTsk_s (c d t : Int) (v : Value) (m : List Sec) (s : ByteArray) (w : World) (hE : Env w) (hv : Secs w v m) (hm : m.length ≤ 1000000) (hs : s.data.toList = putTskL ⟨c, d, t, m⟩) :
    Calls Tryz.prog 25 #[.agg #[.int .i64 c, .int .i64 d, .int .i64 t, v]] w fun e w' => e = .returned (.string s) ∧ Below w.heap.size w w' := by
  refine (refPutTsk_any c d t v m w hE hv hm).mono ?_
  rintro e w' ⟨q, rfl, hq, g⟩
  rw [← hs] at hq
  rw [bytes_ext hq]
  exact ⟨rfl, g⟩
theorem refTsk_at (co sy la mo : Int) (a : Option Addr) (n cap : Nat) (c d t : Int) (u : Value) (m : List Sec) (w : World) (hu : Secs w u m) (hm : m.length ≤ 1000000) (X : Bool) (hX : tskB n ⟨c, d, t, m⟩ = X) :
    Calls Tryz.prog 17 #[.agg #[.int .i64 co, .int .i64 sy, .int .i64 la, .int .i64 mo, .slice a n cap], .agg #[.int .i64 c, .int .i64 d, .int .i64 t, u]] w fun e w' => e = .returned (.bool X) ∧ Below w.heap.size w w' := by
  have h := refTask_any co sy la mo a n cap c d t u m w hu hm
  rw [hX] at h
  exact h
/-- What tells has at hand: the configuration, what the text is as one, what it is as a task. -/
structure Tl (w : World) (co sy la mo : Int) (ac : Option Addr) (nc kc : Nat) (l : List Int) (gx : Nat) (xco xsy xla xmo : Int) (xa : Option Addr) (xn xk : Nat) (xr : List Int) (gy : Nat) (yc yd yt : Int) (ya : Option Addr) (yn yk : Nat) (ym : List Sec) (z : World) : Prop where
  env : Env z
  bc : Blk z w.heap.size #[.int .i64 co, .int .i64 sy, .int .i64 la, .int .i64 mo, .slice ac nc kc] 24
  bx : Blk z gx #[.int .i64 xco, .int .i64 xsy, .int .i64 xla, .int .i64 xmo, .slice xa xn xk] 24
  bz : Blk z gy #[.int .i64 yc, .int .i64 yd, .int .i64 yt, .slice ya yn yk] 27
  ic : Ints z (.slice ac nc kc) l
  ix : Ints z (.slice xa xn xk) xr
  iz : Secs z (.slice ya yn yk) ym
  lx : xr.length ≤ 1000000
  ly : ym.length ≤ 1000000
  bel : Below w.heap.size w z
theorem Tl.below {w x z : World} {co sy la mo xco xsy xla xmo yc yd yt : Int} {ac xa ya : Option Addr} {nc kc gx xn xk gy yn yk : Nat} {l xr : List Int} {ym : List Sec} (h : Tl w co sy la mo ac nc kc l gx xco xsy xla xmo xa xn xk xr gy yc yd yt ya yn yk ym x) (g : Below x.heap.size x z) : Tl w co sy la mo ac nc kc l gx xco xsy xla xmo xa xn xk xr gy yc yd yt ya yn yk ym z :=
  ⟨h.env.below g, h.bc.below g, h.bx.below g, h.bz.below g, h.ic.below g, h.ix.below g, h.iz.below g, h.lx, h.ly, btrans h.bel g⟩
/-- The first half: the text as a configuration. -/
structure Th (w : World) (co sy la mo : Int) (ac : Option Addr) (nc kc : Nat) (l : List Int) (gx : Nat) (xco xsy xla xmo : Int) (xa : Option Addr) (xn xk : Nat) (xr : List Int) (z : World) : Prop where
  env : Env z
  bc : Blk z w.heap.size #[.int .i64 co, .int .i64 sy, .int .i64 la, .int .i64 mo, .slice ac nc kc] 24
  bx : Blk z gx #[.int .i64 xco, .int .i64 xsy, .int .i64 xla, .int .i64 xmo, .slice xa xn xk] 24
  ic : Ints z (.slice ac nc kc) l
  ix : Ints z (.slice xa xn xk) xr
  lx : xr.length ≤ 1000000
  bel : Below w.heap.size w z
theorem Th.below {w x z : World} {co sy la mo xco xsy xla xmo : Int} {ac xa : Option Addr} {nc kc gx xn xk : Nat} {l xr : List Int} (h : Th w co sy la mo ac nc kc l gx xco xsy xla xmo xa xn xk xr x) (g : Below x.heap.size x z) : Th w co sy la mo ac nc kc l gx xco xsy xla xmo xa xn xk xr z :=
  ⟨h.env.below g, h.bc.below g, h.bx.below g, h.ic.below g, h.ix.below g, h.lx, btrans h.bel g⟩
theorem Th.more {w x : World} {co sy la mo xco xsy xla xmo : Int} {ac xa : Option Addr} {nc kc gx xn xk : Nat} {l xr : List Int} (h : Th w co sy la mo ac nc kc l gx xco xsy xla xmo xa xn xk xr x) (yc yd yt : Int) (ya : Option Addr) (yn yk : Nat) (ym : List Sec) (hy : Secs x (.slice ya yn yk) ym) (ly : ym.length ≤ 1000000) : Tl w co sy la mo ac nc kc l gx xco xsy xla xmo xa xn xk xr x.heap.size yc yd yt ya yn yk ym (x.alloc (.cells #[.int .i64 yc, .int .i64 yd, .int .i64 yt, .slice ya yn yk] 27)) := by
  have g := balloc x (.cells #[.int .i64 yc, .int .i64 yd, .int .i64 yt, .slice ya yn yk] 27)
  have h2 := h.below g
  exact ⟨h2.env, h2.bc, h2.bx, heap_alloc_new _ _, h2.ic, h2.ix, hy.below g, h.lx, ly, h2.bel⟩

/-- What is so of the text as a configuration (as a task): it is none (1), and nothing is told; or it is just this one's (0). -/
def AsCfg (s : ByteArray) (x : Cfg) (ec : Int) : Prop := (ec = 1 ∧ x = ⟨0, 0, 0, 0, []⟩) ∨ (ec = 0 ∧ s.data.toList = putCfgL x ∧ ¬ s = ⟨#[]⟩)
def AsTsk (s : ByteArray) (n : Nat) (y : Tsk) (fc : Int) : Prop := (fc = 1 ∧ y = ⟨0, 0, 0, []⟩) ∨ (fc = 0 ∧ s.data.toList = putTskL y ∧ tskB n y = true)
theorem asCfg_of {s : ByteArray} {x : Cfg} (h : getCfg s.data.toList = some x) : AsCfg s x 0 ∧ x.res.length ≤ 1000000 := by
  obtain ⟨h1, h2⟩ := getCfg_iff.1 h
  have e : s.data.toList = putCfgL x := by unfold putCfgL; rw [h1, h2]; rfl
  exact ⟨.inr ⟨rfl, e, put_yes e h1⟩, by have := (cfgB_iff.1 h1).2.2.2.2.1; omega⟩
theorem asTsk_of {s : ByteArray} {n : Nat} {y : Tsk} (hn : n ≤ 6) (h : getTsk n s.data.toList = some y) : AsTsk s n y 0 ∧ y.secs.length ≤ 1000000 := by
  obtain ⟨h1, h2⟩ := (getTsk_iff (by omega)).1 h
  have h6 : tskB 6 y = true := tskB_mono (by omega) h1
  have e : s.data.toList = putTskL y := by unfold putTskL; rw [h6, h2]; rfl
  exact ⟨.inr ⟨rfl, e, h1⟩, by have := (tskB_facts h1).2.2.2.2.1; omega⟩

set_option maxHeartbeats 8000000 in
set_option maxRecDepth 100000 in
theorem tells_any (co sy la mo : Int) (v : Value) (l : List Int) (s : ByteArray) (w : World) (hs : s.size ≤ 140737488355328) (hE : Env w) (hv : Ints w v l) (hb : cfgB ⟨co, sy, la, mo, l⟩ = true) :
    Calls Tryz.prog 29 #[.agg #[.int .i64 co, .int .i64 sy, .int .i64 la, .int .i64 mo, v], .string s] w fun e w' => e = .returned (.bool true) ∧ Below w.heap.size w w' := by
  obtain ⟨ac, kc, rfl⟩ := hv.form
  have hl6 : l.length ≤ 6 := (cfgB_iff.1 hb).2.2.2.2.1
  obtain ⟨nc, hnc⟩ : ∃ n, l.length = n := ⟨_, rfl⟩
  rw [hnc] at hv hl6 ⊢
  have HN : Hid (l.length = nc) := hnc
  have hs2 : s.size ≤ 9223372036854775807 := by omega
  have P0 : Hid (TBox w w.heap.size #[.int .i64 co, .int .i64 sy, .int .i64 la, .int .i64 mo, .slice ac nc kc] 24 (w.alloc (.cells #[.int .i64 co, .int .i64 sy, .int .i64 la, .int .i64 mo, .slice ac nc kc] 24)) ∧ Ints (w.alloc (.cells #[.int .i64 co, .int .i64 sy, .int .i64 la, .int .i64 mo, .slice ac nc kc] 24)) (.slice ac nc kc) l) := ⟨⟨hE.below (balloc _ _), heap_alloc_new _ _, balloc _ _⟩, hv.below (balloc _ _)⟩
  clear hv hE hnc hb
  go_enter Tryz.func29, Tryz.ntmps29
  go_wp2_with fail
  refine (getCfg_any s _ hs P0.out.1.env).mono ?_
  rintro e w1 ⟨g1, h⟩
  have H : ∃ (xco xsy xla xmo : Int) (xa : Option Addr) (xn xk : Nat) (xr : List Int) (ec : Int), e = .returned (.tuple #[.agg #[.int .i64 xco, .int .i64 xsy, .int .i64 xla, .int .i64 xmo, .slice xa xn xk], .int .i64 ec]) ∧ Ints w1 (.slice xa xn xk) xr ∧ xr.length ≤ 1000000 ∧ AsCfg s ⟨xco, xsy, xla, xmo, xr⟩ ec := by
    rcases h with ⟨_, rfl⟩ | ⟨⟨a, b, c, d, r⟩, u, hn, hi, rfl⟩
    · exact ⟨0, 0, 0, 0, none, 0, 0, [], 1, rfl, .inl ⟨rfl, _, _, rfl⟩, by simp, .inl ⟨rfl, rfl⟩⟩
    · obtain ⟨xa, xk, rfl⟩ := hi.form
      exact ⟨a, b, c, d, xa, _, xk, r, 0, rfl, hi, (asCfg_of hn).2, (asCfg_of hn).1⟩
  obtain ⟨xco, xsy, xla, xmo, xa, xn, xk, xr, ec, rfl, hi, hx, has⟩ := H
  have AS : Hid (AsCfg s ⟨xco, xsy, xla, xmo, xr⟩ ec) := has
  have T1 : Hid (Th w co sy la mo ac nc kc l w1.heap.size xco xsy xla xmo xa xn xk xr (w1.alloc (.cells #[.int .i64 xco, .int .i64 xsy, .int .i64 xla, .int .i64 xmo, .slice xa xn xk] 24))) := by
    have p1 := P0.out.1.below g1
    have g := balloc w1 (.cells #[.int .i64 xco, .int .i64 xsy, .int .i64 xla, .int .i64 xmo, .slice xa xn xk] 24)
    exact ⟨p1.env.below g, p1.blk.below g, heap_alloc_new _ _, (P0.out.2.below g1).below g, hi.below g, hx, btrans p1.bel g⟩
  have q0 : w1.cell? ⟨w.heap.size, 0, none⟩ = some (.int .i64 co) := (P0.out.1.below g1).blk.cell 0
  have q1 : w1.cell? ⟨w.heap.size, 1, none⟩ = some (.int .i64 sy) := (P0.out.1.below g1).blk.cell 1
  have q2 : w1.cell? ⟨w.heap.size, 2, none⟩ = some (.int .i64 la) := (P0.out.1.below g1).blk.cell 2
  have q3 : w1.cell? ⟨w.heap.size, 3, none⟩ = some (.int .i64 mo) := (P0.out.1.below g1).blk.cell 3
  have q4 : w1.cell? ⟨w.heap.size, 4, none⟩ = some (.slice ac nc kc) := (P0.out.1.below g1).blk.cell 4
  have l1 : w.heap.size < w1.heap.size := (P0.out.1.below g1).blk.lt
  clear g1 h hi hx has P0
  go_wp2_with fail
  generalize hW : w1.alloc _ = W2 at T1 ⊢
  generalize hG : w1.heap.size = gx at T1 ⊢
  clear hW hG q0 q1 q2 q3 q4 l1
  refine (getTsk_any co sy la mo (.slice ac nc kc) l s W2 hs T1.out.env T1.out.ic (by have := HN.out; omega)).mono ?_
  rintro e w3 ⟨g3, h⟩
  have H : ∃ (yc yd yt : Int) (ya : Option Addr) (yn yk : Nat) (ym : List Sec) (fc : Int), e = .returned (.tuple #[.agg #[.int .i64 yc, .int .i64 yd, .int .i64 yt, .slice ya yn yk], .int .i64 fc]) ∧ Secs w3 (.slice ya yn yk) ym ∧ ym.length ≤ 1000000 ∧ AsTsk s nc ⟨yc, yd, yt, ym⟩ fc := by
    rcases h with ⟨_, rfl⟩ | ⟨⟨a, b, c, r⟩, u, _, hn, hi, rfl⟩
    · exact ⟨0, 0, 0, none, 0, 0, [], 1, rfl, .inl ⟨rfl, _, _, rfl⟩, by simp, .inl ⟨rfl, rfl⟩⟩
    · obtain ⟨ya, yk, rfl⟩ := hi.form
      simp only [HN.out] at hn
      exact ⟨a, b, c, ya, _, yk, r, 0, rfl, hi, (asTsk_of hl6 hn).2, (asTsk_of hl6 hn).1⟩
  obtain ⟨yc, yd, yt, ya, yn, yk, ym, fc, rfl, hi, hy, hat⟩ := H
  have AT : Hid (AsTsk s nc ⟨yc, yd, yt, ym⟩ fc) := hat
  have T2 : Hid (Th w co sy la mo ac nc kc l gx xco xsy xla xmo xa xn xk xr w3) := T1.out.below g3
  have T3 : Hid (Tl w co sy la mo ac nc kc l gx xco xsy xla xmo xa xn xk xr w3.heap.size yc yd yt ya yn yk ym (w3.alloc (.cells #[.int .i64 yc, .int .i64 yd, .int .i64 yt, .slice ya yn yk] 27))) := T2.out.more yc yd yt ya yn yk ym hi hy
  have q0 : w3.cell? ⟨w.heap.size, 0, none⟩ = some (.int .i64 co) := T2.out.bc.cell 0
  have q1 : w3.cell? ⟨w.heap.size, 1, none⟩ = some (.int .i64 sy) := T2.out.bc.cell 1
  have q2 : w3.cell? ⟨w.heap.size, 2, none⟩ = some (.int .i64 la) := T2.out.bc.cell 2
  have q3 : w3.cell? ⟨w.heap.size, 3, none⟩ = some (.int .i64 mo) := T2.out.bc.cell 3
  have q4 : w3.cell? ⟨w.heap.size, 4, none⟩ = some (.slice ac nc kc) := T2.out.bc.cell 4
  have p0 : w3.cell? ⟨gx, 0, none⟩ = some (.int .i64 xco) := T2.out.bx.cell 0
  have p1 : w3.cell? ⟨gx, 1, none⟩ = some (.int .i64 xsy) := T2.out.bx.cell 1
  have p2 : w3.cell? ⟨gx, 2, none⟩ = some (.int .i64 xla) := T2.out.bx.cell 2
  have p3 : w3.cell? ⟨gx, 3, none⟩ = some (.int .i64 xmo) := T2.out.bx.cell 3
  have p4 : w3.cell? ⟨gx, 4, none⟩ = some (.slice xa xn xk) := T2.out.bx.cell 4
  have l3 : w.heap.size < w3.heap.size := T2.out.bc.lt
  have l4 : gx < w3.heap.size := T2.out.bx.lt
  clear g3 h hi hy hat T1 T2
  rcases AS.out with ⟨rfl, hx⟩ | ⟨rfl, hx, hx2⟩
  · simp only [Cfg.mk.injEq] at hx
    obtain ⟨rfl, rfl, rfl, rfl, rfl⟩ := hx
    clear AS
    rcases AT.out with ⟨rfl, hy⟩ | ⟨rfl, hy, hy2⟩
    · simp only [Tsk.mk.injEq] at hy
      obtain ⟨rfl, rfl, rfl, rfl⟩ := hy
      clear AT
      go_wp2_with fail
      generalize hW : w3.alloc _ = W4 at T3 ⊢
      generalize hG : w3.heap.size = gy at T3 ⊢
      clear hW hG q0 q1 q2 q3 q4 p0 p1 p2 p3 p4 l3 l4
      refine (sameCfg_at 0 0 0 0 0 0 0 0 (.slice xa xn xk) (.slice none 0 0) [] [] _ T3.out.ix (ints_nil _) (by simp) (by simp) true (decide_eq_true rfl)).mono ?_
      rintro e w5 ⟨rfl, g⟩
      have T4 : Hid (Tl w co sy la mo ac nc kc l gx 0 0 0 0 xa xn xk [] gy 0 0 0 ya yn yk [] w5) := T3.out.below g
      clear g
      have q0 : w5.cell? ⟨w.heap.size, 0, none⟩ = some (.int .i64 co) := T4.out.bc.cell 0
      have q1 : w5.cell? ⟨w.heap.size, 1, none⟩ = some (.int .i64 sy) := T4.out.bc.cell 1
      have q2 : w5.cell? ⟨w.heap.size, 2, none⟩ = some (.int .i64 la) := T4.out.bc.cell 2
      have q3 : w5.cell? ⟨w.heap.size, 3, none⟩ = some (.int .i64 mo) := T4.out.bc.cell 3
      have q4 : w5.cell? ⟨w.heap.size, 4, none⟩ = some (.slice ac nc kc) := T4.out.bc.cell 4
      have p0 : w5.cell? ⟨gx, 0, none⟩ = some (.int .i64 0) := T4.out.bx.cell 0
      have p1 : w5.cell? ⟨gx, 1, none⟩ = some (.int .i64 0) := T4.out.bx.cell 1
      have p2 : w5.cell? ⟨gx, 2, none⟩ = some (.int .i64 0) := T4.out.bx.cell 2
      have p3 : w5.cell? ⟨gx, 3, none⟩ = some (.int .i64 0) := T4.out.bx.cell 3
      have p4 : w5.cell? ⟨gx, 4, none⟩ = some (.slice xa xn xk) := T4.out.bx.cell 4
      have r0 : w5.cell? ⟨gy, 0, none⟩ = some (.int .i64 0) := T4.out.bz.cell 0
      have r1 : w5.cell? ⟨gy, 1, none⟩ = some (.int .i64 0) := T4.out.bz.cell 1
      have r2 : w5.cell? ⟨gy, 2, none⟩ = some (.int .i64 0) := T4.out.bz.cell 2
      have r3 : w5.cell? ⟨gy, 3, none⟩ = some (.slice ya yn yk) := T4.out.bz.cell 3
      go_wp2_with fail
      refine (sameTsk_at 0 0 0 0 0 0 (.slice ya yn yk) (.slice none 0 0) [] [] _ T4.out.iz (.inl ⟨rfl, _, _, rfl⟩) (by simp) (by simp) true (decide_eq_true rfl)).mono ?_
      rintro e w6 ⟨rfl, g⟩
      have T5 : Hid (Tl w co sy la mo ac nc kc l gx 0 0 0 0 xa xn xk [] gy 0 0 0 ya yn yk [] w6) := T4.out.below g
      clear g
      have q0 : w6.cell? ⟨w.heap.size, 0, none⟩ = some (.int .i64 co) := T5.out.bc.cell 0
      have q1 : w6.cell? ⟨w.heap.size, 1, none⟩ = some (.int .i64 sy) := T5.out.bc.cell 1
      have q2 : w6.cell? ⟨w.heap.size, 2, none⟩ = some (.int .i64 la) := T5.out.bc.cell 2
      have q3 : w6.cell? ⟨w.heap.size, 3, none⟩ = some (.int .i64 mo) := T5.out.bc.cell 3
      have q4 : w6.cell? ⟨w.heap.size, 4, none⟩ = some (.slice ac nc kc) := T5.out.bc.cell 4
      have p0 : w6.cell? ⟨gx, 0, none⟩ = some (.int .i64 0) := T5.out.bx.cell 0
      have p1 : w6.cell? ⟨gx, 1, none⟩ = some (.int .i64 0) := T5.out.bx.cell 1
      have p2 : w6.cell? ⟨gx, 2, none⟩ = some (.int .i64 0) := T5.out.bx.cell 2
      have p3 : w6.cell? ⟨gx, 3, none⟩ = some (.int .i64 0) := T5.out.bx.cell 3
      have p4 : w6.cell? ⟨gx, 4, none⟩ = some (.slice xa xn xk) := T5.out.bx.cell 4
      have r0 : w6.cell? ⟨gy, 0, none⟩ = some (.int .i64 0) := T5.out.bz.cell 0
      have r1 : w6.cell? ⟨gy, 1, none⟩ = some (.int .i64 0) := T5.out.bz.cell 1
      have r2 : w6.cell? ⟨gy, 2, none⟩ = some (.int .i64 0) := T5.out.bz.cell 2
      have r3 : w6.cell? ⟨gy, 3, none⟩ = some (.slice ya yn yk) := T5.out.bz.cell 3
      go_wp2_with fail
      go_ret
      exact ⟨ret_bool (by rfl), T5.out.bel⟩
    · have AT : Hid (s.data.toList = putTskL ⟨yc, yd, yt, ym⟩ ∧ tskB nc ⟨yc, yd, yt, ym⟩ = true) := ⟨hy, hy2⟩
      clear hy hy2
      go_wp2_with fail
      generalize hW : w3.alloc _ = W4 at T3 ⊢
      generalize hG : w3.heap.size = gy at T3 ⊢
      clear hW hG q0 q1 q2 q3 q4 p0 p1 p2 p3 p4 l3 l4
      refine (sameCfg_at 0 0 0 0 0 0 0 0 (.slice xa xn xk) (.slice none 0 0) [] [] _ T3.out.ix (ints_nil _) (by simp) (by simp) true (decide_eq_true rfl)).mono ?_
      rintro e w5 ⟨rfl, g⟩
      have T4 : Hid (Tl w co sy la mo ac nc kc l gx 0 0 0 0 xa xn xk [] gy yc yd yt ya yn yk ym w5) := T3.out.below g
      clear g
      have q0 : w5.cell? ⟨w.heap.size, 0, none⟩ = some (.int .i64 co) := T4.out.bc.cell 0
      have q1 : w5.cell? ⟨w.heap.size, 1, none⟩ = some (.int .i64 sy) := T4.out.bc.cell 1
      have q2 : w5.cell? ⟨w.heap.size, 2, none⟩ = some (.int .i64 la) := T4.out.bc.cell 2
      have q3 : w5.cell? ⟨w.heap.size, 3, none⟩ = some (.int .i64 mo) := T4.out.bc.cell 3
      have q4 : w5.cell? ⟨w.heap.size, 4, none⟩ = some (.slice ac nc kc) := T4.out.bc.cell 4
      have p0 : w5.cell? ⟨gx, 0, none⟩ = some (.int .i64 0) := T4.out.bx.cell 0
      have p1 : w5.cell? ⟨gx, 1, none⟩ = some (.int .i64 0) := T4.out.bx.cell 1
      have p2 : w5.cell? ⟨gx, 2, none⟩ = some (.int .i64 0) := T4.out.bx.cell 2
      have p3 : w5.cell? ⟨gx, 3, none⟩ = some (.int .i64 0) := T4.out.bx.cell 3
      have p4 : w5.cell? ⟨gx, 4, none⟩ = some (.slice xa xn xk) := T4.out.bx.cell 4
      have r0 : w5.cell? ⟨gy, 0, none⟩ = some (.int .i64 yc) := T4.out.bz.cell 0
      have r1 : w5.cell? ⟨gy, 1, none⟩ = some (.int .i64 yd) := T4.out.bz.cell 1
      have r2 : w5.cell? ⟨gy, 2, none⟩ = some (.int .i64 yt) := T4.out.bz.cell 2
      have r3 : w5.cell? ⟨gy, 3, none⟩ = some (.slice ya yn yk) := T4.out.bz.cell 3
      go_wp2_with fail
      refine (refPutTsk_s yc yd yt (.slice ya yn yk) ym s _ T4.out.env T4.out.iz T4.out.ly AT.out.1).mono ?_
      rintro e w6 ⟨rfl, g⟩
      have T5 : Hid (Tl w co sy la mo ac nc kc l gx 0 0 0 0 xa xn xk [] gy yc yd yt ya yn yk ym w6) := T4.out.below g
      clear g
      have q0 : w6.cell? ⟨w.heap.size, 0, none⟩ = some (.int .i64 co) := T5.out.bc.cell 0
      have q1 : w6.cell? ⟨w.heap.size, 1, none⟩ = some (.int .i64 sy) := T5.out.bc.cell 1
      have q2 : w6.cell? ⟨w.heap.size, 2, none⟩ = some (.int .i64 la) := T5.out.bc.cell 2
      have q3 : w6.cell? ⟨w.heap.size, 3, none⟩ = some (.int .i64 mo) := T5.out.bc.cell 3
      have q4 : w6.cell? ⟨w.heap.size, 4, none⟩ = some (.slice ac nc kc) := T5.out.bc.cell 4
      have p0 : w6.cell? ⟨gx, 0, none⟩ = some (.int .i64 0) := T5.out.bx.cell 0
      have p1 : w6.cell? ⟨gx, 1, none⟩ = some (.int .i64 0) := T5.out.bx.cell 1
      have p2 : w6.cell? ⟨gx, 2, none⟩ = some (.int .i64 0) := T5.out.bx.cell 2
      have p3 : w6.cell? ⟨gx, 3, none⟩ = some (.int .i64 0) := T5.out.bx.cell 3
      have p4 : w6.cell? ⟨gx, 4, none⟩ = some (.slice xa xn xk) := T5.out.bx.cell 4
      have r0 : w6.cell? ⟨gy, 0, none⟩ = some (.int .i64 yc) := T5.out.bz.cell 0
      have r1 : w6.cell? ⟨gy, 1, none⟩ = some (.int .i64 yd) := T5.out.bz.cell 1
      have r2 : w6.cell? ⟨gy, 2, none⟩ = some (.int .i64 yt) := T5.out.bz.cell 2
      have r3 : w6.cell? ⟨gy, 3, none⟩ = some (.slice ya yn yk) := T5.out.bz.cell 3
      go_wp2_with fail
      refine (refTsk_at co sy la mo ac nc kc yc yd yt (.slice ya yn yk) ym _ T5.out.iz T5.out.ly true AT.out.2).mono ?_
      rintro e w7 ⟨rfl, g⟩
      have T6 : Hid (Tl w co sy la mo ac nc kc l gx 0 0 0 0 xa xn xk [] gy yc yd yt ya yn yk ym w7) := T5.out.below g
      clear g
      have q0 : w7.cell? ⟨w.heap.size, 0, none⟩ = some (.int .i64 co) := T6.out.bc.cell 0
      have q1 : w7.cell? ⟨w.heap.size, 1, none⟩ = some (.int .i64 sy) := T6.out.bc.cell 1
      have q2 : w7.cell? ⟨w.heap.size, 2, none⟩ = some (.int .i64 la) := T6.out.bc.cell 2
      have q3 : w7.cell? ⟨w.heap.size, 3, none⟩ = some (.int .i64 mo) := T6.out.bc.cell 3
      have q4 : w7.cell? ⟨w.heap.size, 4, none⟩ = some (.slice ac nc kc) := T6.out.bc.cell 4
      have p0 : w7.cell? ⟨gx, 0, none⟩ = some (.int .i64 0) := T6.out.bx.cell 0
      have p1 : w7.cell? ⟨gx, 1, none⟩ = some (.int .i64 0) := T6.out.bx.cell 1
      have p2 : w7.cell? ⟨gx, 2, none⟩ = some (.int .i64 0) := T6.out.bx.cell 2
      have p3 : w7.cell? ⟨gx, 3, none⟩ = some (.int .i64 0) := T6.out.bx.cell 3
      have p4 : w7.cell? ⟨gx, 4, none⟩ = some (.slice xa xn xk) := T6.out.bx.cell 4
      have r0 : w7.cell? ⟨gy, 0, none⟩ = some (.int .i64 yc) := T6.out.bz.cell 0
      have r1 : w7.cell? ⟨gy, 1, none⟩ = some (.int .i64 yd) := T6.out.bz.cell 1
      have r2 : w7.cell? ⟨gy, 2, none⟩ = some (.int .i64 yt) := T6.out.bz.cell 2
      have r3 : w7.cell? ⟨gy, 3, none⟩ = some (.slice ya yn yk) := T6.out.bz.cell 3
      go_wp2_with fail
      go_ret
      exact ⟨ret_bool (by simp), T6.out.bel⟩
  · have NE : ¬ s.toList = [] := put_yes2 hx2
    have AS : Hid (s.data.toList = putCfgL ⟨xco, xsy, xla, xmo, xr⟩) := hx
    clear hx hx2
    rcases AT.out with ⟨rfl, hy⟩ | ⟨rfl, hy, hy2⟩
    · simp only [Tsk.mk.injEq] at hy
      obtain ⟨rfl, rfl, rfl, rfl⟩ := hy
      clear AT
      go_wp2_with fail
      generalize hW : w3.alloc _ = W4 at T3 ⊢
      generalize hG : w3.heap.size = gy at T3 ⊢
      clear hW hG q0 q1 q2 q3 q4 p0 p1 p2 p3 p4 l3 l4
      refine (sameTsk_at 0 0 0 0 0 0 (.slice ya yn yk) (.slice none 0 0) [] [] _ T3.out.iz (.inl ⟨rfl, _, _, rfl⟩) (by simp) (by simp) true (decide_eq_true rfl)).mono ?_
      rintro e w5 ⟨rfl, g⟩
      have T4 : Hid (Tl w co sy la mo ac nc kc l gx xco xsy xla xmo xa xn xk xr gy 0 0 0 ya yn yk [] w5) := T3.out.below g
      clear g
      have q0 : w5.cell? ⟨w.heap.size, 0, none⟩ = some (.int .i64 co) := T4.out.bc.cell 0
      have q1 : w5.cell? ⟨w.heap.size, 1, none⟩ = some (.int .i64 sy) := T4.out.bc.cell 1
      have q2 : w5.cell? ⟨w.heap.size, 2, none⟩ = some (.int .i64 la) := T4.out.bc.cell 2
      have q3 : w5.cell? ⟨w.heap.size, 3, none⟩ = some (.int .i64 mo) := T4.out.bc.cell 3
      have q4 : w5.cell? ⟨w.heap.size, 4, none⟩ = some (.slice ac nc kc) := T4.out.bc.cell 4
      have p0 : w5.cell? ⟨gx, 0, none⟩ = some (.int .i64 xco) := T4.out.bx.cell 0
      have p1 : w5.cell? ⟨gx, 1, none⟩ = some (.int .i64 xsy) := T4.out.bx.cell 1
      have p2 : w5.cell? ⟨gx, 2, none⟩ = some (.int .i64 xla) := T4.out.bx.cell 2
      have p3 : w5.cell? ⟨gx, 3, none⟩ = some (.int .i64 xmo) := T4.out.bx.cell 3
      have p4 : w5.cell? ⟨gx, 4, none⟩ = some (.slice xa xn xk) := T4.out.bx.cell 4
      have r0 : w5.cell? ⟨gy, 0, none⟩ = some (.int .i64 0) := T4.out.bz.cell 0
      have r1 : w5.cell? ⟨gy, 1, none⟩ = some (.int .i64 0) := T4.out.bz.cell 1
      have r2 : w5.cell? ⟨gy, 2, none⟩ = some (.int .i64 0) := T4.out.bz.cell 2
      have r3 : w5.cell? ⟨gy, 3, none⟩ = some (.slice ya yn yk) := T4.out.bz.cell 3
      go_wp2_with fail
      refine (refPutCfg_s xco xsy xla xmo (.slice xa xn xk) xr s _ T4.out.env T4.out.ix T4.out.lx AS.out).mono ?_
      rintro e w6 ⟨rfl, g⟩
      have T5 : Hid (Tl w co sy la mo ac nc kc l gx xco xsy xla xmo xa xn xk xr gy 0 0 0 ya yn yk [] w6) := T4.out.below g
      clear g
      have q0 : w6.cell? ⟨w.heap.size, 0, none⟩ = some (.int .i64 co) := T5.out.bc.cell 0
      have q1 : w6.cell? ⟨w.heap.size, 1, none⟩ = some (.int .i64 sy) := T5.out.bc.cell 1
      have q2 : w6.cell? ⟨w.heap.size, 2, none⟩ = some (.int .i64 la) := T5.out.bc.cell 2
      have q3 : w6.cell? ⟨w.heap.size, 3, none⟩ = some (.int .i64 mo) := T5.out.bc.cell 3
      have q4 : w6.cell? ⟨w.heap.size, 4, none⟩ = some (.slice ac nc kc) := T5.out.bc.cell 4
      have p0 : w6.cell? ⟨gx, 0, none⟩ = some (.int .i64 xco) := T5.out.bx.cell 0
      have p1 : w6.cell? ⟨gx, 1, none⟩ = some (.int .i64 xsy) := T5.out.bx.cell 1
      have p2 : w6.cell? ⟨gx, 2, none⟩ = some (.int .i64 xla) := T5.out.bx.cell 2
      have p3 : w6.cell? ⟨gx, 3, none⟩ = some (.int .i64 xmo) := T5.out.bx.cell 3
      have p4 : w6.cell? ⟨gx, 4, none⟩ = some (.slice xa xn xk) := T5.out.bx.cell 4
      have r0 : w6.cell? ⟨gy, 0, none⟩ = some (.int .i64 0) := T5.out.bz.cell 0
      have r1 : w6.cell? ⟨gy, 1, none⟩ = some (.int .i64 0) := T5.out.bz.cell 1
      have r2 : w6.cell? ⟨gy, 2, none⟩ = some (.int .i64 0) := T5.out.bz.cell 2
      have r3 : w6.cell? ⟨gy, 3, none⟩ = some (.slice ya yn yk) := T5.out.bz.cell 3
      go_wp2_with fail
      go_ret
      exact ⟨ret_bool (by simpa using NE), T5.out.bel⟩
    · have AT : Hid (s.data.toList = putTskL ⟨yc, yd, yt, ym⟩ ∧ tskB nc ⟨yc, yd, yt, ym⟩ = true) := ⟨hy, hy2⟩
      clear hy hy2
      go_wp2_with fail
      generalize hW : w3.alloc _ = W4 at T3 ⊢
      generalize hG : w3.heap.size = gy at T3 ⊢
      clear hW hG q0 q1 q2 q3 q4 p0 p1 p2 p3 p4 l3 l4
      refine (refPutCfg_s xco xsy xla xmo (.slice xa xn xk) xr s _ T3.out.env T3.out.ix T3.out.lx AS.out).mono ?_
      rintro e w5 ⟨rfl, g⟩
      have T4 : Hid (Tl w co sy la mo ac nc kc l gx xco xsy xla xmo xa xn xk xr gy yc yd yt ya yn yk ym w5) := T3.out.below g
      clear g
      have q0 : w5.cell? ⟨w.heap.size, 0, none⟩ = some (.int .i64 co) := T4.out.bc.cell 0
      have q1 : w5.cell? ⟨w.heap.size, 1, none⟩ = some (.int .i64 sy) := T4.out.bc.cell 1
      have q2 : w5.cell? ⟨w.heap.size, 2, none⟩ = some (.int .i64 la) := T4.out.bc.cell 2
      have q3 : w5.cell? ⟨w.heap.size, 3, none⟩ = some (.int .i64 mo) := T4.out.bc.cell 3
      have q4 : w5.cell? ⟨w.heap.size, 4, none⟩ = some (.slice ac nc kc) := T4.out.bc.cell 4
      have p0 : w5.cell? ⟨gx, 0, none⟩ = some (.int .i64 xco) := T4.out.bx.cell 0
      have p1 : w5.cell? ⟨gx, 1, none⟩ = some (.int .i64 xsy) := T4.out.bx.cell 1
      have p2 : w5.cell? ⟨gx, 2, none⟩ = some (.int .i64 xla) := T4.out.bx.cell 2
      have p3 : w5.cell? ⟨gx, 3, none⟩ = some (.int .i64 xmo) := T4.out.bx.cell 3
      have p4 : w5.cell? ⟨gx, 4, none⟩ = some (.slice xa xn xk) := T4.out.bx.cell 4
      have r0 : w5.cell? ⟨gy, 0, none⟩ = some (.int .i64 yc) := T4.out.bz.cell 0
      have r1 : w5.cell? ⟨gy, 1, none⟩ = some (.int .i64 yd) := T4.out.bz.cell 1
      have r2 : w5.cell? ⟨gy, 2, none⟩ = some (.int .i64 yt) := T4.out.bz.cell 2
      have r3 : w5.cell? ⟨gy, 3, none⟩ = some (.slice ya yn yk) := T4.out.bz.cell 3
      go_wp2_with fail
      refine (refPutTsk_s yc yd yt (.slice ya yn yk) ym s _ T4.out.env T4.out.iz T4.out.ly AT.out.1).mono ?_
      rintro e w6 ⟨rfl, g⟩
      have T5 : Hid (Tl w co sy la mo ac nc kc l gx xco xsy xla xmo xa xn xk xr gy yc yd yt ya yn yk ym w6) := T4.out.below g
      clear g
      have q0 : w6.cell? ⟨w.heap.size, 0, none⟩ = some (.int .i64 co) := T5.out.bc.cell 0
      have q1 : w6.cell? ⟨w.heap.size, 1, none⟩ = some (.int .i64 sy) := T5.out.bc.cell 1
      have q2 : w6.cell? ⟨w.heap.size, 2, none⟩ = some (.int .i64 la) := T5.out.bc.cell 2
      have q3 : w6.cell? ⟨w.heap.size, 3, none⟩ = some (.int .i64 mo) := T5.out.bc.cell 3
      have q4 : w6.cell? ⟨w.heap.size, 4, none⟩ = some (.slice ac nc kc) := T5.out.bc.cell 4
      have p0 : w6.cell? ⟨gx, 0, none⟩ = some (.int .i64 xco) := T5.out.bx.cell 0
      have p1 : w6.cell? ⟨gx, 1, none⟩ = some (.int .i64 xsy) := T5.out.bx.cell 1
      have p2 : w6.cell? ⟨gx, 2, none⟩ = some (.int .i64 xla) := T5.out.bx.cell 2
      have p3 : w6.cell? ⟨gx, 3, none⟩ = some (.int .i64 xmo) := T5.out.bx.cell 3
      have p4 : w6.cell? ⟨gx, 4, none⟩ = some (.slice xa xn xk) := T5.out.bx.cell 4
      have r0 : w6.cell? ⟨gy, 0, none⟩ = some (.int .i64 yc) := T5.out.bz.cell 0
      have r1 : w6.cell? ⟨gy, 1, none⟩ = some (.int .i64 yd) := T5.out.bz.cell 1
      have r2 : w6.cell? ⟨gy, 2, none⟩ = some (.int .i64 yt) := T5.out.bz.cell 2
      have r3 : w6.cell? ⟨gy, 3, none⟩ = some (.slice ya yn yk) := T5.out.bz.cell 3
      go_wp2_with fail
      refine (refTsk_at co sy la mo ac nc kc yc yd yt (.slice ya yn yk) ym _ T5.out.iz T5.out.ly true AT.out.2).mono ?_
      rintro e w7 ⟨rfl, g⟩
      have T6 : Hid (Tl w co sy la mo ac nc kc l gx xco xsy xla xmo xa xn xk xr gy yc yd yt ya yn yk ym w7) := T5.out.below g
      clear g
      have q0 : w7.cell? ⟨w.heap.size, 0, none⟩ = some (.int .i64 co) := T6.out.bc.cell 0
      have q1 : w7.cell? ⟨w.heap.size, 1, none⟩ = some (.int .i64 sy) := T6.out.bc.cell 1
      have q2 : w7.cell? ⟨w.heap.size, 2, none⟩ = some (.int .i64 la) := T6.out.bc.cell 2
      have q3 : w7.cell? ⟨w.heap.size, 3, none⟩ = some (.int .i64 mo) := T6.out.bc.cell 3
      have q4 : w7.cell? ⟨w.heap.size, 4, none⟩ = some (.slice ac nc kc) := T6.out.bc.cell 4
      have p0 : w7.cell? ⟨gx, 0, none⟩ = some (.int .i64 xco) := T6.out.bx.cell 0
      have p1 : w7.cell? ⟨gx, 1, none⟩ = some (.int .i64 xsy) := T6.out.bx.cell 1
      have p2 : w7.cell? ⟨gx, 2, none⟩ = some (.int .i64 xla) := T6.out.bx.cell 2
      have p3 : w7.cell? ⟨gx, 3, none⟩ = some (.int .i64 xmo) := T6.out.bx.cell 3
      have p4 : w7.cell? ⟨gx, 4, none⟩ = some (.slice xa xn xk) := T6.out.bx.cell 4
      have r0 : w7.cell? ⟨gy, 0, none⟩ = some (.int .i64 yc) := T6.out.bz.cell 0
      have r1 : w7.cell? ⟨gy, 1, none⟩ = some (.int .i64 yd) := T6.out.bz.cell 1
      have r2 : w7.cell? ⟨gy, 2, none⟩ = some (.int .i64 yt) := T6.out.bz.cell 2
      have r3 : w7.cell? ⟨gy, 3, none⟩ = some (.slice ya yn yk) := T6.out.bz.cell 3
      go_wp2_with fail
      go_ret
      exact ⟨ret_bool (by simpa using NE), T6.out.bel⟩
end Go.Proofs.YtfhhpmnohbmnoaaGreatDoor
