/- The contracts of most.greatest$1 and most.greatest, for either maker of loads. Printed by genmost.py. -/
import Derived.Test.YtakdliecjfeedaaGreatDoorClip
import Derived.Deep.RegionLaw
namespace Go.Proofs.YtakdliecjfeedaaGreatDoor
open Go Go.RowKit

def greatV (p : Nat → Bool) (n : Nat) (top : Int) : Int := if n ≤ 23 then (grN p top.toNat : Nat) else 0

/-- What the search looks at: the list and the maker in boxes. -/
structure GBFit (w0 : World) (lb ob bd bt n cap : Nat) (a : Option Addr) (l : List Sec) (d t : Int) (w : World) : Prop where
  bel : Below w0.heap.size w0 w
  cl : w.cell? ⟨lb, 0, none⟩ = some (.slice a n cap)
  co : w.cell? ⟨ob, 0, none⟩ = some (.func (.func 76) #[] #[.pointer (some ⟨bd, 0, none⟩), .pointer (some ⟨bt, 0, none⟩)])
  cs : w.cell? ⟨bd, 0, none⟩ = some (.int .i64 d) ∧ w.cell? ⟨bt, 0, none⟩ = some (.int .i64 t)
  sl : Secs w (.slice a n cap) l
theorem GBFit.below {w0 w w' : World} {lb ob bd bt n cap : Nat} {a : Option Addr} {l : List Sec} {d t : Int} (h : GBFit w0 lb ob bd bt n cap a l d t w) (g : Below w.heap.size w w') : GBFit w0 lb ob bd bt n cap a l d t w' :=
  ⟨btrans h.bel g, cell_keep h.cl g, cell_keep h.co g, ⟨cell_keep h.cs.1 g, cell_keep h.cs.2 g⟩, h.sl.below g⟩
/-- Seen from where it is. -/
theorem GBFit.re {w0 w : World} {lb ob bd bt n cap : Nat} {a : Option Addr} {l : List Sec} {d t : Int} (h : GBFit w0 lb ob bd bt n cap a l d t w) {w1 : World} (g : Below w1.heap.size w1 w) : GBFit w1 lb ob bd bt n cap a l d t w := ⟨g, h.cl, h.co, h.cs, h.sl⟩
theorem cell_ltFit {w : World} {p : Nat} {v : Value} (h : w.cell? ⟨p, 0, none⟩ = some v) : p < w.heap.size := by
  cases e : w.heap[p]? with
  | none => simp [World.cell?, e] at h
  | some o => exact (Array.getElem?_eq_some_iff.1 e).1
set_option maxHeartbeats 8000000 in
set_option maxRecDepth 100000 in
theorem stepFit_any (i lb ob bd bt n cap : Nat) (a : Option Addr) (l : List Sec) (d t : Int) (w0 w : World) (g : GBFit w0 lb ob bd bt n cap a l d t w) (hn : l.length = n) (hcap : n ≤ cap) (n6 : n ≤ 1000) (hi : i ≤ 1000) (hnone : a = none → n = 0 ∧ n = 0) :
    Calls Tryz.prog 92 #[.int .i64 i, .pointer (some ⟨lb, 0, none⟩), .pointer (some ⟨ob, 0, none⟩)] w fun e w' => e = .returned (.bool (!pFit l d t (i + 1))) ∧ Below w0.heap.size w0 w' := by
  obtain ⟨i0, hi0, hz0, hz1, hz2⟩ := info_parts infoL
  have G : Hid (GBFit w0 lb ob bd bt n cap a l d t w) := g
  have q1 := g.cl
  have q2 := g.co
  have q3 : lb < w.heap.size := cell_ltFit g.cl
  have q4 : ob < w.heap.size := cell_ltFit g.co
  have HN : Hid (l.length = n) := hn
  have HL : Hid ((secC l).length = n * 3) := by unfold Hid; rw [secC_length, hn]
  have HNo : Hid (a = none → n = 0 ∧ n = 0) := hnone
  have HP : Hid (pFit l d t (i + 1) = fitB (l ++ [(⟨(i : Int) + 1, d, t⟩ : Sec)])) := rfl
  have HM : Hid (n + 1 = (l ++ [(⟨(i : Int) + 1, d, t⟩ : Sec)]).length) := by unfold Hid; rw [List.length_append, hn]; rfl
  have q7 : IntKind.i64.wrap ((i : Int) + 1) = (i : Int) + 1 := IntWalk.i64_in _ (by omega)
  clear g hnone hn
  go_enter Tryz.func92, Tryz.ntmps92
  go_wp2_with fail
  go_region_law (first
    | (go_simp; (first
      | (go_at_call 93; refine (clip_any a n cap _ hcap).mono ?_; rintro e w' ⟨rfl, rfl⟩)
      | (go_at_call 76; refine (mkfit_any _ d t bd bt _ (by first | exact G.out.cs.1 | exact (G.out.below (bdrew _)).cs.1) (by first | exact G.out.cs.2 | exact (G.out.below (bdrew _)).cs.2) (by first | exact cell_ltFit G.out.cs.1 | exact cell_ltFit (G.out.below (bdrew _)).cs.1) (by first | exact cell_ltFit G.out.cs.2 | exact cell_ltFit (G.out.below (bdrew _)).cs.2)).mono ?_; rintro e w2 ⟨rfl, g2⟩; have G2 : Hid (GBFit w0 lb ob bd bt n cap a l d t w2) := (by first | exact G.out.below g2 | exact (G.out.below (bdrew _)).below g2); have r1 := G2.out.cl; have r2 := G2.out.co; have r3 : lb < w2.heap.size := cell_ltFit G2.out.cl; have r4 : ob < w2.heap.size := cell_ltFit G2.out.co; have r5 : ¬ lb = w2.heap.size := Nat.ne_of_lt r3; have r6 : ¬ ob = w2.heap.size := Nat.ne_of_lt r4; clear g2)
      | (go_at_call 61; refine (dfits_any _ (l ++ [(⟨(i : Int) + 1, d, t⟩ : Sec)]) w3 S3.out (by rw [← HM.out]; omega)).mono ?_; rintro e w4 ⟨rfl, g4⟩; have B4 : Hid (Below w0.heap.size w0 w4) := btrans B3.out g4; clear g4)); go_wp2_with fail)
    | (refine step_append_grows (by rfl) (.tmp 6) (.tmp 11) 51 (by rfl) 55 i0 (.agg #[.int .i64 0, .int .i64 0, .int .i64 0]) 3 24 Tryz.underlying51 hi0 hz0 hz1 hz2 (by rfl) (by omega) a n n (secC l) (by rfl) HNo.out HL.out (fun b hb => by subst hb; exact secs_news (G2.out.sl.below (balloc _ _))) ⟨w2.heap.size, 0, none⟩ 1 1 (secC [(⟨(i : Int) + 1, d, t⟩ : Sec)]) (by rfl) rfl (news_one _ _ _ _ _) (secC_one _) (by omega) (by unfold maxLen; omega) (by omega) ?_; intro v3 w3 own3 gr3; obtain ⟨a3, cap3, rfl⟩ := own_form own3; have S3 : Hid (Secs w3 (.slice a3 (n + 1) cap3) (l ++ [(⟨(i : Int) + 1, d, t⟩ : Sec)])) := (by have := own_secs (l := l ++ [(⟨(i : Int) + 1, d, t⟩ : Sec)]) (v := .slice a3 (n + 1) cap3) (w := w3) (base := _) (e := _) (by rw [secC_append, ← HM.out]; exact own3); exact this); have B3 : Hid (Below w0.heap.size w0 w3) := (btrans (btrans G2.out.bel (balloc _ _)) (gr_bel gr3 (by simp) (Nat.le_refl _))); clear own3 gr3))
  all_goals
    go_wp2_with fail
    go_ret
    exact ⟨ret_bool (by rw [HP.out]), B4.out⟩
set_option maxHeartbeats 8000000 in
theorem greatFit_any (bd bt n cap : Nat) (a : Option Addr) (l : List Sec) (d t top : Int) (w : World) (hv : Secs w (.slice a n cap) l) (hcap : n ≤ cap) (hn : l.length = n) (n6 : n ≤ 1000) (htop : top ≤ 200) (cs : w.cell? ⟨bd, 0, none⟩ = some (.int .i64 d) ∧ w.cell? ⟨bt, 0, none⟩ = some (.int .i64 t)) :
    Calls Tryz.prog 75 #[.slice a n cap, .int .i64 top, .func (.func 76) #[] #[.pointer (some ⟨bd, 0, none⟩), .pointer (some ⟨bt, 0, none⟩)]] w fun e w' => e = .returned (.int .i64 (greatV (pFit l d t) n top)) ∧ Below w.heap.size w w' := by
  by_cases h23 : 23 < n
  · have HR : Hid (greatV (pFit l d t) n top = 0) := if_neg (by omega)
    go_enter Tryz.func75, Tryz.ntmps75
    go_wp2_with fail
    go_ret
    exact ⟨ret_int HR.out.symm, btrans (balloc _ _) (balloc _ _)⟩
  by_cases h1 : top < 1
  · have HR : Hid (greatV (pFit l d t) n top = 0) := by unfold Hid greatV; rw [show top.toNat = 0 by omega, if_pos (by omega)]; rfl
    go_enter Tryz.func75, Tryz.ntmps75
    go_wp2_with fail
    go_ret
    exact ⟨ret_int HR.out.symm, btrans (balloc _ _) (balloc _ _)⟩
  obtain ⟨m, rfl⟩ : ∃ m : Nat, top = m := ⟨top.toNat, by omega⟩
  have HR : Hid (greatV (pFit l d t) n m = (grN (pFit l d t) m : Nat)) := by unfold Hid greatV; rw [if_pos (by omega)]; rfl
  have hmn : m ≤ 200 := by omega
  have b0 : Below w.heap.size w ((w.alloc (.cells #[.slice a n cap] 51)).alloc (.cells #[.func (.func 76) #[] #[.pointer (some ⟨bd, 0, none⟩), .pointer (some ⟨bt, 0, none⟩)]] 87)) := btrans (balloc _ _) (balloc _ _)
  have G : Hid (GBFit w w.heap.size (w.heap.size + 1) bd bt n cap a l d t ((w.alloc (.cells #[.slice a n cap] 51)).alloc (.cells #[.func (.func 76) #[] #[.pointer (some ⟨bd, 0, none⟩), .pointer (some ⟨bt, 0, none⟩)]] 87))) :=
    ⟨b0, by simp, by simp, ⟨cell_keep cs.1 b0, cell_keep cs.2 b0⟩, hv.below b0⟩
  have HN : Hid (l.length = n) := hn
  have HNo : Hid (a = none → n = 0 ∧ n = 0) := fun h => by subst h; have := (secs_none hv).2; exact ⟨this, this⟩
  clear hv hn b0 cs
  go_enter Tryz.func75, Tryz.ntmps75
  go_wp2_with (go_at_call 91; refine (search_any m w.heap.size (w.heap.size + 1) (pFit l d t) _ (by omega) (pFit_falls _ _ _) (fun i wx hi gx => (stepFit_any i _ _ bd bt n cap a l d t _ wx ((G.out.below gx).re gx) HN.out hcap n6 (by omega) HNo.out))).mono ?_; rintro e w3 ⟨rfl, g3⟩; have G3 : Hid (Below w.heap.size w w3) := btrans G.out.bel g3; clear g3)
  go_ret
  exact ⟨ret_int HR.out.symm, G3.out⟩

/-- What the search looks at: the list and the maker in boxes. -/
structure GBTight (w0 : World) (lb ob bt n cap : Nat) (a : Option Addr) (l : List Sec) (t : Int) (w : World) : Prop where
  bel : Below w0.heap.size w0 w
  cl : w.cell? ⟨lb, 0, none⟩ = some (.slice a n cap)
  co : w.cell? ⟨ob, 0, none⟩ = some (.func (.func 77) #[] #[.pointer (some ⟨bt, 0, none⟩)])
  cs : w.cell? ⟨bt, 0, none⟩ = some (.int .i64 t)
  sl : Secs w (.slice a n cap) l
theorem GBTight.below {w0 w w' : World} {lb ob bt n cap : Nat} {a : Option Addr} {l : List Sec} {t : Int} (h : GBTight w0 lb ob bt n cap a l t w) (g : Below w.heap.size w w') : GBTight w0 lb ob bt n cap a l t w' :=
  ⟨btrans h.bel g, cell_keep h.cl g, cell_keep h.co g, cell_keep h.cs g, h.sl.below g⟩
/-- Seen from where it is. -/
theorem GBTight.re {w0 w : World} {lb ob bt n cap : Nat} {a : Option Addr} {l : List Sec} {t : Int} (h : GBTight w0 lb ob bt n cap a l t w) {w1 : World} (g : Below w1.heap.size w1 w) : GBTight w1 lb ob bt n cap a l t w := ⟨g, h.cl, h.co, h.cs, h.sl⟩
theorem cell_ltTight {w : World} {p : Nat} {v : Value} (h : w.cell? ⟨p, 0, none⟩ = some v) : p < w.heap.size := by
  cases e : w.heap[p]? with
  | none => simp [World.cell?, e] at h
  | some o => exact (Array.getElem?_eq_some_iff.1 e).1
set_option maxHeartbeats 8000000 in
set_option maxRecDepth 100000 in
theorem stepTight_any (i lb ob bt n cap : Nat) (a : Option Addr) (l : List Sec) (t : Int) (w0 w : World) (g : GBTight w0 lb ob bt n cap a l t w) (hn : l.length = n) (hcap : n ≤ cap) (n6 : n ≤ 1000) (hi : i ≤ 1000) (hnone : a = none → n = 0 ∧ n = 0) :
    Calls Tryz.prog 92 #[.int .i64 i, .pointer (some ⟨lb, 0, none⟩), .pointer (some ⟨ob, 0, none⟩)] w fun e w' => e = .returned (.bool (!pTight l t (i + 1))) ∧ Below w0.heap.size w0 w' := by
  obtain ⟨i0, hi0, hz0, hz1, hz2⟩ := info_parts infoL
  have G : Hid (GBTight w0 lb ob bt n cap a l t w) := g
  have q1 := g.cl
  have q2 := g.co
  have q3 : lb < w.heap.size := cell_ltTight g.cl
  have q4 : ob < w.heap.size := cell_ltTight g.co
  have HN : Hid (l.length = n) := hn
  have HL : Hid ((secC l).length = n * 3) := by unfold Hid; rw [secC_length, hn]
  have HNo : Hid (a = none → n = 0 ∧ n = 0) := hnone
  have HP : Hid (pTight l t (i + 1) = fitB (l ++ [(⟨(i : Int) + 1, (i : Int) + 1, t⟩ : Sec)])) := rfl
  have HM : Hid (n + 1 = (l ++ [(⟨(i : Int) + 1, (i : Int) + 1, t⟩ : Sec)]).length) := by unfold Hid; rw [List.length_append, hn]; rfl
  have q7 : IntKind.i64.wrap ((i : Int) + 1) = (i : Int) + 1 := IntWalk.i64_in _ (by omega)
  clear g hnone hn
  go_enter Tryz.func92, Tryz.ntmps92
  go_wp2_with fail
  go_region_law (first
    | (go_simp; (first
      | (go_at_call 93; refine (clip_any a n cap _ hcap).mono ?_; rintro e w' ⟨rfl, rfl⟩)
      | (go_at_call 77; refine (mktight_any _ t bt _ (by first | exact G.out.cs | exact (G.out.below (bdrew _)).cs) (by first | exact cell_ltTight G.out.cs | exact cell_ltTight (G.out.below (bdrew _)).cs)).mono ?_; rintro e w2 ⟨rfl, g2⟩; have G2 : Hid (GBTight w0 lb ob bt n cap a l t w2) := (by first | exact G.out.below g2 | exact (G.out.below (bdrew _)).below g2); have r1 := G2.out.cl; have r2 := G2.out.co; have r3 : lb < w2.heap.size := cell_ltTight G2.out.cl; have r4 : ob < w2.heap.size := cell_ltTight G2.out.co; have r5 : ¬ lb = w2.heap.size := Nat.ne_of_lt r3; have r6 : ¬ ob = w2.heap.size := Nat.ne_of_lt r4; clear g2)
      | (go_at_call 61; refine (dfits_any _ (l ++ [(⟨(i : Int) + 1, (i : Int) + 1, t⟩ : Sec)]) w3 S3.out (by rw [← HM.out]; omega)).mono ?_; rintro e w4 ⟨rfl, g4⟩; have B4 : Hid (Below w0.heap.size w0 w4) := btrans B3.out g4; clear g4)); go_wp2_with fail)
    | (refine step_append_grows (by rfl) (.tmp 6) (.tmp 11) 51 (by rfl) 55 i0 (.agg #[.int .i64 0, .int .i64 0, .int .i64 0]) 3 24 Tryz.underlying51 hi0 hz0 hz1 hz2 (by rfl) (by omega) a n n (secC l) (by rfl) HNo.out HL.out (fun b hb => by subst hb; exact secs_news (G2.out.sl.below (balloc _ _))) ⟨w2.heap.size, 0, none⟩ 1 1 (secC [(⟨(i : Int) + 1, (i : Int) + 1, t⟩ : Sec)]) (by rfl) rfl (news_one _ _ _ _ _) (secC_one _) (by omega) (by unfold maxLen; omega) (by omega) ?_; intro v3 w3 own3 gr3; obtain ⟨a3, cap3, rfl⟩ := own_form own3; have S3 : Hid (Secs w3 (.slice a3 (n + 1) cap3) (l ++ [(⟨(i : Int) + 1, (i : Int) + 1, t⟩ : Sec)])) := (by have := own_secs (l := l ++ [(⟨(i : Int) + 1, (i : Int) + 1, t⟩ : Sec)]) (v := .slice a3 (n + 1) cap3) (w := w3) (base := _) (e := _) (by rw [secC_append, ← HM.out]; exact own3); exact this); have B3 : Hid (Below w0.heap.size w0 w3) := (btrans (btrans G2.out.bel (balloc _ _)) (gr_bel gr3 (by simp) (Nat.le_refl _))); clear own3 gr3))
  all_goals
    go_wp2_with fail
    go_ret
    exact ⟨ret_bool (by rw [HP.out]), B4.out⟩
set_option maxHeartbeats 8000000 in
theorem greatTight_any (bt n cap : Nat) (a : Option Addr) (l : List Sec) (t top : Int) (w : World) (hv : Secs w (.slice a n cap) l) (hcap : n ≤ cap) (hn : l.length = n) (n6 : n ≤ 1000) (htop : top ≤ 200) (cs : w.cell? ⟨bt, 0, none⟩ = some (.int .i64 t)) :
    Calls Tryz.prog 75 #[.slice a n cap, .int .i64 top, .func (.func 77) #[] #[.pointer (some ⟨bt, 0, none⟩)]] w fun e w' => e = .returned (.int .i64 (greatV (pTight l t) n top)) ∧ Below w.heap.size w w' := by
  by_cases h23 : 23 < n
  · have HR : Hid (greatV (pTight l t) n top = 0) := if_neg (by omega)
    go_enter Tryz.func75, Tryz.ntmps75
    go_wp2_with fail
    go_ret
    exact ⟨ret_int HR.out.symm, btrans (balloc _ _) (balloc _ _)⟩
  by_cases h1 : top < 1
  · have HR : Hid (greatV (pTight l t) n top = 0) := by unfold Hid greatV; rw [show top.toNat = 0 by omega, if_pos (by omega)]; rfl
    go_enter Tryz.func75, Tryz.ntmps75
    go_wp2_with fail
    go_ret
    exact ⟨ret_int HR.out.symm, btrans (balloc _ _) (balloc _ _)⟩
  obtain ⟨m, rfl⟩ : ∃ m : Nat, top = m := ⟨top.toNat, by omega⟩
  have HR : Hid (greatV (pTight l t) n m = (grN (pTight l t) m : Nat)) := by unfold Hid greatV; rw [if_pos (by omega)]; rfl
  have hmn : m ≤ 200 := by omega
  have b0 : Below w.heap.size w ((w.alloc (.cells #[.slice a n cap] 51)).alloc (.cells #[.func (.func 77) #[] #[.pointer (some ⟨bt, 0, none⟩)]] 87)) := btrans (balloc _ _) (balloc _ _)
  have G : Hid (GBTight w w.heap.size (w.heap.size + 1) bt n cap a l t ((w.alloc (.cells #[.slice a n cap] 51)).alloc (.cells #[.func (.func 77) #[] #[.pointer (some ⟨bt, 0, none⟩)]] 87))) :=
    ⟨b0, by simp, by simp, cell_keep cs b0, hv.below b0⟩
  have HN : Hid (l.length = n) := hn
  have HNo : Hid (a = none → n = 0 ∧ n = 0) := fun h => by subst h; have := (secs_none hv).2; exact ⟨this, this⟩
  clear hv hn b0 cs
  go_enter Tryz.func75, Tryz.ntmps75
  go_wp2_with (go_at_call 91; refine (search_any m w.heap.size (w.heap.size + 1) (pTight l t) _ (by omega) (pTight_falls _ _) (fun i wx hi gx => (stepTight_any i _ _ bt n cap a l t _ wx ((G.out.below gx).re gx) HN.out hcap n6 (by omega) HNo.out))).mono ?_; rintro e w3 ⟨rfl, g3⟩; have G3 : Hid (Below w.heap.size w w3) := btrans G.out.bel g3; clear g3)
  go_ret
  exact ⟨ret_int HR.out.symm, G3.out⟩
end Go.Proofs.YtakdliecjfeedaaGreatDoor
