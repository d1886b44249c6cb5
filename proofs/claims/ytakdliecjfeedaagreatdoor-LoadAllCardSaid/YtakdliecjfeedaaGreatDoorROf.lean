/- The contracts of load.Of and of the document's own Of. -/
import Derived.Test.YtakdliecjfeedaaGreatDoorLAll
import Derived.Test.YtakdliecjfeedaaGreatDoorRSec
namespace Go.Proofs.YtakdliecjfeedaaGreatDoor
open Go Go.RowKit

set_option maxHeartbeats 8000000 in
theorem lof_any (sy la mo : Int) (v : Value) (res : List Int) (a : Option Addr) (n cap : Nat) (l : List TV) (i : Nat) (c d t : Int) (a2 : Option Addr) (n2 k2 : Nat) (xm : List Sec) (kd : Int) (ap : Option Addr) (cp np : Nat) (m : List Pc) (N : Nat) (w : World)
    (hv : Ints w v res) (hr : res.length ≤ 1000000) (hc : cfgB ⟨N, sy, la, mo, res⟩ = true) (hl : Tks w (.slice a n cap) l) (hn : l.length = n) (hm : mayV res.length l = true) (hX : l[i]? = some ⟨c, d, t, .slice a2 n2 k2, xm⟩)
    (hp : Pcs w (.slice ap np cp) m) (hml : m.length ≤ 1000) (hon : onB N m = true) :
    Calls Tryz.prog 26 #[.agg #[.int .i64 N, .int .i64 sy, .int .i64 la, .int .i64 mo, v], .slice a n cap, .int .i64 i, .agg #[.int .i64 kd, .slice ap np cp]] w fun e w' => ∃ g, e = .returned (.slice (some ⟨g, 0, none⟩) N N) ∧ w.heap.size ≤ g ∧ Lay w (.slice (some ⟨g, 0, none⟩) N N) (layL ⟨c, d, t, .slice a2 n2 k2, xm⟩ (waitV la res l i) kd (List.replicate N []) m) w' := by
  obtain ⟨av, cv, rfl⟩ := hv.form
  obtain ⟨qr, hq⟩ : ∃ qr, res.length = qr := ⟨_, rfl⟩
  have HMS : Hid (∀ x ∈ l, x.m.length ≤ 1000000) := fun x hx => by have := (tv_secs (mayV_all hm x hx)).1; omega
  have h12 := mayV_len hm
  have hN6 : N ≤ 6 := by have := (cfgB_iff.1 hc).1; simp only at this; omega
  have n12 : n ≤ 12 := by omega
  have hin : i < n := by rw [← hn]; exact (List.getElem?_eq_some_iff.1 hX).1
  rw [hq] at hv ⊢
  have HB0 : Hid (Below w.heap.size w ((w.alloc (.cells #[.int .i64 N, .int .i64 sy, .int .i64 la, .int .i64 mo, .slice av qr cv] 24)).alloc (.cells #[.int .i64 kd, .slice ap np cp] 49))) := btrans (balloc _ _) (balloc _ _)
  have KW : Hid (Blk ((w.alloc (.cells #[.int .i64 N, .int .i64 sy, .int .i64 la, .int .i64 mo, .slice av qr cv] 24)).alloc (.cells #[.int .i64 kd, .slice ap np cp] 49)) w.heap.size #[.int .i64 N, .int .i64 sy, .int .i64 la, .int .i64 mo, .slice av qr cv] 24 ∧ Blk ((w.alloc (.cells #[.int .i64 N, .int .i64 sy, .int .i64 la, .int .i64 mo, .slice av qr cv] 24)).alloc (.cells #[.int .i64 kd, .slice ap np cp] 49)) (w.heap.size + 1) #[.int .i64 kd, .slice ap np cp] 49) := blk_twoC _ _ _ _ _
  have HV : Hid (Ints ((w.alloc (.cells #[.int .i64 N, .int .i64 sy, .int .i64 la, .int .i64 mo, .slice av qr cv] 24)).alloc (.cells #[.int .i64 kd, .slice ap np cp] 49)) (.slice av qr cv) res) := hv.below HB0.out
  have HL : Hid (Tks ((w.alloc (.cells #[.int .i64 N, .int .i64 sy, .int .i64 la, .int .i64 mo, .slice av qr cv] 24)).alloc (.cells #[.int .i64 kd, .slice ap np cp] 49)) (.slice a n cap) l) := hl.below HB0.out
  have HP : Hid (Pcs ((w.alloc (.cells #[.int .i64 N, .int .i64 sy, .int .i64 la, .int .i64 mo, .slice av qr cv] 24)).alloc (.cells #[.int .i64 kd, .slice ap np cp] 49)) (.slice ap np cp) m) := hp.below HB0.out
  have HC : Hid (cfgB ⟨N, sy, la, mo, res⟩ = true) := hc
  have HM : Hid (mayV res.length l = true) := hm
  have HN : Hid (l.length = n) := hn
  have HX : Hid (l[i]? = some ⟨c, d, t, .slice a2 n2 k2, xm⟩) := hX
  have HON : Hid (onB N m = true) := hon
  have HR : Hid (res.length ≤ 1000000) := hr
  have HML : Hid (m.length ≤ 1000) := hml
  have mk := mkR N (by omega)
  have k0 : ¬ (i : Int) < 0 := by omega
  have k1 : ¬ (n : Int) ≤ (i : Int) := by omega
  have k2' : ¬ n ≤ i := by omega
  clear hv hl hc hm hn hX hp hon hq hr hml
  go_enter Tryz.func26, Tryz.ntmps26
  go_wp2_with fail
  generalize hW : (w.alloc _).alloc _ = W at HB0 KW HV HL HP ⊢
  clear hW
  refine (lmay_any N sy la mo (.slice av qr cv) res a n cap l W HV.out HR.out HC.out HL.out HN.out (by omega) HMS.out).mono ?_
  rintro e w2 ⟨rfl, g2⟩
  rw [HM.out]
  have G2 : Hid (Below W.heap.size W w2) := g2
  have K2 := KW.out.1.below g2
  have K3 := KW.out.2.below g2
  have c0 := K2.cell 0
  have c1 := K2.cell 1
  have c2 := K2.cell 2
  have c3 := K2.cell 3
  have c4 := K2.cell 4
  simp at c0 c1 c2 c3 c4
  have p0 := K3.cell 0
  have p1 := K3.cell 1
  simp at p0 p1
  clear g2 K2 K3
  go_wp2_with fail
  refine (onc_any N sy la mo _ kd _ m _ (by have := HML.out; omega) (HP.out.below G2.out)).mono ?_
  rintro e w3 ⟨rfl, g3⟩
  rw [HON.out]
  have G3 : Hid (Below W.heap.size W w3) := btrans G2.out g3
  have K2 := KW.out.1.below G3.out
  have K3 := KW.out.2.below G3.out
  clear g3 G2 c0 c1 c2 c3 c4 p0 p1
  have c0 := K2.cell 0
  have c1 := K2.cell 1
  have c2 := K2.cell 2
  have c3 := K2.cell 3
  have c4 := K2.cell 4
  simp at c0 c1 c2 c3 c4
  have p0 := K3.cell 0
  have p1 := K3.cell 1
  simp at p0 p1
  have LM : Hid (Lay W (.slice (some ⟨w3.heap.size, 0, none⟩) N N) (List.replicate N []) (w3.alloc (.cells (Array.replicate N (.slice none 0 0)) 51))) := lay_made G3.out N (by omega)
  have sG := G3.out.size
  have sK2 := K2.lt
  have sK3 := K3.lt
  clear K2 K3
  go_wp2_with fail
  generalize hW3 : w3.alloc _ = W3 at LM ⊢
  generalize hg0 : w3.heap.size = g0 at LM sG ⊢
  clear hW3 mk c0 c1 c2 c3 c4 p0 p1
  refine (lay_any N sy la mo (.slice av qr cv) res a n cap l i c d t a2 n2 k2 xm kd (.slice ap np cp) m (some ⟨g0, 0, none⟩) N N _ 0 W W3 HV.out HR.out HC.out HL.out HN.out HM.out HX.out HP.out HML.out HON.out LM.out (by rw [List.length_replicate]) (fun r hr => by rw [List.eq_of_mem_replicate hr]; simp) (by omega)).mono ?_
  rintro e w6 ⟨rfl, l6⟩
  have L6 : Hid (Lay w (.slice (some ⟨g0, 0, none⟩) N N) (layL ⟨c, d, t, .slice a2 n2 k2, xm⟩ (waitV la res l i) kd (List.replicate N []) m) w6) := l6.mono HB0.out
  have hs0 := HB0.out.size
  clear l6
  go_wp2_with fail
  go_ret
  exact ⟨g0, rfl, by omega, L6.out⟩
end Go.Proofs.YtakdliecjfeedaaGreatDoor
