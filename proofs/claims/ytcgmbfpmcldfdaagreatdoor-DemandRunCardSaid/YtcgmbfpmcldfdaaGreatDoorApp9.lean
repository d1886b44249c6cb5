/- The laws' own copy with a load more. -/
import Derived.Test.YtcgmbfpmcldfdaaGreatDoorArgs9J
import Derived.Test.YtcgmbfpmcldfdaaGreatDoorBMath5
import Derived.BigFrame
namespace Go.Proofs.YtcgmbfpmcldfdaaGreatDoor
open Go Go.RowKit

theorem lloads_new (a : Option Addr) (n cap base : Nat) (l : List Sec) (w : World) (h : Cop9 w base a n cap l) (n10 : n ≤ 10) :
    Calls Tryz.prog 6 #[.slice a n cap] w fun e w' => ∃ b c, e = .returned (.slice b n c) ∧ Cop9 w' w.heap.size b n c l ∧ Below w.heap.size w w' := by
  refine (lloads_any a n cap l w h.news).mono ?_
  rintro e w' ⟨u, rfl, ou, g⟩
  rw [List.take_of_length_le (by rw [h.len]; exact n10)] at ou
  obtain ⟨b, c, rfl, k⟩ := Cop9.of ou
  have e := h.len
  subst e
  exact ⟨b, c, rfl, k, g⟩
/-- append on a slice of one's own, at an operation whose guard says yes. -/
theorem wpList_append_want {P : Program} (w : World) {ops : Array Oper} {rest : List Oper} {o : Oper} {a : Act} {Q : Exit → Act → World → Prop} (hgd : Region.wanted o (yielded ops a.tmps) = true) (s x : Operand) (t : TypeId)
    (ho : o.op = .call { callee := .builtin .append, args := #[s, x], argTypes := #[t, t] })
    (base : Nat) (e : TypeId) (i : TypeInfo) (z : Value) (size bytes : Nat) (ht : P.underlying t = some (.slice e)) (hi : P.info? e = some i) (hz : i.zero = some z)
    (hsize : i.size = size) (hby : i.bytes = bytes) (hzs : z.cells.size = size) (hsz : 0 < size)
    (v : Value) (n : Nat) (xs : List Value) (hs : a.eval s = v) (hown : w.ownsRow base e size v n xs)
    (ad : Addr) (m c : Nat) (news : List Value) (hx : a.eval x = .slice (some ad) m c) (hl : news.length = m * size) (hnews : ∀ j u, news[j]? = some u → w.cell? (ad.add j) = some u) (h1 : ∀ u ∈ news, u.oneCell' = true)
    (h63 : n + m ≤ maxLen) (hbytes : (n + m) * bytes ≤ 140737488355328) (hbase : base ≤ w.heap.size)
    (h : ∀ v' w', w'.ownsRow base e size v' (n + m) (xs ++ news) → w.grownBy w' v.ownBlock → (v' = .slice none 0 0 ↔ v = .slice none 0 0 ∧ m = 0) → (v'.ownBlock = v.ownBlock ∨ v'.ownBlock = some w.heap.size) → wpList P ops Q rest (a.put o.dst v') w') :
    wpList P ops Q (o :: rest) a w := by
  refine BigFrame.wpList_want hgd fun K hK => ?_
  obtain ⟨v', w', hr, h2, h3, h4, h5⟩ := run_append_own_at (P := P) w base t o.type e i z size bytes ht hi hz hsize hby hzs hsz v n xs hown ad m c news hl hnews h1 h63 hbytes hbase
  unfold Oper.wp execOp
  simp only [ho, resolve, invoke, builtin, Sem.run_bind, Sem.run_pure, Result.andThen_ok, List.map_toArray, List.map_cons, List.map_nil, hs, hx, hr]
  exact hK _ _ (h v' w' h2 h3 h4 h5)
theorem OwnL.row {w : World} {base n : Nat} {u : Value} {l : List Sec} (h : OwnL w base u l) (hn : l.length = n) : w.ownsRow base 29 3 u n (secC l) := by
  subst hn; exact h
theorem app_end {vp W w' : World} {o : Obj} {b : Option Addr} {n c : Nat} {l : List Sec} {x : Sec} {v' : Value} (D : Cop9 W vp.heap.size b n c l) (g : Below vp.heap.size vp W)
    (own' : w'.ownsRow vp.heap.size 29 3 v' (n + 1) (secC l ++ secC [x])) (gr : (W.alloc o).grownBy w' (Value.slice b n c).ownBlock) :
    ∃ a' cap', v' = .slice a' (n + 1) cap' ∧ Cop9 w' vp.heap.size a' (n + 1) cap' (l ++ [x]) ∧ Below vp.heap.size vp w' := by
  have ou : OwnL w' vp.heap.size v' (l ++ [x]) := by
    unfold OwnL
    rw [secC_append, List.length_append, D.len]
    exact own'
  obtain ⟨a', cap', rfl, k⟩ := Cop9.of ou
  rw [show (l ++ [x]).length = n + 1 by rw [List.length_append, D.len]; rfl] at k ⊢
  refine ⟨a', cap', rfl, k, ?_⟩
  have s1 := g.size
  exact (g.trans ((balloc W o).mono s1)).trans (gr_bel gr (fun k hk => (D.own.lt k hk).1) (by simp; omega))
end Go.Proofs.YtcgmbfpmcldfdaaGreatDoor
