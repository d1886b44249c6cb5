/- Slices of loads of the program's own making: appended to, handed on. -/
import Derived.Test.YtakdliecjfeedaaGreatDoorROver
import Derived.Test.YtakdliecjfeedaaGreatDoorOwn
import Derived.Deep.RegionLaw
import Derived.Deep.AppendLies
import Derived.Deep.DrawnRows
namespace Go.Proofs.YtakdliecjfeedaaGreatDoor
open Go Go.RowKit

/-- append at a step of a region that draws; it may append nothing. -/
theorem step_append_at {P : Program} (w : World) {ops : Array Oper} {o : Oper} {a : Act} {K : Act → World → Prop} {Q : Exit → Act → World → Prop} {E : Prop} (hgd : o.guard = none) (s x : Operand) (t : TypeId)
    (ho : o.op = .call { callee := .builtin .append, args := #[s, x], argTypes := #[t, t] })
    (base : Nat) (e : TypeId) (i : TypeInfo) (z : Value) (size bytes : Nat) (ht : P.underlying t = some (.slice e)) (hi : P.info? e = some i) (hz : i.zero = some z)
    (hsize : i.size = size) (hby : i.bytes = bytes) (hzs : z.cells.size = size) (hsz : 0 < size)
    (v : Value) (n : Nat) (xs : List Value) (hs : a.eval s = v) (hown : w.ownsRow base e size v n xs)
    (ad : Addr) (m c : Nat) (news : List Value) (hx : a.eval x = .slice (some ad) m c) (hl : news.length = m * size) (hnews : ∀ j u, news[j]? = some u → w.cell? (ad.add j) = some u) (h1 : ∀ u ∈ news, u.oneCell' = true)
    (h63 : n + m ≤ maxLen) (hbytes : (n + m) * bytes ≤ 140737488355328) (hbase : base ≤ w.heap.size)
    (h : ∀ v' w', w'.ownsRow base e size v' (n + m) (xs ++ news) → w.grownBy w' v.ownBlock → (v'.ownBlock = v.ownBlock ∨ v'.ownBlock = some w.heap.size) → K (a.put o.dst v') w') :
    if Region.wanted o (yielded ops a.tmps) = true then Oper.wp P o a w K Q else E := by
  have hw : Region.wanted o (yielded ops a.tmps) = true := by simp [Region.wanted, hgd]
  rw [if_pos hw]
  obtain ⟨v', w', hr, h2, h3, _, h5⟩ := run_append_own_at (P := P) w base t o.type e i z size bytes ht hi hz hsize hby hzs hsz v n xs hown ad m c news hl hnews h1 h63 hbytes hbase
  unfold Oper.wp execOp
  simp only [ho, resolve, invoke, builtin, Sem.run_bind, Sem.run_pure, Result.andThen_ok, List.map_toArray, List.map_cons, List.map_nil, hs, hx, hr]
  exact h v' w' h2 h3 h5
theorem infoL : (Tryz.prog.info? 55).map (fun i => (i.zero, i.size, i.bytes)) = some (some (.agg #[.int .i64 0, .int .i64 0, .int .i64 0]), 3, 24) := by kernel_rfl
variable {w w' : World}
/-- What an append leaves of what is elder than B. -/
theorem gr_bel {a b : World} {row : Option Nat} {B : Nat} (gr : a.grownBy b row) (hr : ∀ k, row = some k → B ≤ k) (hB : B ≤ a.heap.size) : Below B a b :=
  ⟨gr.os, gr.tape, gr.output, gr.size, fun k hk => gr.block k (by omega) (fun e => by have := hr k e.symm; omega)⟩
theorem cell_keep {w w' : World} {p : Addr} {v : Value} (h : w.cell? p = some v) (g : Below w.heap.size w w') : w'.cell? p = some v := by
  have hb : p.block < w.heap.size := by
    cases e : w.heap[p.block]? with
    | none => simp [World.cell?, e] at h
    | some o => exact (Array.getElem?_eq_some_iff.1 e).1
  exact (g.cell hb).trans h
/-- The cells behind an address. -/
def News (w : World) (ad : Addr) (l : List Sec) : Prop := ∀ j u, (secC l)[j]? = some u → w.cell? (ad.add j) = some u
theorem News.below {ad : Addr} {l : List Sec} (h : News w ad l) (g : Below w.heap.size w w') : News w' ad l := fun j u hu => cell_keep (h j u hu) g
theorem addr_add (g o j : Nat) : (⟨g, o, none⟩ : Addr).add j = ⟨g, o + j, none⟩ := by unfold Addr.add; split <;> simp_all
theorem secC_idx {l : List Sec} {q : Nat} {u : Value} (hq : (secC l)[q]? = some u) : ∃ i s, l[i]? = some s ∧ ((q = i * 3 ∧ u = .int .i64 s.res) ∨ (q = i * 3 + 1 ∧ u = .int .i64 s.pos) ∨ (q = i * 3 + 2 ∧ u = .int .i64 s.len)) := by
  have hql := (List.getElem?_eq_some_iff.1 hq).1
  rw [secC_length] at hql
  obtain ⟨i, hi, e⟩ : ∃ i, i < l.length ∧ (q = i * 3 ∨ q = i * 3 + 1 ∨ q = i * 3 + 2) := ⟨q / 3, by omega, by omega⟩
  obtain ⟨s, hs⟩ : ∃ s, l[i]? = some s := ⟨_, List.getElem?_eq_getElem hi⟩
  obtain ⟨a0, a1, a2⟩ := secC_get hs
  refine ⟨i, s, hs, ?_⟩
  rcases e with rfl | rfl | rfl
  · rw [a0] at hq; exact .inl ⟨rfl, (Option.some.inj hq).symm⟩
  · rw [a1] at hq; exact .inr (.inl ⟨rfl, (Option.some.inj hq).symm⟩)
  · rw [a2] at hq; exact .inr (.inr ⟨rfl, (Option.some.inj hq).symm⟩)
theorem secs_news {ad : Addr} {n cap : Nat} {l : List Sec} (h : Secs w (.slice (some ad) n cap) l) : News w ad l := by
  intro q u hq
  obtain ⟨i, s, hs, e⟩ := secC_idx hq
  obtain ⟨b, eb, _, x1, x2, x3⟩ := secs_at h hs
  simp only [Option.some.injEq] at eb
  subst eb
  rw [addr_add, Nat.zero_add]
  rcases e with ⟨rfl, rfl⟩ | ⟨rfl, rfl⟩ | ⟨rfl, rfl⟩
  · exact x1
  · exact x2
  · exact x3
theorem secs_none {n cap : Nat} {l : List Sec} (h : Secs w (.slice none n cap) l) : l = [] ∧ n = 0 := by
  rcases h with ⟨e, a, c, e'⟩ | ⟨b, c, e, _⟩
  · simp only [Value.slice.injEq] at e'; exact ⟨e, e'.2.1⟩
  · simp at e
theorem secC_append (l m : List Sec) : secC (l ++ m) = secC l ++ secC m := by simp [secC]
theorem secC_one1 (c d t : Int) : secC [⟨c, d, t⟩] = [.int .i64 c, .int .i64 d, .int .i64 t] := rfl
theorem news_one (w : World) (c d t : Int) (T : TypeId) : ∀ j u, (secC [⟨c, d, t⟩])[j]? = some u → (w.alloc (.cells #[.int .i64 c, .int .i64 d, .int .i64 t] T)).cell? ((⟨w.heap.size, 0, none⟩ : Addr).add j) = some u := cell_three w _ _ _ T
/-- A slice of loads of one's own. -/
def OwnL (w : World) (base : Nat) (u : Value) (l : List Sec) : Prop := w.ownsRow base 55 3 u l.length (secC l)
theorem OwnL.secs {base : Nat} {u : Value} {l : List Sec} (h : OwnL w base u l) : Secs w u l := own_secs h
theorem OwnL.below {base : Nat} {u : Value} {l : List Sec} (h : OwnL w base u l) (g : Below w.heap.size w w') : OwnL w' base u l := own_below h g
theorem OwnL.mono {base base' : Nat} {u : Value} {l : List Sec} (h : OwnL w base u l) (hb : base' ≤ base) : OwnL w base' u l := by
  obtain ⟨h1, h2⟩ := h
  refine ⟨h1, ?_⟩
  rcases h2 with h2 | ⟨g, cap, cur, rfl, hb', r⟩
  · exact .inl h2
  · exact .inr ⟨g, cap, cur, rfl, by omega, r⟩
theorem OwnL.form {base : Nat} {u : Value} {l : List Sec} (h : OwnL w base u l) : ∃ a cap, u = .slice a l.length cap := own_form h
end Go.Proofs.YtakdliecjfeedaaGreatDoor
