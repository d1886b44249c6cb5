/- A slice of the walk's own that may have lost its head: it begins somewhere in its block. -/
import Derived.Test.YtbfbijfedamgaaaLists
import Derived.ArgAppend
namespace Go.Proofs.Ytbfbijfedamgaaa
open Go.RowKit
def Tail (w : World) (base : Nat) (e : TypeId) (v : Value) (xs : List Value) : Prop :=
  (v = .slice none 0 0 ∧ xs = []) ∨ ∃ g f cap cur, v = .slice (some ⟨g, f, none⟩) xs.length cap ∧ base ≤ g ∧ w.heap[g]? = some (.cells cur e (0, 0)) ∧ xs.length ≤ cap ∧ cap ≤ maxLen ∧ f + cap ≤ cur.size ∧ (cur.toList.drop f).take xs.length = xs
theorem Tail.nil (w : World) (base : Nat) (e : TypeId) : Tail w base e (.slice none 0 0) [] := .inl ⟨rfl, rfl⟩
theorem Tail.slice {w : World} {base : Nat} {e : TypeId} {v : Value} {xs : List Value} (h : Tail w base e v xs) : ∃ a cap, v = .slice a xs.length cap := by
  rcases h with ⟨rfl, rfl⟩ | ⟨g, f, cap, cur, rfl, _⟩
  · exact ⟨_, _, rfl⟩
  · exact ⟨_, _, rfl⟩
theorem Tail.lt {w : World} {base : Nat} {e : TypeId} {v : Value} {xs : List Value} (h : Tail w base e v xs) : ∀ k ∈ v.ownBlock.toList, base ≤ k ∧ k < w.heap.size := by
  rcases h with ⟨rfl, rfl⟩ | ⟨g, f, cap, cur, rfl, hb, hg, _⟩
  · intro k hk; simp [Value.ownBlock] at hk
  · intro k hk
    simp [Value.ownBlock] at hk
    subst hk
    exact ⟨hb, (Array.getElem?_eq_some_iff.1 hg).1⟩
theorem Tail.keeps {base : Nat} {e : TypeId} {v : Value} {xs : List Value} : Stays v.ownBlock.toList (fun u => Tail u base e v xs) := by
  intro w w' S h o hS
  rcases h with h | ⟨g, f, cap, cur, rfl, hb, hg, r⟩
  · exact .inl h
  · exact .inr ⟨g, f, cap, cur, rfl, hb, by rw [o.block g (Array.getElem?_eq_some_iff.1 hg).1 (hS g (by simp [Value.ownBlock]))]; exact hg, r⟩
theorem Tail.below {w w' : World} {base : Nat} {e : TypeId} {v : Value} {xs : List Value} (h : Tail w base e v xs) (g : Below w.heap.size w w') : Tail w' base e v xs := Tail.keeps w w' [] h (Below.only g []) (by simp)
/-- The things that are there, each in its cell. -/
theorem Tail.head {w : World} {base : Nat} {e : TypeId} {v : Value} {x : Value} {xs : List Value} (h : Tail w base e v (x :: xs)) : ∃ g f cap, v = .slice (some ⟨g, f, none⟩) (xs.length + 1) cap ∧ xs.length + 1 ≤ cap ∧ cap ≤ maxLen ∧ (∀ (j : Nat) (u : Value), (x :: xs)[j]? = some u → w.cell? ⟨g, f + j, none⟩ = some u) ∧ w.cell? ⟨g, f, none⟩ = some x ∧ Tail w base e (.slice (some ⟨g, f + 1, none⟩) xs.length (cap - 1)) xs := by
  rcases h with ⟨_, h⟩ | ⟨g, f, cap, cur, rfl, hb, hg, hl, hm, hs, ht⟩
  · simp at h
  · have cells : ∀ (j : Nat) (u : Value), (x :: xs)[j]? = some u → w.cell? ⟨g, f + j, none⟩ = some u := by
      intro j u hu
      rw [cell_of_row w g (f + j) cur e (0, 0) hg]
      rw [← ht, List.getElem?_take] at hu
      split at hu
      · simpa using hu
      · cases hu
    refine ⟨g, f, cap, rfl, hl, hm, cells, cells 0 x rfl, .inr ⟨g, f + 1, cap - 1, cur, rfl, hb, hg, by simp at hl; omega, by omega, by simp at hl; omega, ?_⟩⟩
    have h2 := congrArg (List.drop 1) ht
    rw [List.length_cons, List.drop_take, List.drop_drop] at h2
    simpa [Nat.add_comm] using h2
theorem Tail.only_some {w : World} {base : Nat} {e : TypeId} {v : Value} {xs : List Value} (h : Tail w base e v xs) {j : Nat} {u : Value} (hu : xs[j]? = some u) : ∃ g f cap, v = .slice (some ⟨g, f, none⟩) xs.length cap ∧ xs.length ≤ cap ∧ cap ≤ maxLen ∧ w.cell? ⟨g, f + j, none⟩ = some u := by
  cases xs with
  | nil => simp at hu
  | cons x xs =>
    obtain ⟨g, f, cap, hv, h1, h2, h3, _⟩ := h.head
    exact ⟨g, f, cap, hv, h1, h2, h3 j u hu⟩
theorem Tail.cellAt {w : World} {base g f n cap j : Nat} {e : TypeId} {xs : List Value} {u : Value} (h : Tail w base e (.slice (some ⟨g, f, none⟩) n cap) xs) (hu : xs[j]? = some u) : w.cell? ⟨g, f + j, none⟩ = some u := by
  obtain ⟨g', f', cap', hv, _, _, hc⟩ := h.only_some hu
  simp only [Value.slice.injEq, Option.some.injEq, Addr.mk.injEq, and_true] at hv
  obtain ⟨⟨rfl, rfl⟩, _, _⟩ := hv
  exact hc
theorem Tail.tl {w : World} {base g f n cap : Nat} {e : TypeId} {xs : List Value} {x : Value} (h : Tail w base e (.slice (some ⟨g, f, none⟩) n cap) (x :: xs)) : Tail w base e (.slice (some ⟨g, f + 1, none⟩) xs.length (cap - 1)) xs := by
  obtain ⟨g', f', cap', hv, _, _, _, _, ht⟩ := h.head
  simp only [Value.slice.injEq, Option.some.injEq, Addr.mk.injEq, and_true] at hv
  obtain ⟨⟨rfl, rfl⟩, _, rfl⟩ := hv
  exact ht
theorem Tail.none {w : World} {base g f n cap : Nat} {e : TypeId} {xs : List Value} (h : Tail w base e (.slice (some ⟨g, f, none⟩) n cap) xs) : Tail w base e (.slice (some ⟨g, f, none⟩) 0 0) [] := by
  rcases h with ⟨h, _⟩ | ⟨g', f', cap', cur, hv, hb, hg, hl, hm, hs, ht⟩
  · simp at h
  · simp only [Value.slice.injEq, Option.some.injEq, Addr.mk.injEq, and_true] at hv
    obtain ⟨⟨rfl, rfl⟩, _, rfl⟩ := hv
    exact .inr ⟨g, f, 0, cur, rfl, hb, hg, by simp, by omega, by omega, by simp⟩
theorem infoInt : (Try.prog.info? 3).map (fun i => (i.zero, i.size, i.bytes)) = some (some (.int .i64 0), 1, 8) := by kernel_rfl
theorem cell_lone (w : World) (x : Value) (t : TypeId) : ∀ (j : Nat) (q : Value), [x][j]? = some q → (w.alloc (.cells #[x] t)).cell? ((⟨w.heap.size, 0, none⟩ : Addr).add j) = some q := cell_one_new w x t
theorem few_tail {W w w' : World} {base : Nat} {e : TypeId} {v v' : Value} {xs xs' : List Value} {l : List Thing} (m : Few W l w) (i : Nat) (hi : l[i]? = some (v.ownBlock.toList, fun u => Tail u base e v xs)) (h : Tail w' base e v' xs') (g : w.grownBy w' v.ownBlock) (f : ∀ k ∈ v'.ownBlock.toList, k ∈ v.ownBlock.toList ∨ w.heap.size ≤ k) : Few W (l.set i (v'.ownBlock.toList, fun u => Tail u base e v' xs')) w' := by
  have e1 : (l.getD i nothing).1 = v.ownBlock.toList := by simp [List.getD, hi]
  refine m.turn i (List.getElem?_eq_some_iff.1 hi).1 ?_ h (fun k hk => (h.lt k hk).2) (by rw [e1]; exact f) Tail.keeps
  rw [e1]
  exact (Only.refl _ w).grown g (fun k hk => .inl (by simp [hk]))
/-- It loses its head; its blocks stay. -/
theorem few_head {W w : World} {base : Nat} {e : TypeId} {v v' : Value} {xs xs' : List Value} {l : List Thing} (m : Few W l w) (i : Nat) (hi : l[i]? = some (v.ownBlock.toList, fun u => Tail u base e v xs)) (h : Tail w base e v' xs') (f : v'.ownBlock = v.ownBlock) : Few W (l.set i (v'.ownBlock.toList, fun u => Tail u base e v' xs')) w := by
  have e1 : (l.getD i nothing).1 = v.ownBlock.toList := by simp [List.getD, hi]
  exact m.turn i (List.getElem?_eq_some_iff.1 hi).1 (Only.refl _ w) h (fun k hk => (h.lt k hk).2) (by rw [e1, f]; exact fun k hk => .inl hk) Tail.keeps
/-- One thing is laid behind. -/
theorem wpList_append_tail {P : Program} (w : World) {ops : Array Oper} {rest : List Oper} {o : Oper} {a : Act} {Q : Exit → Act → World → Prop}
    (hg : o.guard = none) (s x : Operand) (t : TypeId) (hop : o.op = Op.call { callee := Callee.builtin Builtin.append, args := #[s, x], argTypes := #[t, t] })
    (base : Nat) (e : TypeId) (i : TypeInfo) (z : Value) (bytes : Nat) (h1 : P.underlying t = some (.slice e)) (h2 : P.info? e = some i) (h3 : i.zero = some z) (h4 : i.size = 1) (h5 : i.bytes = bytes) (h6 : z.cells.size = 1)
    (v : Value) (xs : List Value) (hs : a.eval s = v) (hown : Tail w base e v xs)
    (ad : Addr) (c : Nat) (y : Value) (hx : a.eval x = .slice (some ad) 1 c) (hc : ∀ j u, [y][j]? = some u → w.cell? (ad.add j) = some u) (h1c : y.oneCell' = true)
    (b1 : xs.length + 1 ≤ maxLen) (b2 : (xs.length + 1) * bytes ≤ 140737488355328) (hb : base ≤ w.heap.size)
    (hK : ∀ v' w', Tail w' base e v' (xs ++ [y]) → w.grownBy w' v.ownBlock → (∀ k ∈ v'.ownBlock.toList, k ∈ v.ownBlock.toList ∨ w.heap.size ≤ k) → wpList P ops Q rest (a.put o.dst v') w') :
    wpList P ops Q (o :: rest) a w := by
  have done : ∀ v' w', w'.ownsRow w.heap.size e 1 v' (xs.length + 1) (xs ++ [y]) → w.grownBy w' none → wpList P ops Q rest (a.put o.dst v') w' := by
    intro v' w' own gr
    refine hK v' w' ?_ ⟨gr.os, gr.tape, gr.output, gr.size, fun k hk _ => gr.block k hk (by simp)⟩ ?_
    · rcases own.2 with ⟨_, h⟩ | ⟨g, cap, cur, rfl, hbg, hgg, hn, hm, hcs, ht⟩
      · omega
      · exact .inr ⟨g, 0, cap, cur, by simp, by omega, hgg, by simpa using hn, hm, by simp at hcs; omega, by simpa using ht⟩
    · intro k hk
      exact .inr (own.lt k (by simpa using hk)).1
  rcases hown with ⟨rfl, rfl⟩ | ⟨g, f, cap, cur, rfl, hbg, hgg, hl, hm, hsz, ht⟩
  · exact wpList_append_grows w hg s x t hop e i z 1 bytes h1 h2 h3 h4 h5 h6 (by omega) none 0 0 [] hs (fun _ => ⟨rfl, rfl⟩) rfl (fun b h => by simp at h) ad 1 c [y] hx rfl hc (by intro u hu; simp at hu; subst hu; exact h1c) (by omega) (by simpa using b1) (by simpa using b2) (fun v' w' own gr => done v' w' own gr)
  · have cells : ∀ (j : Nat) (u : Value), xs[j]? = some u → w.cell? ⟨g, f + j, none⟩ = some u := by
      intro j u hu
      rw [cell_of_row w g (f + j) cur e (0, 0) hgg]
      rw [← ht, List.getElem?_take] at hu
      split at hu
      · simpa using hu
      · cases hu
    refine wpList_append_arg w hg s x t hop e i z 1 bytes h1 h2 h3 h4 h5 h6 (by omega) g f xs.length cap xs hs (by simp) cells ad 1 c [y] hx rfl hc (by intro u hu; simp at hu; subst hu; exact h1c) ?_ b1 b2 ?_ (fun _ v' w' own gr => done v' w' own gr)
    · intro hr j hj
      simp at hj
      subst hj
      refine ⟨?_, by simp [World.frozen?, hgg]⟩
      rw [cell_of_row w g _ cur e (0, 0) hgg]
      rw [Array.getElem?_eq_getElem (by omega)]
      rfl
    · intro hr
      refine hK _ _ ?_ ?_ (fun k hk => .inl hk)
      · refine .inr ⟨g, f, cap, cur.set! (f + xs.length) y, by simp, hbg, ?_, by simpa using hr, hm, by simpa using hsz, ?_⟩
        · have := heap_setCell_same w g (f + xs.length) cur e y hgg
          simpa [World.setCells] using this
        · have hlt : f + xs.length < cur.size := by omega
          rw [Array.set!_eq_setIfInBounds, Array.toList_setIfInBounds, List.length_append]
          have e1 : (cur.toList.set (f + xs.length) y).drop f = (cur.toList.drop f).set xs.length y := by
            rw [List.drop_set, if_neg (by omega), Nat.add_sub_cancel_left]
          have hl2 : xs.length < (cur.toList.drop f).length := by simp; omega
          rw [e1, List.length_singleton, List.take_succ_eq_append_getElem (by simpa using hl2)]
          rw [List.getElem_set_self, List.take_set_of_le (Nat.le_refl _), ht]
      · refine ⟨rfl, rfl, rfl, by simp [World.setCells, World.setCell], fun k hk hne => ?_⟩
        simp only [World.setCells]
        exact Below.heap_setCell _ _ _ _ (fun e => hne (by rw [e]; rfl))
end Go.Proofs.Ytbfbijfedamgaaa
