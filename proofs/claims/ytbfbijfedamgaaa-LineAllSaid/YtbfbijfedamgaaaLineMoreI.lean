/- More about the line at int: its blocks, and what is due of two things. -/
import Derived.Test.YtbfbijfedamgaaaLineDueI
import Derived.Test.YtbfbijfedamgaaaMany
namespace Go.Proofs.Ytbfbijfedamgaaa.LI
open Go.RowKit
variable {w w' : World} {lb hb : Nat} {room puts : Int} {hv av hv' av' : Value} {A A' : List (Nat × Int)} {Z : List (Ent (Nat × Int))}

theorem keeps (w w' : World) (S : List Nat) (h : Lines w lb hb room puts hv av A Z) (g : Only S w w') (hS : ∀ k ∈ footL lb hb hv av A, k ∉ S) : Lines w' lb hb room puts hv av A Z := h.only g hS
theorem foot_put {t n : Nat} {x : Int} (f : ∀ k ∈ foot hb hv', k ∈ foot hb hv ∨ n ≤ k) (f' : ∀ k ∈ foot lb av', k ∈ foot lb av ∨ n ≤ k) (ht : n ≤ t) : ∀ k ∈ footL lb hb hv' av' (A ++ [(t, x)]), k ∈ footL lb hb hv av A ∨ n ≤ k := by
  intro k hk
  simp only [footL, List.mem_append, List.map_append, List.map_cons, List.map_nil, List.mem_singleton] at hk ⊢
  rcases hk with (hk | hk) | (hk | hk)
  · rcases f' k hk with q | q
    · exact .inl (.inl (.inl q))
    · exact .inr q
  · rcases f k hk with q | q
    · exact .inl (.inl (.inr q))
    · exact .inr q
  · exact .inl (.inr hk)
  · subst hk; exact .inr ht
theorem foot_same (f : foot hb hv' = foot hb hv) (f' : foot lb av' = foot lb av) (hA : ∀ p ∈ A', p ∈ A) : ∀ k ∈ footL lb hb hv' av' A', k ∈ footL lb hb hv av A := by
  intro k hk
  unfold footL at hk ⊢
  rw [f, f'] at hk
  simp only [List.mem_append, List.mem_map] at hk ⊢
  rcases hk with hk | ⟨p, hp, rfl⟩
  · exact .inl hk
  · exact .inr ⟨p, hA p hp, rfl⟩
theorem foot_in : ∀ k ∈ foot hb hv, k ∈ footL lb hb hv av A := by
  intro k hk
  simp only [footL, List.mem_append]
  exact .inl (.inr hk)

theorem pops_later {now : Int} {Z Z' : List (Ent (Nat × Int))} {gs : List Int} (h : Pops now Z gs Z') (hl : ∀ z ∈ Z, now < z.a) : gs = [] ∧ Z' = Z := by
  induction h with
  | nil => exact ⟨rfl, rfl⟩
  | snoc h hz _ hn ih =>
    obtain ⟨_, rfl⟩ := ih
    have := hl _ hz
    omega
theorem pops_two {now : Int} {z1 z2 : Ent (Nat × Int)} {Z' : List (Ent (Nat × Int))} {gs : List Int} (h : Pops now [z1, z2] gs Z') (hend : ∀ z ∈ Z', IsFirst (Z'.map lo) (lo z) → now < z.a) (h12 : Lt (lo z1) (lo z2)) (hne : z1.v ≠ z2.v) (h1 : z1.a ≤ now) (h2 : z2.a ≤ now) : gs = [z1.v.2, z2.v.2] ∧ Z' = [] := by
  have inv : (gs = [] ∧ Z' = [z1, z2]) ∨ (gs = [z1.v.2] ∧ Z' = [z2]) ∨ (gs = [z1.v.2, z2.v.2] ∧ Z' = []) := by
    clear hend
    induction h with
    | nil => exact .inl ⟨rfl, rfl⟩
    | snoc h hz hf hn ih =>
      rcases ih with ⟨rfl, rfl⟩ | ⟨rfl, rfl⟩ | ⟨rfl, rfl⟩
      · simp only [List.mem_cons, List.not_mem_nil, or_false] at hz
        rcases hz with rfl | rfl
        · refine .inr (.inl ⟨rfl, ?_⟩)
          have : z2.v ≠ _ := fun e => hne e.symm
          simp [less, this]
        · have := hf.2 (lo z1) (by simp)
          exact absurd h12 this
      · simp only [List.mem_cons, List.not_mem_nil, or_false] at hz
        subst hz
        exact .inr (.inr ⟨rfl, by simp [less]⟩)
      · simp at hz
  rcases inv with ⟨rfl, rfl⟩ | ⟨rfl, rfl⟩ | h
  · have := hend z1 (by simp) ⟨by simp, fun y hy => by
      simp only [List.map_cons, List.map_nil, List.mem_cons, List.not_mem_nil, or_false] at hy
      rcases hy with rfl | rfl
      · exact Le.refl _
      · exact h12.le⟩
    omega
  · have := hend z2 (by simp) ⟨by simp, fun y hy => by simp at hy; subst hy; exact Le.refl _⟩
    omega
  · exact h
end Go.Proofs.Ytbfbijfedamgaaa.LI
