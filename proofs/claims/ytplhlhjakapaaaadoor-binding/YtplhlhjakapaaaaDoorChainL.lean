/-
  rootskeep's chain: the texts, as lists.
-/
import Derived.Test.YtplhlhjakapaaaaDoorIncl2
namespace Go.Proofs.YtplhlhjakapaaaaDoor
open Go Go.RowKit

/-- The texts that are hashed on the way, from the root on (a path's last hash first). -/
def chainL : List (List UInt8) → Nat → Nat → List UInt8 → List (List UInt8)
  | [], _, _, leaf => [0 :: leaf]
  | s :: rest, i, n, leaf => if n = 1 then [0 :: leaf] else
    if i < spl n then nodeL 1 (sha ((chainL rest i (spl n) leaf).headD [])) s :: chainL rest i (spl n) leaf
    else nodeL 1 s (sha ((chainL rest (i - spl n) (n - spl n) leaf).headD [])) :: chainL rest (i - spl n) (n - spl n) leaf

theorem chainL_ne (rs : List (List UInt8)) (i n : Nat) (leaf : List UInt8) : chainL rs i n leaf ≠ [] := by
  cases rs with
  | nil => simp [chainL]
  | cons s rest =>
    unfold chainL
    split
    · simp
    · split <;> simp

theorem chainL_len (rs : List (List UInt8)) : ∀ (i n : Nat) (leaf : List UInt8), (chainL rs i n leaf).length ≤ rs.length + 1 := by
  induction rs with
  | nil => intro i n leaf; simp [chainL]
  | cons s rest ih =>
    intro i n leaf
    unfold chainL
    split
    · simp
    · split
      · have := ih i (spl n) leaf; simp; omega
      · have := ih (i - spl n) (n - spl n) leaf; simp; omega

theorem chainL_short (rs : List (List UInt8)) (hs : ∀ s ∈ rs, s.length = 32) : ∀ (i n : Nat) (leaf t : List UInt8), t ∈ chainL rs i n leaf → t.length ≤ leaf.length + 65 := by
  induction rs with
  | nil => intro i n leaf t ht; simp [chainL] at ht; subst ht; simp
  | cons s rest ih =>
    intro i n leaf t ht
    have h0 := hs s (by simp)
    have ih' := ih (fun x hx => hs x (by simp [hx]))
    unfold chainL at ht
    split at ht
    · simp at ht; subst ht; simp
    · split at ht
      · rcases List.mem_cons.1 ht with rfl | h
        · simp [nodeL, length_sha, h0]
        · exact ih' _ _ _ _ h
      · rcases List.mem_cons.1 ht with rfl | h
        · simp [nodeL, length_sha, h0]
        · exact ih' _ _ _ _ h

theorem upR_chain (rs : List (List UInt8)) : ∀ (i n : Nat) (leaf t : List UInt8), upR rs i n (sha (0 :: leaf)) = some t → t = sha ((chainL rs i n leaf).headD []) := by
  induction rs with
  | nil =>
    intro i n leaf t h
    unfold upR at h
    split at h
    · simpa [chainL] using (Option.some.inj h).symm
    · cases h
  | cons s rest ih =>
    intro i n leaf t h
    unfold upR at h
    unfold chainL
    split at h
    · cases h
    · rename_i h1
      rw [if_neg h1]
      split at h
      · rename_i h2
        rw [if_pos h2]
        obtain ⟨u, hu, rfl⟩ := Option.map_eq_some_iff.1 h
        rw [ih _ _ _ _ hu]; rfl
      · rename_i h2
        rw [if_neg h2]
        obtain ⟨u, hu, rfl⟩ := Option.map_eq_some_iff.1 h
        rw [ih _ _ _ _ hu]; rfl

theorem nodeL_inj {k : UInt8} {l r l' r' : List UInt8} (hl : l.length = 32) (hl' : l'.length = 32) (h : nodeL k l r = nodeL k l' r') : l = l' ∧ r = r' := by
  unfold nodeL at h
  have h := (List.cons.inj h).2
  exact List.append_inj h (by rw [hl, hl'])

/-- Where two chains of one root part first: two texts with one hash. -/
theorem chains_part (rs : List (List UInt8)) : ∀ (rs' : List (List UInt8)) (i n : Nat) (x y t : List UInt8), (∀ s ∈ rs, s.length = 32) → (∀ s ∈ rs', s.length = 32) →
    upR rs i n (sha (0 :: x)) = some t → upR rs' i n (sha (0 :: y)) = some t → x ≠ y →
    ∃ k, k < (chainL rs i n x).length ∧ k < (chainL rs' i n y).length ∧ (∀ j, j < k → (chainL rs i n x).getD j [] = (chainL rs' i n y).getD j []) ∧ (chainL rs i n x).getD k [] ≠ (chainL rs' i n y).getD k [] ∧ sha ((chainL rs i n x).getD k []) = sha ((chainL rs' i n y).getD k []) := by
  induction rs with
  | nil =>
    intro rs' i n x y t _ _ h h' hne
    unfold upR at h
    split at h
    · rename_i h1
      cases rs' with
      | nil =>
        have e := (upR_chain [] i n x t (by unfold upR; rw [if_pos h1]; exact h)).symm.trans (upR_chain [] i n y t h')
        exact ⟨0, by simp [chainL], by simp [chainL], fun j hj => by omega, by simpa [chainL] using hne, by simpa [chainL] using e⟩
      | cons s' rest' => unfold upR at h'; rw [if_pos h1] at h'; cases h'
    · cases h
  | cons s rest ih =>
    intro rs' i n x y t hs hs' h h' hne
    have e := (upR_chain _ i n x t h).symm.trans (upR_chain _ i n y t h')
    cases rs' with
    | nil =>
      unfold upR at h h'
      split at h
      · cases h
      · rename_i h1; rw [if_neg h1] at h'; cases h'
    | cons s' rest' =>
      have ih' := fun i n t => ih rest' i n x y t (fun z hz => hs z (by simp [hz])) (fun z hz => hs' z (by simp [hz]))
      unfold upR at h h'
      unfold chainL at e ⊢
      split at h
      · cases h
      · rename_i h1
        rw [if_neg h1] at h'
        simp only [if_neg h1] at e ⊢
        split at h
        · rename_i h2
          simp only [if_pos h2] at h' e ⊢
          obtain ⟨u, hu, _⟩ := Option.map_eq_some_iff.1 h
          obtain ⟨u', hu', _⟩ := Option.map_eq_some_iff.1 h'
          have eu := upR_chain _ _ _ _ _ hu
          have eu' := upR_chain _ _ _ _ _ hu'
          by_cases hh : nodeL 1 (sha ((chainL rest i (spl n) x).headD [])) s = nodeL 1 (sha ((chainL rest' i (spl n) y).headD [])) s'
          · have hx := (nodeL_inj (length_sha _) (length_sha _) hh).1
            rw [← eu, ← eu'] at hx
            subst hx
            obtain ⟨k, k1, k2, k3, k4, k5⟩ := ih' i (spl n) u hu hu' hne
            refine ⟨k + 1, by simpa using k1, by simpa using k2, fun j hj => ?_, by simpa using k4, by simpa using k5⟩
            cases j with
            | zero => simpa using hh
            | succ j => simpa using k3 j (by omega)
          · exact ⟨0, by simp, by simp, fun j hj => by omega, by simpa using hh, by simpa using e⟩
        · rename_i h2
          simp only [if_neg h2] at h' e ⊢
          obtain ⟨u, hu, _⟩ := Option.map_eq_some_iff.1 h
          obtain ⟨u', hu', _⟩ := Option.map_eq_some_iff.1 h'
          have eu := upR_chain _ _ _ _ _ hu
          have eu' := upR_chain _ _ _ _ _ hu'
          by_cases hh : nodeL 1 s (sha ((chainL rest (i - spl n) (n - spl n) x).headD [])) = nodeL 1 s' (sha ((chainL rest' (i - spl n) (n - spl n) y).headD []))
          · have hx := (nodeL_inj (hs s (by simp) |>.trans rfl) (hs' s' (by simp)) hh).2
            rw [← eu, ← eu'] at hx
            subst hx
            obtain ⟨k, k1, k2, k3, k4, k5⟩ := ih' (i - spl n) (n - spl n) u hu hu' hne
            refine ⟨k + 1, by simpa using k1, by simpa using k2, fun j hj => ?_, by simpa using k4, by simpa using k5⟩
            cases j with
            | zero => simpa using hh
            | succ j => simpa using k3 j (by omega)
          · exact ⟨0, by simp, by simp, fun j hj => by omega, by simpa using hh, by simpa using e⟩
end Go.Proofs.YtplhlhjakapaaaaDoor
