/-
  The first primes, and the tables that come of their roots. Plain Lean, my own; the tables by the kernel.
-/
import Derived.Test.YtjgmmdgcknnlpaaDoorFrac
namespace Go.Proofs.YtjgmmdgcknnlpaaDoor
open Go

/-- The primes among 2, .., j + 1. -/
def pl : Nat → List Nat
  | 0 => []
  | j + 1 => if (pl j).all (fun o => (2 + j) % o != 0) then pl j ++ [2 + j] else pl j
def plA : Nat → Nat → List Nat → List Nat
  | 0, _, l => l
  | n + 1, j, l => plA n (j + 1) (bif l.all (fun o => (2 + j) % o != 0) then l ++ [2 + j] else l)
theorem plA_eq (n j : Nat) : plA n j (pl j) = pl (j + n) := by
  induction n generalizing j with
  | zero => rfl
  | succ n ih =>
    rw [plA, ← Nat.add_assoc, Nat.add_right_comm, ← ih (j + 1), pl]
    congr 1
    cases (pl j).all (fun o => (2 + j) % o != 0) <;> rfl
theorem pl_mono (j n : Nat) : (pl j).length ≤ (pl (j + n)).length := by
  induction n with
  | zero => simp
  | succ n ih =>
    rw [← Nat.add_assoc, pl]
    split
    · simp; omega
    · exact ih
theorem pl_mem (j o : Nat) (h : o ∈ pl j) : 2 ≤ o ∧ o < 2 + j := by
  induction j with
  | zero => simp [pl] at h
  | succ j ih =>
    rw [pl] at h
    split at h
    · rcases List.mem_append.1 h with h | h
      · have := ih h; omega
      · simp at h; omega
    · have := ih h; omega
def PS : List Nat := [2,3,5,7,11,13,17,19,23,29,31,37,41,43,47,53,59,61,67,71,73,79,83,89,97,101,103,107,109,113,127,131,137,139,149,151,157,163,167,173,179,181,191,193,197,199,211,223,227,229,233,239,241,251,257,263,269,271,277,281,283,293,307,311]
theorem pl_309 : (pl 309).length = 63 := by
  have h := plA_eq 309 0
  rw [Nat.zero_add] at h
  rw [← h]
  show (plA 309 0 []).length = 63
  decide +kernel
theorem pl_310 : pl 310 = PS := by
  have h := plA_eq 310 0
  rw [Nat.zero_add] at h
  rw [← h]
  show plA 310 0 [] = PS
  decide +kernel
theorem pl_lt (j : Nat) (h : j < 310) : (pl j).length < 64 := by
  have := pl_mono j (309 - j)
  rw [show j + (309 - j) = 309 by omega, pl_309] at this
  omega

def frA (p m : Nat) : Nat → Nat → Nat → Nat
  | 0, _, r => r
  | n + 1, k, r => frA p m n (k + 1) (bif Nat.ble ((r + 2 ^ (36 - k)) ^ m) (p * 4294967296 ^ m) then r + 2 ^ (36 - k) else r)
theorem frA_eq (p m n k : Nat) : frA p m n k (fr p m k) = fr p m (k + n) := by
  induction n generalizing k with
  | zero => rfl
  | succ n ih =>
    rw [frA, ← Nat.add_assoc, Nat.add_right_comm, ← ih (k + 1), fr]
    congr 1
    by_cases h : (fr p m k + 2 ^ (36 - k)) ^ m ≤ p * 4294967296 ^ m
    · rw [if_pos h, Nat.ble_eq_true_of_le h]; rfl
    · rw [if_neg h]
      have : Nat.ble ((fr p m k + 2 ^ (36 - k)) ^ m) (p * 4294967296 ^ m) = false := by
        cases hb : Nat.ble ((fr p m k + 2 ^ (36 - k)) ^ m) (p * 4294967296 ^ m) with
        | false => rfl
        | true => exact absurd (Nat.le_of_ble_eq_true hb) h
      rw [this]; rfl
theorem fr_A (p m : Nat) : fr p m 37 = frA p m 37 0 0 := by
  have h := frA_eq p m 37 0
  rw [Nat.zero_add] at h
  rw [← h]; rfl
theorem ks_ok : PS.map (fun p => frA p 3 37 0 0 % 4294967296) = KS.map BitVec.toNat := by decide +kernel
theorem h0_ok : (PS.take 8).map (fun p => frA p 2 37 0 0 % 4294967296) = H0.list.map BitVec.toNat := by decide +kernel
theorem ks_at (i : Nat) (h : i < 64) : fr (PS.getD i 0) 3 37 % 4294967296 = (KS.getD i 0).toNat := by
  have h1 : (PS.map (fun p => frA p 3 37 0 0 % 4294967296))[i]? = (KS.map BitVec.toNat)[i]? := by rw [ks_ok]
  have l1 : PS.length = 64 := rfl
  have l2 : KS.length = 64 := rfl
  rw [List.getElem?_map, List.getElem?_map, List.getElem?_eq_getElem (by omega), List.getElem?_eq_getElem (by omega)] at h1
  simp only [Option.map_some, Option.some.injEq] at h1
  rw [fr_A]
  simp [l1, l2, h, h1]
theorem h0_at (i : Nat) (h : i < 8) : fr (PS.getD i 0) 2 37 % 4294967296 = (H0.list.getD i 0).toNat := by
  have h1 : ((PS.take 8).map (fun p => frA p 2 37 0 0 % 4294967296))[i]? = (H0.list.map BitVec.toNat)[i]? := by rw [h0_ok]
  have l1 : PS.length = 64 := rfl
  have l2 : H0.list.length = 8 := rfl
  rw [List.getElem?_map, List.getElem?_map, List.getElem?_take, if_pos h, List.getElem?_eq_getElem (by omega), List.getElem?_eq_getElem (by omega)] at h1
  simp only [Option.map_some, Option.some.injEq] at h1
  rw [fr_A]
  simp [l1, l2, h, h1, show i < 64 by omega]
end Go.Proofs.YtjgmmdgcknnlpaaDoor
