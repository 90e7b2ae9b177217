/-
  Numbers as digits to the base 2^32. Plain Lean, my own.
-/
import Derived.Laws.BitsAllLaws
namespace Go.Proofs.YtjgmmdgcknnlpaaDoor
open Go

def val : List Nat → Nat
  | [] => 0
  | d :: ds => d + 4294967296 * val ds
theorem val_set (V : List Nat) (i d : Nat) (h : i < V.length) : val (V.set i d) + V.getD i 0 * 4294967296 ^ i = val V + d * 4294967296 ^ i := by
  induction V generalizing i with
  | nil => simp at h
  | cons a l ih =>
    cases i with
    | zero => simp [val]; omega
    | succ i =>
      have := ih i (by simpa using h)
      simp only [List.set_cons_succ, val, List.getD_cons_succ, Nat.pow_succ]
      have e1 : l.getD i 0 * (4294967296 ^ i * 4294967296) = 4294967296 * (l.getD i 0 * 4294967296 ^ i) := by
        rw [Nat.mul_comm (4294967296 ^ i), ← Nat.mul_assoc, Nat.mul_comm (l.getD i 0), Nat.mul_assoc]
      have e2 : d * (4294967296 ^ i * 4294967296) = 4294967296 * (d * 4294967296 ^ i) := by
        rw [Nat.mul_comm (4294967296 ^ i), ← Nat.mul_assoc, Nat.mul_comm d, Nat.mul_assoc]
      rw [e1, e2]
      omega
theorem val_append (A C : List Nat) : val (A ++ C) = val A + 4294967296 ^ A.length * val C := by
  induction A with
  | nil => simp [val]
  | cons a l ih =>
    simp only [List.cons_append, val, ih, List.length_cons, Nat.pow_succ, Nat.mul_add]
    rw [← Nat.mul_assoc, Nat.mul_comm 4294967296 (4294967296 ^ l.length)]
    omega
theorem val_lt (V : List Nat) (h : ∀ d ∈ V, d < 4294967296) : val V < 4294967296 ^ V.length := by
  induction V with
  | nil => simp [val]
  | cons a l ih =>
    have h1 := h a (by simp)
    have h2 := ih (fun d hd => h d (by simp [hd]))
    simp only [val, List.length_cons, Nat.pow_succ]
    rw [Nat.mul_comm _ 4294967296]
    have : 4294967296 * (val l + 1) ≤ 4294967296 * 4294967296 ^ l.length := Nat.mul_le_mul_left _ h2
    omega
theorem val_zero (n : Nat) : val (List.replicate n 0) = 0 := by
  induction n with
  | zero => rfl
  | succ n ih => simp [List.replicate_succ, val, ih]

/-- A step of 'add'. -/
theorem add_step (V : List Nat) (i x : Nat) (hi : i < V.length) :
    val (V.set i ((V.getD i 0 + x % 4294967296) % 4294967296)) + (x / 4294967296 + (V.getD i 0 + x % 4294967296) / 4294967296) * 4294967296 ^ (i + 1) = val V + x * 4294967296 ^ i := by
  have h := val_set V i ((V.getD i 0 + x % 4294967296) % 4294967296) hi
  rw [Nat.pow_succ]
  generalize V.getD i 0 = a at *
  generalize 4294967296 ^ i = P at *
  generalize val (V.set i ((a + x % 4294967296) % 4294967296)) = X at *
  have key : (x / 4294967296 + (a + x % 4294967296) / 4294967296) * (P * 4294967296) + (a + x % 4294967296) % 4294967296 * P = x * P + a * P := by
    have e : x + a = (x / 4294967296 + (a + x % 4294967296) / 4294967296) * 4294967296 + (a + x % 4294967296) % 4294967296 := by omega
    rw [← Nat.add_mul x a P, e, Nat.add_mul _ _ P, Nat.mul_assoc _ 4294967296 P, Nat.mul_comm 4294967296 P]
  omega
theorem add_in (V : List Nat) (i x : Nat) (hx : 0 < x) (h : val V + x * 4294967296 ^ i < 4294967296 ^ V.length) : i < V.length := by
  rcases Nat.lt_or_ge i V.length with h1 | h1
  · exact h1
  · have : 4294967296 ^ V.length ≤ 4294967296 ^ i := Nat.pow_le_pow_right (by decide) h1
    have : 1 * 4294967296 ^ i ≤ x * 4294967296 ^ i := Nat.mul_le_mul_right _ hx
    omega
end Go.Proofs.YtjgmmdgcknnlpaaDoor
