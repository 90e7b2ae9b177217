/-
  The words of a block, one by one; a word out of four bytes. Plain Lean, my own.
-/
import Derived.Test.YtplhlhjakapaaaaDoorDigA
namespace Go.Proofs.YtplhlhjakapaaaaDoor
open Go

theorem growW_take (l : List (BitVec 32)) (n m : Nat) (h : m ≤ n) : (growW l n).take (l.length + m) = growW l m := by
  induction n with
  | zero =>
    obtain rfl : m = 0 := by omega
    simp [growW]
  | succ n ih =>
    rcases Nat.lt_or_ge m (n + 1) with h1 | h1
    · rw [growW, List.take_append_of_le_length (by rw [length_growW]; omega)]
      exact ih (by omega)
    · obtain rfl : m = n + 1 := by omega
      exact List.take_of_length_le (by rw [length_growW]; omega)
theorem headW_take (blk : List UInt8) (n m : Nat) (h : m ≤ n) : (headW blk n).take m = headW blk m := by
  induction n with
  | zero =>
    obtain rfl : m = 0 := by omega
    rfl
  | succ n ih =>
    rcases Nat.lt_or_ge m (n + 1) with h1 | h1
    · rw [headW, List.take_append_of_le_length (by rw [length_headW]; omega)]
      exact ih (by omega)
    · obtain rfl : m = n + 1 := by omega
      exact List.take_of_length_le (by rw [length_headW]; omega)
/-- The first k words. -/
def wTo (blk : List UInt8) (k : Nat) : List (BitVec 32) := (allW blk).take k
theorem length_wTo (blk : List UInt8) (k : Nat) (h : k ≤ 64) : (wTo blk k).length = k := by rw [wTo, List.length_take, length_allW]; omega
theorem wTo_all (blk : List UInt8) : wTo blk 64 = allW blk := by rw [wTo]; exact List.take_of_length_le (by rw [length_allW]; omega)
theorem wTo_low (blk : List UInt8) (k : Nat) (h : k < 16) : wTo blk (k + 1) = wTo blk k ++ [wordOf (blk.getD (4 * k) 0) (blk.getD (4 * k + 1) 0) (blk.getD (4 * k + 2) 0) (blk.getD (4 * k + 3) 0)] := by
  have e : ∀ m, m ≤ 16 → wTo blk m = headW blk m := fun m hm => by
    have h1 := growW_take (headW blk 16) 48 0 (by omega)
    rw [length_headW] at h1
    have h2 : ∀ L : List (BitVec 32), L.take m = (L.take (16 + 0)).take m := fun L => by rw [List.take_take, Nat.min_eq_left (by omega)]
    rw [wTo, allW, h2 (growW (headW blk 16) 48), h1, growW, headW_take _ _ _ hm]
  rw [e _ (by omega), e _ (by omega), headW]
theorem wTo_high (blk : List UInt8) (k : Nat) (h : 16 ≤ k) (h2 : k < 64) : wTo blk (k + 1) = wTo blk k ++ [nextW (wTo blk k)] := by
  have e : ∀ m, 16 ≤ m → m ≤ 64 → wTo blk m = growW (headW blk 16) (m - 16) := fun m hm hm2 => by
    have h1 := growW_take (headW blk 16) 48 (m - 16) (by omega)
    rw [length_headW, show 16 + (m - 16) = m by omega] at h1
    exact h1
  rw [e _ (by omega) (by omega), e _ h (by omega), show k + 1 - 16 = (k - 16) + 1 by omega, growW]

/-- A word while its bytes come in. -/
def partW (blk : List UInt8) (k : Nat) : Nat → BitVec 32
  | 0 => 0
  | j + 1 => (partW blk k j <<< 8) ||| BitVec.ofNat 32 (blk.getD (4 * k + j) 0).toNat
theorem partW_four (blk : List UInt8) (k : Nat) : partW blk k 4 = wordOf (blk.getD (4 * k) 0) (blk.getD (4 * k + 1) 0) (blk.getD (4 * k + 2) 0) (blk.getD (4 * k + 3) 0) := by
  simp only [partW, wordOf, BitVec.shiftLeft_or_distrib, Nat.add_zero]
  simp only [← BitVec.shiftLeft_add]
  simp
end Go.Proofs.YtplhlhjakapaaaaDoor
