/-
  What a hasher has taken in: the message, its full blocks mixed, the rest waiting. Plain Lean, my own.
-/
import Derived.Test.YtjgmmdgcknnlpaaDoorSha
import Derived.Laws.CopyOwn
namespace Go.Proofs.YtjgmmdgcknnlpaaDoor
open Go

/-- The first n blocks of a message, mixed. -/
def mixN (s : Eight) (M : List UInt8) : Nat → Eight
  | 0 => s
  | n + 1 => (mixN s M n).mix KS ((M.drop (64 * n)).take 64)
theorem mixN_append (s : Eight) (M X : List UInt8) (n : Nat) (h : 64 * n ≤ M.length) : mixN s (M ++ X) n = mixN s M n := by
  induction n with
  | zero => rfl
  | succ n ih =>
    rw [mixN, mixN, ih (by omega), List.drop_append_of_le_length (by omega), List.take_append_of_le_length (by simp; omega)]

/-- s, blk: what a hasher holds that has taken in M. -/
structure Rep (M : List UInt8) (s : Eight) (blk : List UInt8) : Prop where
  len : blk.length = 64
  state : s = mixN H0 M (M.length / 64)
  wait : blk.take (M.length % 64) = M.drop (64 * (M.length / 64))

theorem rep_new : Rep [] H0 (List.replicate 64 0) := ⟨by simp, rfl, rfl⟩

theorem splice_take (blk cs : List UInt8) (off : Nat) (h : off + cs.length ≤ blk.length) : (splice blk off cs).take (off + cs.length) = blk.take off ++ cs := by
  have h1 : (blk.take off).length = off := by simp; omega
  rw [splice, List.take_append, h1, List.take_of_length_le (by omega), show off + cs.length - off = cs.length by omega, List.take_left']
  rfl

theorem Rep.chunk {M : List UInt8} {s : Eight} {blk : List UInt8} (h : Rep M s blk) (cs : List UInt8) (hc : M.length % 64 + cs.length < 64) :
    Rep (M ++ cs) s (splice blk (M.length % 64) cs) := by
  have hd : (M.length + cs.length) / 64 = M.length / 64 := by omega
  have hm : (M.length + cs.length) % 64 = M.length % 64 + cs.length := by omega
  refine ⟨?_, ?_, ?_⟩
  · rw [length_splice _ _ _ (by rw [h.len]; omega), h.len]
  · rw [List.length_append, hd, mixN_append _ _ _ _ (by omega)]; exact h.state
  · rw [List.length_append, hd, hm, splice_take _ _ _ (by rw [h.len]; omega), h.wait, List.drop_append_of_le_length (by omega)]

theorem Rep.full {M : List UInt8} {s : Eight} {blk : List UInt8} (h : Rep M s blk) (cs : List UInt8) (hc : M.length % 64 + cs.length = 64) :
    Rep (M ++ cs) (s.mix KS (splice blk (M.length % 64) cs)) (splice blk (M.length % 64) cs) := by
  have hl : (splice blk (M.length % 64) cs).length = 64 := by rw [length_splice _ _ _ (by rw [h.len]; omega), h.len]
  have hd : (M.length + cs.length) / 64 = M.length / 64 + 1 := by omega
  have hm : (M.length + cs.length) % 64 = 0 := by omega
  have ht := splice_take blk cs (M.length % 64) (by rw [h.len]; omega)
  rw [hc, List.take_of_length_le (by omega), h.wait] at ht
  refine ⟨hl, ?_, ?_⟩
  · rw [List.length_append, hd, mixN, mixN_append _ _ _ _ (by omega), ← h.state, List.drop_append_of_le_length (by omega), ← ht, List.take_of_length_le (by omega)]
  · rw [List.length_append, hm, hd, List.take_zero, List.drop_of_length_le (by simp; omega)]
end Go.Proofs.YtjgmmdgcknnlpaaDoor
