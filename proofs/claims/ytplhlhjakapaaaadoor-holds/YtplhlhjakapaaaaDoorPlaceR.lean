/-
  rootsref's Place.
-/
import Derived.Test.YtplhlhjakapaaaaDoorKNode
namespace Go.Proofs.YtplhlhjakapaaaaDoor
open Go Go.RowKit

/-- A number of several bytes, the high one first. -/
def numL (l : List UInt8) : Nat := l.foldl (fun p b => p * 256 + b.toNat) 0
theorem numL_snoc (l : List UInt8) (x : UInt8) : numL (l ++ [x]) = numL l * 256 + x.toNat := by simp [numL]
theorem numL_acc : ∀ (l : List UInt8) (a : Nat), l.foldl (fun p b => p * 256 + b.toNat) a < (a + 1) * 256 ^ l.length
  | [], a => by simp
  | x :: l, a => by
    have h := numL_acc l (a * 256 + x.toNat)
    have hx := x.toNat_lt
    rw [List.foldl_cons, List.length_cons, Nat.pow_succ]
    refine Nat.lt_of_lt_of_le h ?_
    have h1 : (a * 256 + x.toNat + 1) * 256 ^ l.length ≤ ((a + 1) * 256) * 256 ^ l.length := Nat.mul_le_mul_right _ (by omega)
    rw [Nat.mul_assoc, Nat.mul_comm 256] at h1
    exact h1
theorem numL_lt (l : List UInt8) : numL l < 256 ^ l.length := by
  have := numL_acc l 0
  simpa [numL] using this

set_option maxHeartbeats 2000000 in
set_option maxRecDepth 100000 in
theorem rplace_any (l : List UInt8) (hl : l.length = 32) (w : World) :
    Calls Tryd.prog 50 #[.agg (l.map ub).toArray] w fun e w' => e = .returned (.int .u64 (numL (l.take 8) : Int)) ∧ w.grownBy w' none := by
  have HL : Hid _ := hl
  generalize eL : (l.map ub).toArray = L at *
  clear hl
  go_enter Tryd.func50, Tryd.ntmps50
  go_wp2
  have hB : (w.alloc (Obj.cells L 25)).heap[w.heap.size]? = some (.cells L 25 (0, 0)) := heap_alloc_new _ _
  have hG := gr_alloc w (Obj.cells L 25)
  go_loopw [3, 4] (fun t i wr => ∃ k : Nat, k ≤ 8 ∧ i = .int .i64 (k : Int) ∧ t = .int .u64 (numL (l.take k) : Int) ∧ wr.heap[w.heap.size]? = some (.cells L 25 (0, 0)) ∧ w.grownBy wr none)
    (fun _ i _ => 8 - (intOf i).toNat)
  case atStart => exact ⟨0, by omega, rfl, rfl, hB, hG⟩
  case round =>
    clear hB hG
    obtain ⟨k, hk, rfl, rfl, hB, hG⟩ := hrel
    by_cases hlt : k < 8
    · have d0 : (k : Int) < 8 := by omega
      have d32 : (k : Int) < 32 := by omega
      have hB' := hB
      rw [← eL] at hB'
      have c1 := byte_at hB' k (by rw [HL.out]; omega)
      have htk : numL (l.take (k + 1)) = numL (l.take k) * 256 + (l.getD k 0).toNat := by
        rw [take_snocB l k (by rw [HL.out]; omega), numL_snoc]
      have hnb : numL (l.take k) < 72057594037927936 := by
        have h1 := numL_lt (l.take k)
        have h2 : (l.take k).length ≤ 7 := by rw [List.length_take]; omega
        have h3 : 256 ^ (l.take k).length ≤ 256 ^ 7 := Nat.pow_le_pow_right (by omega) h2
        have h4 : (256 : Nat) ^ 7 = 72057594037927936 := by decide
        omega
      have hx1 : (l.getD k 0).toNat < 256 := (l.getD k 0).toNat_lt
      generalize l.getD k 0 = x at c1 hx1 htk
      generalize numL (l.take k) = p at hnb htk ⊢
      have HTK : Hid _ := htk
      clear htk hB'
      go_wp2
      exact ⟨⟨k + 1, by omega, by go_num, by rw [HTK.out]; go_num, hB, hG⟩, by simp [intOf]; omega⟩
    · obtain rfl : k = 8 := by omega
      have hge : decide (((8 : Nat) : Int) < 8) = false := by simp
      go_wp2
      go_ret
      exact ⟨rfl, hG⟩
end Go.Proofs.YtplhlhjakapaaaaDoor
