/-
  places.place: the place of a key's hash.
-/
import Derived.Test.YtplhlhjakapaaaaDoorPlaceR
import Derived.Laws.Bits64b
namespace Go.Proofs.YtplhlhjakapaaaaDoor
open Go Go.RowKit

theorem or_byte (p x : Nat) (hp : p < 72057594037927936) (hx : x < 256) : bits BinOp.or IntKind.u64 ((p : Int) * 256) (x : Int) = ((p * 256 + x : Nat) : Int) := by
  rw [show (p : Int) * 256 = ((p * 256 : Nat) : Int) by omega, bits_or_u64_nat _ _ (by omega) (by omega)]
  have := Nat.shiftLeft_add_eq_or_of_lt (i := 8) (b := x) (by simpa using hx) p
  rw [Nat.shiftLeft_eq, show (2 : Nat) ^ 8 = 256 from rfl] at this
  rw [← this]

set_option maxHeartbeats 2000000 in
set_option maxRecDepth 100000 in
theorem place_any (l : List UInt8) (hl : l.length = 32) (w : World) :
    Calls Tryd.prog 100 #[.agg (l.map ub).toArray] w fun e w' => e = .returned (.int .u64 (numL (l.take 8) : Int)) ∧ w.grownBy w' none := by
  have HL : Hid _ := hl
  generalize eL : (l.map ub).toArray = L at *
  clear hl
  go_enter Tryd.func100, Tryd.ntmps100
  go_wp2
  have hB : (w.alloc (Obj.cells L 25)).heap[w.heap.size]? = some (.cells L 25 (0, 0)) := heap_alloc_new _ _
  have hG := gr_alloc w (Obj.cells L 25)
  go_loopw [3, 8] (fun t i wr => ∃ k : Nat, k ≤ 8 ∧ i = .int .i64 (k : Int) ∧ t = .int .u64 (numL (l.take k) : Int) ∧ wr.heap[w.heap.size]? = some (.cells L 25 (0, 0)) ∧ w.grownBy wr none)
    (fun _ i _ => 8 - (intOf i).toNat)
  case atStart => exact ⟨0, by omega, rfl, rfl, hB, hG⟩
  case round =>
    clear hB hG
    obtain ⟨k, hk, rfl, rfl, hB, hG⟩ := hrel
    by_cases hlt : k < 8
    · have d0 : (k : Int) < 8 := by omega
      have hB' := hB
      rw [← eL] at hB'
      have c1 := byte_at hB' k (by rw [HL.out]; omega)
      have htk : numL (l.take (k + 1)) = numL (l.take k) * 256 + (l.getD k 0).toNat := by
        rw [take_snocB l k (by rw [HL.out]; omega), numL_snoc]
      have hnb : numL (l.take k) < 72057594037927936 := by
        have h1 := numL_lt (l.take k)
        have h2 : (l.take k).length ≤ 7 := by rw [List.length_take]; omega
        have h3 : 256 ^ (l.take k).length ≤ 256 ^ 7 := Nat.pow_le_pow_right (by omega) h2
        have h4 : (256 : Nat) ^ 7 = 72057594037927936 := by decide
        omega
      have hx1 : (l.getD k 0).toNat < 256 := (l.getD k 0).toNat_lt
      generalize l.getD k 0 = x at c1 hx1 htk
      generalize numL (l.take k) = p at hnb htk ⊢
      have HTK : Hid _ := htk
      have eO := or_byte p x.toNat hnb hx1
      clear htk hB'
      go_wp2
      exact ⟨⟨k + 1, by omega, by go_num, by rw [HTK.out]; go_num, hB, hG⟩, by simp [intOf]; omega⟩
    · obtain rfl : k = 8 := by omega
      have hge : decide (((8 : Nat) : Int) < 8) = false := by simp
      go_wp2
      go_ret
      exact ⟨rfl, hG⟩
end Go.Proofs.YtplhlhjakapaaaaDoor
