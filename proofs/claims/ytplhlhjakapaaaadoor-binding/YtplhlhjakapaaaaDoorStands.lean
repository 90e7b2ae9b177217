/-
  rootskeep's stands.
-/
import Derived.Test.YtplhlhjakapaaaaDoorHex
import Derived.Test.YtplhlhjakapaaaaDoorEqH
import Derived.Lib.SlBytesConst
namespace Go.Proofs.YtplhlhjakapaaaaDoor
open Go Go.RowKit

theorem hex_nil : hexL ((sha []).take 4) = [101, 51, 98, 48, 99, 52, 52, 50] := by decide +kernel
theorem hex_abc : hexL ((sha [97, 98, 99]).take 4) = [98, 97, 55, 56, 49, 54, 98, 102] := by decide +kernel

theorem sliceIs_row {W : World} {g : Nat} {bs : List UInt8} {fr : Nat × Nat} (h : W.heap[g]? = some (.cells (bs.map ub).toArray 5 fr)) : SliceIs W (.slice (some ⟨g, 0, none⟩) bs.length bs.length) bs := by
  refine ⟨_, _, rfl, Nat.le_refl _, fun _ => ⟨g, 0, rfl, (Array.getElem?_eq_some_iff.1 h).1, fun j hj => ?_⟩⟩
  rw [cell_of_row W _ _ _ _ _ h]; simp [hj]

set_option maxHeartbeats 2000000 in
set_option maxRecDepth 100000 in
theorem stands_any (w : World) (hw : 1 < w.heap.size) (hT : Tab w) :
    Calls Tryd.prog 35 #[] w fun e w' => e = .returned (.bool true) ∧ w.grownBy w' none := by
  have HT : Hid (Tab w) := hT
  clear hT
  go_enter Tryd.func35, Tryd.ntmps35
  go_wp2_with fail
  refine (hash_any [] (.slice none 0 0) w hw HT.out (by simp) ⟨none, 0, rfl, by simp, fun h => absurd h (by simp)⟩).mono ?_
  rintro e w1 ⟨rfl, hG1⟩
  go_wp2_with fail
  refine (hex_any (sha []) (length_sha _) w1).mono ?_
  rintro e w2 ⟨rfl, hG2⟩
  have hG02 := gr_trans hG1 hG2
  rw [hex_nil]
  clear hG1 hG2
  have hcv := Lib.run_convert_bytes_const (P := Tryd.prog) w2 27 5 #[Value.int IntKind.u8 97, Value.int IntKind.u8 98, Value.int IntKind.u8 99] 3 3 Tryd.underlying27 Tryd.underlying5
  go_wp2_with fail
  have hA := gr_alloc w2 (Obj.cells #[Value.int IntKind.u8 97, Value.int IntKind.u8 98, Value.int IntKind.u8 99] 5 (3, 4))
  have hR := heap_alloc_new w2 (Obj.cells #[Value.int IntKind.u8 97, Value.int IntKind.u8 98, Value.int IntKind.u8 99] 5 (3, 4))
  have hG03 := gr_trans hG02 hA
  have hS := sliceIs_row (bs := [97, 98, 99]) hR
  refine (hash_any [97, 98, 99] _ _ (by have := hG03.size; omega) (HT.out.gr hG03 hw) (by simp) hS).mono ?_
  rintro e w4 ⟨rfl, hG4⟩
  have hG04 := gr_trans hG03 hG4
  clear hG4 hS hA hG03 hR hG02
  go_wp2_with fail
  refine (hex_any (sha [97, 98, 99]) (length_sha _) w4).mono ?_
  rintro e w5 ⟨rfl, hG5⟩
  have hG05 := gr_trans hG04 hG5
  rw [hex_abc]
  clear hG5 hG04
  have e1 : ((mkS [101, 51, 98, 48, 99, 52, 52, 50]).toList == [101, 51, 98, 48, 99, 52, 52, 50]) = true := by decide +kernel
  have e2 : ((mkS [98, 97, 55, 56, 49, 54, 98, 102]).toList == [98, 97, 55, 56, 49, 54, 98, 102]) = true := by decide +kernel
  go_wp2
  go_ret
  exact ⟨rfl, hG05⟩
end Go.Proofs.YtplhlhjakapaaaaDoor
