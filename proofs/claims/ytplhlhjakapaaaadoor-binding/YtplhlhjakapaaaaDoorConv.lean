/-
  Small laws: bytes of a text, numbers of 64 bits, how long texts of a list are.
-/
import Derived.Test.YtplhlhjakapaaaaDoorPick
import Derived.Test.YtplhlhjakapaaaaDoorLeaf
import Derived.Deep.DeepCutAuto
import Derived.Shelf.Small.Bits
import Derived.Lib.ItoaNum
namespace Go.Proofs.YtplhlhjakapaaaaDoor
open Go Go.RowKit

theorem bulk_mem {l : List (List UInt8)} (h : bulkL l ≤ 16384) : l.length ≤ 16384 ∧ ∀ s ∈ l, s.length ≤ 16384 := by
  unfold bulkL at h
  refine ⟨by omega, fun s hs => ?_⟩
  have h2 : ∀ (l : List (List UInt8)), s ∈ l → s.length ≤ (l.map List.length).sum := by
    intro l
    induction l with
    | nil => intro h; simp at h
    | cons x l ih =>
      intro h
      rw [List.map_cons, List.sum_cons]
      rcases List.mem_cons.1 h with rfl | h
      · omega
      · have := ih h; omega
  have := h2 l hs
  omega

def In64 (i : Int) : Prop := -9223372036854775808 ≤ i ∧ i < 9223372036854775808


def Lt63 (m : Int) : Prop := m < 9223372036854775808

theorem conv_slice (W : World) (sl : List UInt8) : ∃ c V, (convert 9 27 (.string (mkS sl))).run Tryd.prog W = .ok (.slice (some ⟨W.heap.size, 0, none⟩) sl.length c) V ∧ W.grownBy V none ∧ SliceIs V (.slice (some ⟨W.heap.size, 0, none⟩) sl.length c) sl := by
  have h := run_bytes_of_string (P := Tryd.prog) W 9 27 5 (mkS sl) Tryd.underlying9 Tryd.underlying27 Tryd.underlying5
  rw [size_mkS] at h
  refine ⟨_, _, h, gr_trans (gr_drew (gr_refl W)) (gr_alloc W.drew _), some ⟨W.heap.size, 0, none⟩, _, rfl, grownCap_ge _ _ _ _, fun _ => ⟨W.heap.size, 0, rfl, (Array.getElem?_eq_some_iff.1 (heap_alloc_new W.drew _)).1, fun j hj => ?_⟩⟩
  have hrow : (W.drew.alloc (Obj.cells (bytesRow (mkS sl) (grownCap W sl.length 0 5)) 5 ((bytesRow (mkS sl) (grownCap W sl.length 0 5)).size, (bytesRow (mkS sl) (grownCap W sl.length 0 5)).size + 1))).heap[W.heap.size]? = some (Obj.cells (bytesRow (mkS sl) (grownCap W sl.length 0 5)) 5 ((bytesRow (mkS sl) (grownCap W sl.length 0 5)).size, (bytesRow (mkS sl) (grownCap W sl.length 0 5)).size + 1)) := heap_alloc_new W.drew _
  rw [cell_of_row _ _ _ _ _ _ hrow, Nat.zero_add, bytesRow]
  have hj' : j < (mkS sl).data.size := by show j < sl.toArray.size; simpa using hj
  rw [Array.getElem?_append_left (by simpa using hj')]
  simp [mkS, hj]
end Go.Proofs.YtplhlhjakapaaaaDoor
