/-
  rootsref's leaf and Taken.
-/
import Derived.Test.YtplhlhjakapaaaaDoorKNode
import Derived.Test.YtplhlhjakapaaaaDoorNode
namespace Go.Proofs.YtplhlhjakapaaaaDoor
open Go Go.RowKit

set_option maxHeartbeats 2000000 in
set_option maxRecDepth 100000 in
theorem rleaf_any (H : Nat) (k v : List UInt8) (pl : Int) (w : World) (hH : RefAt w H) (hHs : H < w.heap.size) (hk : k.length < 999999999) (hv : v.length < 999999999) :
    Calls Tryd.prog 73 #[.pointer (some ⟨H, 0, none⟩), .agg #[.int .u64 pl, .string (mkS k), .string (mkS v)]] w fun e w' => e = .returned (.agg ((sha (nodeL 2 (sha k) (sha v))).map ub).toArray) ∧ w.grownBy w' none := by
  have HH : Hid (RefAt w H) := hH
  clear hH
  go_enter Tryd.func73, Tryd.ntmps73
  go_wp2_with fail
  have hA := gr_trans (gr_alloc w (Obj.cells #[Value.int IntKind.u64 pl, Value.string (mkS k), Value.string (mkS v)] 112)) (gr_alloc _ (Obj.cells (brow 32 []).toArray 25))
  have hE0 : ((w.alloc (Obj.cells #[Value.int IntKind.u64 pl, Value.string (mkS k), Value.string (mkS v)] 112)).alloc (Obj.cells (brow 32 []).toArray 25)).heap[w.heap.size]? = some (.cells #[Value.int IntKind.u64 pl, Value.string (mkS k), Value.string (mkS v)] 112 (0, 0)) := heap_alloc2_old _ _ _
  have hR0 : ((w.alloc (Obj.cells #[Value.int IntKind.u64 pl, Value.string (mkS k), Value.string (mkS v)] 112)).alloc (Obj.cells (brow 32 []).toArray 25)).heap[w.heap.size + 1]? = some (.cells (brow 32 []).toArray 25 (0, 0)) := heap_alloc2_new _ _ _
  change Calls Tryd.prog 16 _ ((w.alloc (Obj.cells #[Value.int IntKind.u64 pl, Value.string (mkS k), Value.string (mkS v)] 112)).alloc (Obj.cells (brow 32 []).toArray 25)) _
  generalize (w.alloc (Obj.cells #[Value.int IntKind.u64 pl, Value.string (mkS k), Value.string (mkS v)] 112)).alloc (Obj.cells (brow 32 []).toArray 25) = W0 at hA hE0 hR0 ⊢
  refine (of_any H k W0 (RefAt.gr HH.out hHs hA) (by have := hA.size; omega) (by omega)).mono ?_
  rintro e w1 ⟨rfl, hG1⟩
  have hal := length_sha k
  generalize ea : sha k = a at hal ⊢
  have HEa : Hid (sha k = a) := ea
  clear ea
  obtain ⟨HI, HO, HN⟩ := sum25 a hal
  have hG01 := gr_trans hA hG1
  have hE1 := (hG1.block _ (Array.getElem?_eq_some_iff.1 hE0).1 (by simp)).trans hE0
  have hR1 := (hG1.block _ (Array.getElem?_eq_some_iff.1 hR0).1 (by simp)).trans hR0
  clear hA hE0 hR0 hG1
  go_wp2_with (first | (refine store_new rfl 25 _ _ rfl (a.map ub).toArray _ _ rfl rfl HI.out HO.out HN.out ?_; intro W2 hW2 hs2 hG2; clear hs2; have hE2 := (hG2.block _ (Array.getElem?_eq_some_iff.1 hE1).1 (by simp)).trans hE1; have c2 : W2.cell? ⟨w.heap.size, 2, none⟩ = some (.string (mkS v)) := by (rw [cell_of_row W2 _ _ _ _ _ hE2]; rfl)))
  have hG02 := gr_trans hG01 hG2
  have hR2 := (hG2.block _ (Array.getElem?_eq_some_iff.1 hR1).1 (by simp)).trans hR1
  refine (of_any H v W2 (RefAt.gr HH.out hHs hG02) (by have := hG02.size; omega) (by omega)).mono ?_
  rintro e w3 ⟨rfl, hG3⟩
  have hbl := length_sha v
  generalize eb : sha v = b at hbl ⊢
  have HEb : Hid (sha v = b) := eb
  clear eb
  obtain ⟨HIb, HOb, HNb⟩ := sum25 b hbl
  have hG03 := gr_trans hG02 hG3
  have hR3 := (hG3.block _ (Array.getElem?_eq_some_iff.1 hR2).1 (by simp)).trans hR2
  have hA3 := (hG3.block _ (Array.getElem?_eq_some_iff.1 hW2).1 (by simp)).trans hW2
  clear hE1 hR1 hG01 hG2 hE2 c2 hG02 hR2 hG3 hW2
  go_wp2_with (first | (refine wpList_load_row rfl 25 _ rfl w1.heap.size rfl 25 _ (0, 0) _ hA4 Tryd.underlying25 rfl HI.out ?_) | (refine wpList_load_row rfl 25 _ rfl w3.heap.size rfl 25 _ (0, 0) _ hW4 Tryd.underlying25 rfl HIb.out ?_) | (refine store_new rfl 25 _ _ rfl (b.map ub).toArray _ _ rfl rfl HIb.out HOb.out HNb.out ?_; intro W4 hW4 hs4 hG4; clear hs4; have hA4 := (hG4.block _ (Array.getElem?_eq_some_iff.1 hA3).1 (by simp)).trans hA3))
  have hG04 := gr_trans hG03 hG4
  have hR4 := (hG4.block _ (Array.getElem?_eq_some_iff.1 hR3).1 (by simp)).trans hR3
  refine (node_any H 2 a b hal hbl W4 (RefAt.gr HH.out hHs hG04) (by have := hG04.size; omega)).mono ?_
  rintro e w5 ⟨rfl, hG5⟩
  have hcl := length_sha (nodeL 2 a b)
  generalize ec : sha (nodeL 2 a b) = c at hcl ⊢
  have HEc : Hid (sha (nodeL 2 a b) = c) := ec
  clear ec
  obtain ⟨HIc, HOc, HNc⟩ := sum25 c hcl
  have hG05 := gr_trans hG04 hG5
  have hR5 := (hG5.block _ (Array.getElem?_eq_some_iff.1 hR4).1 (by simp)).trans hR4
  clear hG03 hR3 hA3 hG4 hA4 hW4 hG04 hR4 hG5
  go_wp2_with (refine wpList_store_row rfl 25 _ _ rfl (w.heap.size + 1) (c.map ub).toArray rfl rfl 25 _ hR5 HIc.out HOc.out HNc.out ?_)
  exact bodyPost_ret (results_cell_row Tryd.results73 _ _ (w.heap.size + 1) 25 _ (0, 0) _ rfl (setRow_heap _ _ _ _ 25 _ hR5) Tryd.underlying25 rfl HIc.out) rfl ⟨by rw [HEa.out, HEb.out, HEc.out], gr_row hG05 _ _ (by omega)⟩
end Go.Proofs.YtplhlhjakapaaaaDoor
