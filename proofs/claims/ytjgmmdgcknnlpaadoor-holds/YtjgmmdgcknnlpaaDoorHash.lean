/-
  roots.Hash's contract.
-/
import Derived.Test.YtjgmmdgcknnlpaaDoorEq
namespace Go.Proofs.YtjgmmdgcknnlpaaDoor
open Go Go.RowKit

theorem SliceIs.gr {a b : World} {v : Value} {bs : List UInt8} (h : SliceIs a v bs) (hG : a.grownBy b none) : SliceIs b v bs := by
  obtain ⟨sp, cap, rfl, hc, hsp⟩ := h
  refine ⟨sp, cap, rfl, hc, fun h0 => ?_⟩
  obtain ⟨sb, so, h1, h2, h3⟩ := hsp h0
  exact ⟨sb, so, h1, Nat.lt_of_lt_of_le h2 hG.size, fun j hj => (gr_cell hG (p := ⟨sb, so + j, none⟩) h2).trans (h3 j hj)⟩

set_option maxHeartbeats 2000000 in
set_option maxRecDepth 100000 in
theorem hash_any (bs : List UInt8) (v : Value) (w : World) (hw : 1 < w.heap.size) (hT : Tab w) (hlen : bs.length < 1152921504606846000) (hv : SliceIs w v bs) :
    Calls Tryd.prog 15 #[v] w fun e w' => e = .returned (.agg ((sha bs).map ub).toArray) ∧ w.grownBy w' none := by
  have HT : Hid (Tab w) := hT
  have HV : Hid (SliceIs w v bs) := hv
  clear hT hv
  go_enter Tryd.func15, Tryd.ntmps15
  go_wp2_with fail
  have hA := gr_alloc w (Obj.cells (brow 32 []).toArray 25)
  refine (sum_any bs v _ (by have := hA.size; omega) (HT.out.gr hA hw) (HV.out.gr hA) hlen).mono ?_
  rintro e w4 ⟨rfl, hG4⟩
  have hG04 : w.grownBy w4 none := gr_trans hA hG4
  have hrow4 : w4.heap[w.heap.size]? = some (.cells (brow 32 []).toArray 25 (0, 0)) := (hG4.block _ (by simp) (by simp)).trans (heap_alloc_new _ _)
  have hl := length_sha bs
  have HI : Hid ((Tryd.prog.info? 25).map (·.size) = some ((sha bs).map ub).toArray.size) := info25 _ (by simp [hl])
  have HO : Hid ((brow 32 []).toArray.size = ((sha bs).map ub).toArray.size) := by
    show _ = _
    rw [List.size_toArray, List.size_toArray, length_brow _ _ (by simp)]; simp [hl]
  have HN : Hid (((sha bs).map ub).toArray.all (·.oneCell') = true) := by
    show _ = _
    rw [← brow_full _ _ hl]; exact brow_one _ _
  clear hl hlen hA hG4
  go_wp2_with (refine wpList_store_row rfl 25 _ _ rfl w.heap.size _ rfl rfl 25 _ hrow4 HI.out HO.out HN.out ?_)
  exact bodyPost_ret (v := .agg ((sha bs).map ub).toArray) (results_cell_row Tryd.results15 _ _ w.heap.size 25 _ (0, 0) _ rfl (setRow_heap w4 _ _ _ 25 _ hrow4) Tryd.underlying25 rfl HI.out) rfl ⟨rfl, gr_row hG04 _ _ (Nat.le_refl _)⟩
end Go.Proofs.YtjgmmdgcknnlpaaDoor
