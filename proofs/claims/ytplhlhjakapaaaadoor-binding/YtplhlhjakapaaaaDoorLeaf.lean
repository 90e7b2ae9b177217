/-
  tree.Leaf's and tree.node's contracts.
-/
import Derived.Test.YtplhlhjakapaaaaDoorMarked
namespace Go.Proofs.YtplhlhjakapaaaaDoor
open Go Go.RowKit

theorem sum25 (s : List UInt8) (hl : s.length = 32) : Hid ((Tryd.prog.info? 25).map (·.size) = some (s.map ub).toArray.size) ∧ Hid ((brow 32 []).toArray.size = (s.map ub).toArray.size) ∧ Hid ((s.map ub).toArray.all (·.oneCell') = true) := by
  refine ⟨info25 _ (by simp [hl]), ?_, ?_⟩
  · show _ = _
    rw [List.size_toArray, List.size_toArray, length_brow _ _ (by simp)]; simp [hl]
  · show _ = _
    rw [← brow_full _ _ hl]; exact brow_one _ _

set_option maxHeartbeats 2000000 in
set_option maxRecDepth 100000 in
theorem leaf_any (bs : List UInt8) (v : Value) (w : World) (hw : 1 < w.heap.size) (hT : Tab w) (hv : SliceIs w v bs) (hlen : bs.length < 1152921504606840000) :
    Calls Tryd.prog 66 #[v] w fun e w' => e = .returned (.agg ((sha (0 :: bs)).map ub).toArray) ∧ w.grownBy w' none := by
  have HT : Hid (Tab w) := hT
  have HV : Hid (SliceIs w v bs) := hv
  obtain ⟨sp, cap, rfl, hcap, hsp⟩ := hv
  clear hT hsp
  go_enter Tryd.func66, Tryd.ntmps66
  go_wp2_with fail
  have hA := gr_alloc w (Obj.cells (brow 32 []).toArray 25)
  have hB := gr_alloc (w.alloc (Obj.cells (brow 32 []).toArray 25)) (Obj.cells #[Value.slice sp bs.length cap] 27)
  have hAB := gr_trans hA hB
  have hs : (w.alloc (Obj.cells (brow 32 []).toArray 25)).heap.size = w.heap.size + 1 := by simp
  have hm := marked_any 0 [bs] (.slice (some ⟨w.heap.size + 1, 0, none⟩) 1 1) ((w.alloc (Obj.cells (brow 32 []).toArray 25)).alloc (Obj.cells #[Value.slice sp bs.length cap] 27)) (by simp) (HT.out.gr hAB hw)
    ⟨w.heap.size + 1, 0, 1, rfl, by simp, by simp, fun k b hk => by
      obtain ⟨rfl, rfl⟩ : k = 0 ∧ bs = b := by
        cases k with
        | zero => simpa using hk
        | succ k => simp at hk
      refine ⟨_, ?_, HV.out.gr hAB⟩
      rw [← hs, cell_of_row _ _ _ _ _ _ (heap_alloc_new _ _)]; rfl⟩ (by simp) (by simpa using hlen)
  refine hm.mono ?_
  rintro e w4 ⟨rfl, hG4⟩
  have e1 : ([bs] : List (List UInt8)).flatten = bs := by simp
  rw [e1]
  have hG04 : w.grownBy w4 none := gr_trans hAB hG4
  have hrow4 : w4.heap[w.heap.size]? = some (.cells (brow 32 []).toArray 25 (0, 0)) := (hG4.block _ (by simp; omega) (by simp)).trans ((hB.block _ (by simp) (by simp)).trans (heap_alloc_new _ _))
  obtain ⟨HI, HO, HN⟩ := sum25 _ (length_sha (0 :: bs))
  clear hm hA hB hAB hG4 e1 hs
  go_wp2_with (refine wpList_store_row rfl 25 _ _ rfl w.heap.size _ rfl rfl 25 _ hrow4 HI.out HO.out HN.out ?_)
  exact bodyPost_ret (v := .agg ((sha (0 :: bs)).map ub).toArray) (results_cell_row Tryd.results66 _ _ w.heap.size 25 _ (0, 0) _ rfl (setRow_heap w4 _ _ _ 25 _ hrow4) Tryd.underlying25 rfl HI.out) rfl ⟨rfl, gr_row hG04 _ _ (Nat.le_refl _)⟩

set_option maxHeartbeats 2000000 in
set_option maxRecDepth 100000 in
theorem tnode_any (l r : List UInt8) (w : World) (hw : 1 < w.heap.size) (hT : Tab w) (hl : l.length = 32) (hr : r.length = 32) :
    Calls Tryd.prog 84 #[.agg (l.map ub).toArray, .agg (r.map ub).toArray] w fun e w' => e = .returned (.agg ((sha (nodeL 1 l r)).map ub).toArray) ∧ w.grownBy w' none := by
  have HT : Hid (Tab w) := hT
  clear hT
  go_enter Tryd.func84, Tryd.ntmps84
  go_wp2
  change Code.wp _ _ _ _ (((w.alloc (Obj.cells (l.map ub).toArray 25)).alloc (Obj.cells (r.map ub).toArray 25)).alloc (Obj.cells (brow 32 []).toArray 25))
  have h1 : (((w.alloc (Obj.cells (l.map ub).toArray 25)).alloc (Obj.cells (r.map ub).toArray 25)).alloc (Obj.cells (brow 32 []).toArray 25)).heap[w.heap.size]? = some (.cells (l.map ub).toArray 25 (0, 0)) :=
    ((gr_alloc _ _).block _ (by simp; omega) (by simp)).trans (heap_alloc2_old _ _ _)
  have h2 : (((w.alloc (Obj.cells (l.map ub).toArray 25)).alloc (Obj.cells (r.map ub).toArray 25)).alloc (Obj.cells (brow 32 []).toArray 25)).heap[w.heap.size + 1]? = some (.cells (r.map ub).toArray 25 (0, 0)) :=
    ((gr_alloc _ _).block _ (by simp) (by simp)).trans (heap_alloc2_new _ _ _)
  have h3 : (((w.alloc (Obj.cells (l.map ub).toArray 25)).alloc (Obj.cells (r.map ub).toArray 25)).alloc (Obj.cells (brow 32 []).toArray 25)).heap[w.heap.size + 1 + 1]? = some (.cells (brow 32 []).toArray 25 (0, 0)) := by
    have : ((w.alloc (Obj.cells (l.map ub).toArray 25)).alloc (Obj.cells (r.map ub).toArray 25)).heap.size = w.heap.size + 1 + 1 := by simp
    rw [← this]; exact heap_alloc_new _ _
  have hs : (((w.alloc (Obj.cells (l.map ub).toArray 25)).alloc (Obj.cells (r.map ub).toArray 25)).alloc (Obj.cells (brow 32 []).toArray 25)).heap.size = w.heap.size + 1 + 1 + 1 := by simp
  have hG := gr_trans (gr_trans (gr_alloc w (Obj.cells (l.map ub).toArray 25)) (gr_alloc _ (Obj.cells (r.map ub).toArray 25))) (gr_alloc _ (Obj.cells (brow 32 []).toArray 25))
  generalize ((w.alloc (Obj.cells (l.map ub).toArray 25)).alloc (Obj.cells (r.map ub).toArray 25)).alloc (Obj.cells (brow 32 []).toArray 25) = W at h1 h2 h3 hs hG ⊢
  refine wp_region_still_tail 2 (by kernel_rfl) (by decide +kernel) ?_
  simp only [List.take_succ_cons, List.take_zero, List.drop_succ_cons, List.drop_zero]
  still_step
  still_step
  refine wpStill_nil ?_
  go_wp2_with fail
  have hWP : W.grownBy (W.alloc (Obj.cells #[Value.slice (some ⟨w.heap.size, 0, none⟩) 32 32, Value.slice (some ⟨w.heap.size + 1, 0, none⟩) 32 32] 27)).drew none := gr_drew (gr_alloc _ _)
  have hrp : (W.alloc (Obj.cells #[Value.slice (some ⟨w.heap.size, 0, none⟩) 32 32, Value.slice (some ⟨w.heap.size + 1, 0, none⟩) 32 32] 27)).drew.heap[w.heap.size + 1 + 1 + 1]? = some (.cells #[Value.slice (some ⟨w.heap.size, 0, none⟩) 32 32, Value.slice (some ⟨w.heap.size + 1, 0, none⟩) 32 32] 27 (0, 0)) := by rw [← hs]; exact heap_alloc_new _ _
  generalize (W.alloc (Obj.cells #[Value.slice (some ⟨w.heap.size, 0, none⟩) 32 32, Value.slice (some ⟨w.heap.size + 1, 0, none⟩) 32 32] 27)).drew = V at hWP hrp ⊢
  have hGV := gr_trans hG hWP
  have sl : ∀ (g : Nat) (x : List UInt8), x.length = 32 → W.heap[g]? = some (.cells (x.map ub).toArray 25 (0, 0)) → SliceIs V (.slice (some ⟨g, 0, none⟩) 32 32) x := fun g x hx hh => by
    have hgs := (Array.getElem?_eq_some_iff.1 hh).1
    refine ⟨_, _, by rw [hx], by omega, fun _ => ⟨g, 0, rfl, by have := hWP.size; omega, fun j hj => ?_⟩⟩
    rw [gr_cell hWP (p := ⟨g, 0 + j, none⟩) hgs, cell_of_row _ _ _ _ _ _ hh, Nat.zero_add]
    simp [hj]
  have hm := marked_any 1 [l, r] (.slice (some ⟨w.heap.size + 1 + 1 + 1, 0, none⟩) 2 2) V (by have := hGV.size; omega) (HT.out.gr hGV hw)
    ⟨w.heap.size + 1 + 1 + 1, 0, 2, rfl, by simp, (Array.getElem?_eq_some_iff.1 hrp).1, fun k b hk => by
      match k, hk with
      | 0, hk =>
        obtain rfl : l = b := by simpa using hk
        exact ⟨_, by rw [cell_of_row _ _ _ _ _ _ hrp]; rfl, sl _ _ hl h1⟩
      | 1, hk =>
        obtain rfl : r = b := by simpa using hk
        exact ⟨_, by rw [cell_of_row _ _ _ _ _ _ hrp]; rfl, sl _ _ hr h2⟩
      | k + 2, hk => simp at hk⟩ (by simp) (by simp [hl, hr])
  refine hm.mono ?_
  rintro e w4 ⟨rfl, hG4⟩
  have e1 : (1 : UInt8) :: ([l, r] : List (List UInt8)).flatten = nodeL 1 l r := by simp [nodeL]
  rw [e1]
  have hG04 : w.grownBy w4 none := gr_trans hGV hG4
  have hrow4 : w4.heap[w.heap.size + 1 + 1]? = some (.cells (brow 32 []).toArray 25 (0, 0)) := (hG4.block _ (by have := hWP.size; omega) (by simp)).trans ((hWP.block _ (by omega) (by simp)).trans h3)
  obtain ⟨HI, HO, HN⟩ := sum25 _ (length_sha (nodeL 1 l r))
  clear hm sl hGV hG4 e1 hs h1 h2 h3 hWP hrp hG
  generalize en : nodeL 1 l r = nd at *
  go_wp2_with (refine wpList_store_row rfl 25 _ _ rfl (w.heap.size + 1 + 1) _ rfl rfl 25 _ hrow4 HI.out HO.out HN.out ?_)
  exact bodyPost_ret (v := .agg ((sha nd).map ub).toArray) (results_cell_row Tryd.results84 _ _ (w.heap.size + 1 + 1) 25 _ (0, 0) _ rfl (setRow_heap w4 _ _ _ 25 _ hrow4) Tryd.underlying25 rfl HI.out) rfl ⟨by rw [en], gr_row hG04 _ _ (by omega)⟩
end Go.Proofs.YtplhlhjakapaaaaDoor
