/-
  rootsref's Taken.
-/
import Derived.Test.YtplhlhjakapaaaaDoorHoldsR
namespace Go.Proofs.YtplhlhjakapaaaaDoor
open Go Go.RowKit

set_option maxHeartbeats 2000000 in
set_option maxRecDepth 100000 in
theorem taken_any (H : Nat) (mask : Nat) (path : Value) (taken : Bool) (pk pv : List UInt8) (w : World) (hH : RefAt w H) (hHs : H < w.heap.size) (hpk : pk.length = 32) (hpv : pv.length = 32) :
    Calls Tryd.prog 51 #[.pointer (some ⟨H, 0, none⟩), .agg (proofC mask path taken pk pv).toArray] w fun e w' => e = .returned (.agg ((sha (nodeL 2 pk pv)).map ub).toArray) ∧ w.grownBy w' none := by
  have HH : Hid (RefAt w H) := hH
  have hP3 : ∀ j u, (pk.map ub)[j]? = some u → (proofC mask path taken pk pv)[3 + j]? = some u := fun j u hj => by
    rw [proofC, show 3 + j = j + 1 + 1 + 1 by omega, List.getElem?_cons_succ, List.getElem?_cons_succ, List.getElem?_cons_succ, List.getElem?_append_left (List.getElem?_eq_some_iff.1 hj).1]; exact hj
  have hP35 : ∀ j u, (pv.map ub)[j]? = some u → (proofC mask path taken pk pv)[35 + j]? = some u := fun j u hj => by
    rw [proofC, show 35 + j = (32 + j) + 1 + 1 + 1 by omega, List.getElem?_cons_succ, List.getElem?_cons_succ, List.getElem?_cons_succ, List.getElem?_append_right (by simp [hpk]), show 32 + j - (pk.map ub).length = j by simp [hpk]]; exact hj
  generalize proofC mask path taken pk pv = C at hP3 hP35 ⊢
  obtain ⟨HIk, _, _⟩ := sum25 pk hpk
  obtain ⟨HIv, _, _⟩ := sum25 pv hpv
  have HIk' : Hid ((Tryd.prog.info? 25).map (·.size) = some (pk.map ub).length) := by show _ = _; rw [HIk.out]; simp
  have HIv' : Hid ((Tryd.prog.info? 25).map (·.size) = some (pv.map ub).length) := by show _ = _; rw [HIv.out]; simp
  have hA := gr_trans (gr_alloc w (Obj.cells C.toArray 76)) (gr_alloc _ (Obj.cells (brow 32 []).toArray 25))
  have hC0 : ((w.alloc (Obj.cells C.toArray 76)).alloc (Obj.cells (brow 32 []).toArray 25)).heap[w.heap.size]? = some (.cells C.toArray 76 (0, 0)) := heap_alloc2_old _ _ _
  have hR0 : ((w.alloc (Obj.cells C.toArray 76)).alloc (Obj.cells (brow 32 []).toArray 25)).heap[w.heap.size + 1]? = some (.cells (brow 32 []).toArray 25 (0, 0)) := heap_alloc2_new _ _ _
  have HA3 : Hid (((w.alloc (Obj.cells C.toArray 76)).alloc (Obj.cells (brow 32 []).toArray 25)).rangeAt w.heap.size 3 (pk.map ub)) := fun j u hj => by
    rw [cell_of_row _ _ _ _ _ _ hC0]; simpa using hP3 j u hj
  have HA35 : Hid (((w.alloc (Obj.cells C.toArray 76)).alloc (Obj.cells (brow 32 []).toArray 25)).rangeAt w.heap.size 35 (pv.map ub)) := fun j u hj => by
    rw [cell_of_row _ _ _ _ _ _ hC0]; simpa using hP35 j u hj
  clear hP3 hP35 hH
  go_enter Tryd.func51, Tryd.ntmps51
  go_wp2_with (first | (refine wpList_load_mid rfl 25 _ rfl w.heap.size 35 rfl (pv.map ub) _ HA35.out Tryd.underlying25 rfl HIv'.out ?_) | (refine wpList_load_mid rfl 25 _ rfl w.heap.size 3 rfl (pk.map ub) _ HA3.out Tryd.underlying25 rfl HIk'.out ?_))
  refine (node_any H 2 pk pv hpk hpv _ (RefAt.gr HH.out hHs hA) (by have := hA.size; omega)).mono ?_
  rintro e w5 ⟨rfl, hG5⟩
  have hcl := length_sha (nodeL 2 pk pv)
  generalize ec : sha (nodeL 2 pk pv) = c at hcl ⊢
  have HEc : Hid (sha (nodeL 2 pk pv) = c) := ec
  clear ec
  obtain ⟨HIc, HOc, HNc⟩ := sum25 c hcl
  have hG05 := gr_trans hA hG5
  have hR5 := (hG5.block _ (Array.getElem?_eq_some_iff.1 hR0).1 (by simp)).trans hR0
  clear hA hC0 hR0 HA3 HA35 hG5
  go_wp2_with (refine wpList_store_row rfl 25 _ _ rfl (w.heap.size + 1) (c.map ub).toArray rfl rfl 25 _ hR5 HIc.out HOc.out HNc.out ?_)
  exact bodyPost_ret (results_cell_row Tryd.results51 _ _ (w.heap.size + 1) 25 _ (0, 0) _ rfl (setRow_heap _ _ _ _ 25 _ hR5) Tryd.underlying25 rfl HIc.out) rfl ⟨by rw [HEc.out], gr_row hG05 _ _ (by omega)⟩
end Go.Proofs.YtplhlhjakapaaaaDoor
