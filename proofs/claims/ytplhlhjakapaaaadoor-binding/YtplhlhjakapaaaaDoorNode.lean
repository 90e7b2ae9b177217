import Derived.Test.YtplhlhjakapaaaaDoorOf
namespace Go.Proofs.YtplhlhjakapaaaaDoor
open Go Go.RowKit

theorem one25 (l : List UInt8) (h : l.length = 32) : (l.map ub).toArray.all (·.oneCell') = true := by rw [← brow_full _ _ h]; exact brow_one _ _
theorem info25b (l : List UInt8) (h : l.length = 32) : (Tryd.prog.info? 25).map (·.size) = some (l.map ub).toArray.size := info25 _ (by simp [h])

theorem take_snocB (l : List UInt8) (k : Nat) (h : k < l.length) : l.take (k + 1) = l.take k ++ [l.getD k 0] := by
  rw [List.take_succ_eq_append_getElem h]; simp [h]
theorem byte_at {w : World} {g : Nat} {t : TypeId} {l : List UInt8} (hg : w.heap[g]? = some (.cells (l.map ub).toArray t (0, 0))) (j : Nat) (hj : j < l.length) : w.cell? ⟨g, j, none⟩ = some (ub (l.getD j 0)) := by
  rw [cell_of_row w _ _ _ _ _ hg, List.getElem?_toArray, List.getElem?_map, List.getElem?_eq_getElem hj]
  simp [hj]

set_option maxHeartbeats 1000000 in
set_option maxRecDepth 100000 in
theorem text_any (l : List UInt8) (hl : l.length = 32) (w : World) :
    Calls Tryd.prog 78 #[.agg (l.map ub).toArray] w fun e w' => e = .returned (.string (mkS l)) ∧ w.grownBy w' none := by
  have HL : Hid _ := hl
  obtain ⟨i0, hi0, hz0, hz1, hz2⟩ := info_parts info5
  go_enter Tryd.func78, Tryd.ntmps78
  clear hl
  go_wp2_with (at_make; refine wpList_make_full _ rfl _ _ 27 rfl (w.heap.size + 1) 5 i0 (.int .u8 0) 1 Tryd.underlying27 hi0 hz0 hz1 _ _ _ _ 32 rfl rfl (by omega) (by omega) ?b2 ?b3 (by simp) ?_)
  case b2 => rw [hz2]; omega
  case b3 => unfold maxLen; omega
  intro w1 hown hG1
  have hrow1 : w1.heap[w.heap.size + 1]? = some (.cells (brow 32 []).toArray 5 (0, 0)) := made_row hown
  have hbox : w1.heap[w.heap.size]? = some (.cells (l.map ub).toArray 25 (0, 0)) := (hG1.block _ (by simp) (by simp)).trans (heap_alloc_new _ _)
  have hG01 : w.grownBy w1 none := gr_trans (gr_alloc _ _) hG1
  clear hown hG1
  go_wp2
  go_loopw [4] (fun i wr => ∃ k : Nat, k ≤ 32 ∧ i = .int .i64 (k : Int) ∧ wr.heap[w.heap.size + 1]? = some (.cells (brow 32 (l.take k)).toArray 5 (0, 0)) ∧ wr.heap[w.heap.size]? = some (.cells (l.map ub).toArray 25 (0, 0)) ∧ w.grownBy wr none)
    (fun i _ => 32 - (intOf i).toNat)
  case atStart => exact ⟨0, by omega, rfl, hrow1, hbox, hG01⟩
  case round =>
    clear hrow1 hbox hG01
    obtain ⟨k, hk, rfl, hrow, hbox, hG⟩ := hrel
    by_cases hlt : k < 32
    · have hlk : (l.take k).length = k := by rw [List.length_take, HL.out]; omega
      have c1 := byte_at hbox k (by rw [HL.out]; exact hlt)
      have c2 : wr.cell? ⟨w.heap.size + 1, k, none⟩ = some (ub 0) := by rw [cell_of_row wr _ _ _ _ _ hrow, List.getElem?_toArray, brow_zero _ _ _ (by omega) (by omega)]
      have f2 : wr.frozen? ⟨w.heap.size + 1, k, none⟩ = false := frozen_of_row wr _ _ _ _ hrow
      have HS : Hid ((wr.setCell ⟨w.heap.size + 1, k, none⟩ (ub (l.getD k 0))).heap[w.heap.size + 1]? = some (.cells (brow 32 (l.take (k + 1))).toArray 5 (0, 0))) := by
        rw [take_snocB l k (by rw [HL.out]; exact hlt)]
        exact brow_store' _ k hlk.symm hrow (by omega)
      generalize l.getD k 0 = x at c1 HS
      clear hlk
      have d0 : (k : Int) < 32 := by omega
      go_wp2
      refine ⟨⟨k + 1, by omega, by go_num, HS.out, (heap_setCell_other _ _ _ _ (by simp)).trans hbox, ?_⟩, by simp [intOf]; omega⟩
      exact ⟨hG.os, hG.tape, hG.output, by simpa using hG.size, fun i hi _ => (heap_setCell_other _ _ _ _ (by simp; omega)).trans (hG.block i hi (by simp))⟩
    · have hk32 : k = 32 := by omega
      have hge : decide ((k : Int) < 32) = false := by simp; omega
      have hcv : (convert 27 9 (.slice (some ⟨w.heap.size + 1, 0, none⟩) 32 32)).run Tryd.prog wr = .ok (.string (mkS l)) wr := by
        rw [hk32, List.take_of_length_le (by rw [HL.out]; omega), brow_full _ _ HL.out] at hrow
        have h := run_convert_bytes_back (P := Tryd.prog) wr 27 9 5 ⟨w.heap.size + 1, 0, none⟩ 32 l Tryd.underlying27 Tryd.underlying5 Tryd.underlying9 (fun j hj => by
          have e : (⟨w.heap.size + 1, 0, none⟩ : Addr).add j = ⟨w.heap.size + 1, j, none⟩ := by unfold Addr.add; split <;> simp_all
          rw [e, byte_at hrow j hj]; simp [hj])
        rw [HL.out] at h
        exact h
      clear hk32 hlt hk hrow
      go_wp2
      go_ret
      exact ⟨rfl, hG⟩

/-- The text of a node. -/
def nodeL (kind : UInt8) (l r : List UInt8) : List UInt8 := kind :: (l ++ r)

set_option maxHeartbeats 1000000 in
set_option maxRecDepth 100000 in
theorem node_any (H : Nat) (kind : UInt8) (l r : List UInt8) (hl : l.length = 32) (hr : r.length = 32) (w : World) (hH : RefAt w H) (hHs : H < w.heap.size) :
    Calls Tryd.prog 56 #[.pointer (some ⟨H, 0, none⟩), ub kind, .agg (l.map ub).toArray, .agg (r.map ub).toArray] w fun e w' => e = .returned (.agg ((sha (nodeL kind l r)).map ub).toArray) ∧ w.grownBy w' none := by
  have HH : Hid _ := hH
  have HL : Hid _ := hl
  have HR : Hid _ := hr
  have HIl : Hid _ := info25b l hl
  have HIr : Hid _ := info25b r hr
  clear hH hl hr
  go_enter Tryd.func56, Tryd.ntmps56
  go_wp2_with (refine wpList_load_row rfl 25 _ rfl w.heap.size rfl 25 _ (0, 0) _ ?ha Tryd.underlying25 rfl HIl.out ?_)
  case ha => rw [Below.heap_alloc _ _ _ (by simp; omega), Below.heap_alloc _ _ _ (by simp), heap_alloc_new]
  obtain ⟨W0, hW0⟩ : ∃ W0, W0 = ((w.alloc (Obj.cells (l.map ub).toArray 25)).alloc (Obj.cells (r.map ub).toArray 25)).alloc (Obj.cells (brow 32 []).toArray 25) := ⟨_, rfl⟩
  have hG0 : w.grownBy W0 none := by rw [hW0]; exact gr_trans (gr_trans (gr_alloc _ _) (gr_alloc _ _)) (gr_alloc _ _)
  have hs0 : W0.heap.size = w.heap.size + 3 := by rw [hW0]; simp
  have hr0 : W0.heap[w.heap.size + 1]? = some (.cells (r.map ub).toArray 25 (0, 0)) := by rw [hW0, Below.heap_alloc _ _ _ (by simp)]; exact heap_alloc2_new _ _ _
  have hz0 : W0.heap[w.heap.size + 2]? = some (.cells (brow 32 []).toArray 25 (0, 0)) := by
    have h := heap_alloc_new ((w.alloc (Obj.cells (l.map ub).toArray 25)).alloc (Obj.cells (r.map ub).toArray 25)) (Obj.cells (brow 32 []).toArray 25)
    rw [hW0]; simpa using h
  have ht1 := text_any l HL.out W0
  rw [hW0] at ht1
  refine ht1.mono ?_
  rw [← hW0]
  clear ht1 hW0
  rintro e w1 ⟨rfl, hG1⟩
  have hr1 : w1.heap[w.heap.size + 1]? = some (.cells (r.map ub).toArray 25 (0, 0)) := (hG1.block _ (by omega) (by simp)).trans hr0
  have hz1 : w1.heap[w.heap.size + 2]? = some (.cells (brow 32 []).toArray 25 (0, 0)) := (hG1.block _ (by omega) (by simp)).trans hz0
  have hG01 := gr_trans hG0 hG1
  have hs1 := hG1.size
  clear hr0 hz0 hG1
  go_wp2_with (refine wpList_load_row rfl 25 _ rfl (w.heap.size + 1) rfl 25 _ (0, 0) _ hr1 Tryd.underlying25 rfl HIr.out ?_)
  refine (text_any r HR.out w1).mono ?_
  rintro e w2 ⟨rfl, hG2⟩
  have hz2 : w2.heap[w.heap.size + 2]? = some (.cells (brow 32 []).toArray 25 (0, 0)) := (hG2.block _ (by omega) (by simp)).trans hz1
  have hG02 := gr_trans hG01 hG2
  have hs2 := hG2.size
  clear hz1 hr1 hG2
  have hcv := conv_one w2 kind
  have hcat := mkS_append
  have hsz := size_mkS
  have hll : l.length = 32 := HL.out
  have hlr : r.length = 32 := HR.out
  go_wp2_with fail
  have hG3 := gr_trans hG02 (gr_alloc w2 (Obj.cells #[Value.int IntKind.u8 (kind.toNat : Int)] 5))
  have hz3 : (w2.alloc (Obj.cells #[Value.int IntKind.u8 (kind.toNat : Int)] 5)).heap[w.heap.size + 2]? = some (.cells (brow 32 []).toArray 25 (0, 0)) := (Below.heap_alloc _ _ _ (by omega)).trans hz2
  have hs3 : w.heap.size + 3 ≤ (w2.alloc (Obj.cells #[Value.int IntKind.u8 (kind.toNat : Int)] 5)).heap.size := by simp; omega
  have hof := of_any H (nodeL kind l r) (w2.alloc (Obj.cells #[Value.int IntKind.u8 (kind.toNat : Int)] 5)) (RefAt.gr HH.out hHs hG3) (by simp; omega) (by simp [nodeL, hll, hlr])
  refine hof.mono ?_
  clear hof hcv hcat hsz hz2 hG02
  rintro e w4 ⟨rfl, hG4⟩
  have hz4 : w4.heap[w.heap.size + 1 + 1]? = some (.cells (brow 32 []).toArray 25 (0, 0)) := (hG4.block _ (by omega) (by simp)).trans hz3
  have hG04 := gr_trans hG3 hG4
  have hls := length_sha (nodeL kind l r)
  have HI : Hid _ := info25b _ hls
  have HO : Hid ((brow 32 []).toArray.size = ((sha (nodeL kind l r)).map ub).toArray.size) := by
    show _ = _
    rw [List.size_toArray, List.size_toArray, length_brow _ _ (by simp)]; simp [hls]
  have HN : Hid _ := one25 _ hls
  clear hls hG3 hG4 hz3 hll hlr
  go_wp2_with (refine wpList_store_row rfl 25 _ _ rfl (w.heap.size + 1 + 1) _ rfl rfl 25 _ hz4 HI.out HO.out HN.out ?_)
  exact bodyPost_ret (v := .agg ((sha (nodeL kind l r)).map ub).toArray) (results_cell_row Tryd.results56 _ _ (w.heap.size + 1 + 1) 25 _ (0, 0) _ rfl (setRow_heap w4 _ _ _ 25 _ hz4) Tryd.underlying25 rfl HI.out) rfl ⟨rfl, gr_row hG04 _ _ (by omega)⟩
end Go.Proofs.YtplhlhjakapaaaaDoor
