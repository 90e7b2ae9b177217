import Derived.Test.YtjgmmdgcknnlpaaDoorMix
namespace Go.Proofs.YtjgmmdgcknnlpaaDoor
open Go Go.RowKit

def bt (x : BitVec 32) (n : Nat) : UInt8 := UInt8.ofNat (x.toNat / n)
def btL (x : BitVec 32) : List UInt8 := [bt x 16777216, bt x 65536, bt x 256, bt x 1]
def toldL (s : Eight) : List UInt8 := s.list.flatMap btL
def toldK (s : Eight) (k : Nat) : List UInt8 := (s.list.take k).flatMap btL
theorem length_toldK (s : Eight) (k : Nat) (hk : k ≤ 8) : (toldK s k).length = 4 * k := by
  obtain rfl | rfl | rfl | rfl | rfl | rfl | rfl | rfl | rfl : k = 0 ∨ k = 1 ∨ k = 2 ∨ k = 3 ∨ k = 4 ∨ k = 5 ∨ k = 6 ∨ k = 7 ∨ k = 8 := by omega
  all_goals rfl
theorem toldK_succ (s : Eight) (k : Nat) (hk : k < 8) : toldK s (k + 1) = (((toldK s k ++ [bt (s.list.getD k 0) 16777216]) ++ [bt (s.list.getD k 0) 65536]) ++ [bt (s.list.getD k 0) 256]) ++ [bt (s.list.getD k 0) 1] := by
  obtain rfl | rfl | rfl | rfl | rfl | rfl | rfl | rfl : k = 0 ∨ k = 1 ∨ k = 2 ∨ k = 3 ∨ k = 4 ∨ k = 5 ∨ k = 6 ∨ k = 7 := by omega
  all_goals rfl
theorem bt_val (x : BitVec 32) (n : Nat) : ((x.toNat : Int) / (n : Int)) % 256 = ((bt x n).toNat : Int) := by
  simp [bt]

theorem bt24_val (x : BitVec 32) : (x.toNat : Int) / 16777216 = ((bt x 16777216).toNat : Int) := by
  rw [← bt_val]; have := x.isLt; omega
theorem bt16_val (x : BitVec 32) : (x.toNat : Int) / 65536 % 256 = ((bt x 65536).toNat : Int) := by rw [← bt_val]; rfl
theorem bt8_val (x : BitVec 32) : (x.toNat : Int) / 256 % 256 = ((bt x 256).toNat : Int) := by rw [← bt_val]; rfl
theorem bt0_val (x : BitVec 32) : (x.toNat : Int) % 256 = ((bt x 1).toNat : Int) := by rw [← bt_val]; omega
def brow (n : Nat) (l : List UInt8) : List Value := l.map ub ++ List.replicate (n - l.length) (ub 0)
theorem length_brow (n : Nat) (l : List UInt8) (h : l.length ≤ n) : (brow n l).length = n := by simp [brow]; omega
theorem brow_set (n : Nat) (l : List UInt8) (x : UInt8) (h : l.length < n) : (brow n l).set l.length (ub x) = brow n (l ++ [x]) := by
  have e : n - l.length = (n - (l.length + 1)) + 1 := by omega
  simp only [brow, List.map_append, List.length_append, List.length_singleton, e, List.replicate_succ, List.map_cons, List.map_nil]
  rw [List.set_append_right _ _ (by simp)]
  simp
theorem brow_zero (n : Nat) (l : List UInt8) (j : Nat) (h : l.length ≤ j) (hj : j < n) : (brow n l)[j]? = some (ub 0) := by
  rw [brow, List.getElem?_append_right (by simpa using h), List.length_map, List.getElem?_replicate, if_pos (by omega)]
theorem brow_full (n : Nat) (l : List UInt8) (h : l.length = n) : brow n l = l.map ub := by simp [brow, h]
theorem brow_one (n : Nat) (l : List UInt8) : (brow n l).toArray.all (·.oneCell') = true := by
  rw [Array.all_eq_true_iff_forall_mem]
  intro v hv
  simp only [brow, List.mem_toArray, List.mem_append, List.mem_map, List.mem_replicate] at hv
  rcases hv with ⟨x, _, rfl⟩ | ⟨_, rfl⟩ <;> rfl
theorem brow_store {w : World} {g n : Nat} {t : TypeId} {l : List UInt8} (x : UInt8) (hg : w.heap[g]? = some (.cells (brow n l).toArray t (0, 0))) (h : l.length < n) :
    (w.setCell ⟨g, l.length, none⟩ (ub x)).heap[g]? = some (.cells (brow n (l ++ [x])).toArray t (0, 0)) := by
  rw [heap_setCell_same _ _ _ _ _ _ hg, List.setIfInBounds_toArray, brow_set _ _ _ h]
theorem brow_store' {w : World} {g n : Nat} {t : TypeId} {l : List UInt8} (x : UInt8) (j : Nat) (hj : j = l.length) (hg : w.heap[g]? = some (.cells (brow n l).toArray t (0, 0))) (h : l.length < n) :
    (w.setCell ⟨g, j, none⟩ (ub x)).heap[g]? = some (.cells (brow n (l ++ [x])).toArray t (0, 0)) := by
  subst hj; exact brow_store x hg h
theorem info25 (c : List Value) (h : c.length = 32) : (Tryd.prog.info? 25).map (·.size) = some c.toArray.size := by
  rw [List.size_toArray, h]; kernel_rfl

set_option maxHeartbeats 1000000 in
set_option maxRecDepth 100000 in
theorem told_any (g : Nat) (t : TypeId) (s : Eight) (blk : List UInt8) (n : Int) (w : World)
    (hg : w.heap[g]? = some (.cells (hrow s blk n).toArray t (0, 0))) :
    Calls Tryd.prog 103 #[.pointer (some ⟨g, 0, none⟩)] w fun e w' => e = .returned (.agg ((toldL s).map ub).toArray) ∧ w.grownBy w' none := by
  have hgs : g < w.heap.size := (Array.getElem?_eq_some_iff.1 hg).1
  obtain ⟨c0, c1, c2, c3, c4, c5, c6, c7⟩ := cells8 hg
  have HG : Hid _ := hg
  clear hg
  go_enter Tryd.func103, Tryd.ntmps103
  go_wp2
  go_loopw [10] (fun i wr => ∃ k : Nat, k ≤ 8 ∧ i = .int .i64 k ∧ wr.heap[w.heap.size + 1]? = some (.cells (brow 32 (toldK s k)).toArray 25 (0, 0)) ∧ wr.heap[w.heap.size]? = some (.cells (brow 32 []).toArray 25 (0, 0)) ∧ Below w.heap.size w wr)
    (fun i _ => 8 - (intOf i).toNat)
  case atStart =>
    refine ⟨0, by omega, rfl, ?_, ?_, ?_⟩
    · exact heap_alloc2_new _ _ _
    · exact heap_alloc2_old _ _ _
    · exact ((Below.refl _ _).alloc (Nat.le_refl _) _).alloc (by simp) _
  case round =>
    clear c0 c1 c2 c3 c4 c5 c6 c7
    obtain ⟨k, hk, rfl, hrow1, hrow0, hb⟩ := hrel
    by_cases hlt : k < 8
    · have hix := index8 s k hlt
      have HL := length_toldK s k hk
      have HK := toldK_succ s k hlt
      have hcc : ∀ j, j < 4 → wr.cell? ⟨w.heap.size + 1, 4 * k + j, none⟩ = some (ub 0) := fun j hj => by
        rw [cell_of_row wr _ _ _ _ _ hrow1, List.getElem?_toArray, brow_zero _ _ _ (by omega) (by omega)]
      have hff : ∀ j, wr.frozen? ⟨w.heap.size + 1, j, none⟩ = false := fun j => frozen_of_row wr _ _ _ _ hrow1
      have d0 := hcc 0 (by omega)
      have d1 := hcc 1 (by omega)
      have d2 := hcc 2 (by omega)
      have d3 := hcc 3 (by omega)
      simp only [Nat.add_zero] at d0
      have t0 : ((4 : Int) * (k : Int)).toNat = 4 * k := by omega
      have t1 : ((4 : Int) * (k : Int) + 1).toNat = 4 * k + 1 := by omega
      have t2 : ((4 : Int) * (k : Int) + 2).toNat = 4 * k + 2 := by omega
      have t3 : ((4 : Int) * (k : Int) + 3).toNat = 4 * k + 3 := by omega
      clear hcc
      generalize eX : s.list.getD k 0 = x at hix HK
      clear eX
      have HL' : Hid _ := HL
      have HK' : Hid _ := HK
      clear HL HK
      go_wp2
      rw [bt24_val, bt16_val, bt8_val, bt0_val]
      have hl := HL'.out
      refine ⟨⟨k + 1, by omega, by go_num, ?_, ?_, ?_⟩, by simp [intOf]; omega⟩
      · rw [HK'.out]
        refine brow_store' _ _ ?_ (brow_store' _ _ ?_ (brow_store' _ _ ?_ (brow_store' _ _ ?_ hrow1 ?_) ?_) ?_) ?_
        all_goals simp [hl]
        all_goals omega
      · rw [heap_setCell_other _ _ _ _ (by simp), heap_setCell_other _ _ _ _ (by simp), heap_setCell_other _ _ _ _ (by simp), heap_setCell_other _ _ _ _ (by simp)]
        exact hrow0
      · exact (((hb.setCell (by simp) _).setCell (by simp) _).setCell (by simp) _).setCell (by simp) _
    · have hk8 : k = 8 := by omega
      have hT : toldK s 8 = toldL s := rfl
      rw [hk8, hT] at hrow1
      have hl : (toldL s).length = 32 := rfl
      have hge : decide ((k : Int) < 8) = false := by simp; omega
      have HI : Hid _ := info25 (brow 32 (toldL s)) (length_brow _ _ (by omega))
      have HO : Hid ((brow 32 []).toArray.size = (brow 32 (toldL s)).toArray.size) := by
        show _ = _
        rw [List.size_toArray, List.size_toArray, length_brow _ _ (by simp), length_brow _ _ (by omega)]
      have Hl : Hid _ := hl
      clear hk8 hT hlt hk hl
      go_wp2_with (first
        | (refine wpList_load_row rfl 25 _ rfl (w.heap.size + 1) rfl 25 _ (0, 0) _ hrow1 Tryd.underlying25 rfl HI.out ?_)
        | (refine wpList_store_row rfl 25 _ _ rfl w.heap.size _ rfl rfl 25 _ hrow0 HI.out HO.out (brow_one _ _) ?_))
      refine bodyPost_ret (v := .agg (brow 32 (toldL s)).toArray) (results_cell_row Tryd.results103 _ _ w.heap.size 25 _ (0, 0) _ rfl (setRow_heap wr _ _ _ 25 _ hrow0) Tryd.underlying25 rfl HI.out) rfl ⟨by rw [brow_full _ _ Hl.out], ?_⟩
      exact ⟨hb.os, hb.tape, hb.output, by rw [size_setRow]; exact hb.size, fun j hj _ => (setRow_other wr _ j _ (by omega)).trans (hb.block j hj)⟩
end Go.Proofs.YtjgmmdgcknnlpaaDoor
