import Derived.Test.YtjgmmdgcknnlpaaDoorWrite
import Derived.Test.YtjgmmdgcknnlpaaDoorTold
namespace Go.Proofs.YtjgmmdgcknnlpaaDoor
open Go Go.RowKit

set_option maxHeartbeats 1000000 in
set_option maxRecDepth 100000 in
theorem begin_any (w : World) :
    Calls Tryd.prog 79 #[] w fun e w' => e = .returned (.agg (hrow H0 (List.replicate 64 0) 0).toArray) ∧ w.grownBy w' none := by
  go_enter Tryd.func79, Tryd.ntmps79
  go_wp2_with (refine store_new rfl 122 _ _ rfl _ _ _ rfl rfl ?hi ?ho ?h1 ?_; rotate_left 3; intro W hW hs hG)
  case hi => kernel_rfl
  case ho => kernel_rfl
  case h1 => kernel_rfl
  refine bodyPost_ret (v := .agg (hrow H0 (List.replicate 64 0) 0).toArray) (results_cell_row Tryd.results79 _ _ w.heap.size 122 _ (0, 0) _ rfl (hW.trans (by kernel_rfl)) Tryd.underlying122 rfl (by kernel_rfl)) rfl ⟨rfl, hG⟩

/-- Where the length begins in the tail. -/
def atOf (n : Nat) : Nat := 1 + (119 - n % 64) % 64
theorem atOf_le (n : Nat) : 1 ≤ atOf n ∧ atOf n ≤ 64 := by unfold atOf; omega
theorem atOf_val (n : Nat) : IntKind.u64.wrap (1 + (IntKind.u64.wrap (55 - (n : Int))).tmod 64) = (atOf n : Int) := by
  rw [IntKind.wrap_u64, IntKind.wrap_u64, Int.tmod_eq_emod_of_nonneg (by omega), atOf]
  omega
def lenB (n k : Nat) : UInt8 := UInt8.ofNat (8 * n / 2 ^ (56 - 8 * k))
def lenL (n : Nat) : Nat → List UInt8
  | 0 => []
  | k + 1 => lenL n k ++ [lenB n k]
def padL (n : Nat) : List UInt8 := (128 :: List.replicate (atOf n - 1) 0) ++ lenL n 8

theorem length_lenL (n k : Nat) : (lenL n k).length = k := by
  induction k with
  | zero => rfl
  | succ k ih => simp [lenL, ih]
theorem length_padL (n : Nat) : (padL n).length = atOf n + 8 := by
  have := (atOf_le n).1
  simp [padL, length_lenL]; omega
theorem brow_pad (A : Nat) (h1 : 1 ≤ A) (h2 : A ≤ 64) : brow 72 ((128 :: List.replicate (A - 1) 0) ++ []) = ub 128 :: List.replicate 71 (ub 0) := by
  rw [List.append_nil, brow]
  simp only [List.map_cons, List.map_replicate, List.length_cons, List.length_replicate, List.cons_append, List.replicate_append_replicate]
  congr 2
  omega
theorem zero131 : Tryd.zeroCells152.setIfInBounds 0 (Value.int IntKind.u8 128) = (ub 128 :: List.replicate 71 (ub 0)).toArray := by kernel_rfl
theorem lenB_val (n k : Nat) : (n : Int) * 8 / 2 ^ (56 - 8 * k) % 256 = ((lenB n k).toNat : Int) := by
  have e : ((2 : Int) ^ (56 - 8 * k)) = ((2 ^ (56 - 8 * k) : Nat) : Int) := by simp
  have e2 : (n : Int) * 8 = ((8 * n : Nat) : Int) := by simp; omega
  rw [e, e2, lenB, ← Int.natCast_ediv]
  simp
theorem al131 : Tryd.prog.arrayLen 152 = 72 := by simp [Program.arrayLen, Tryd.underlying152]
theorem slice_tail (b A : Nat) (h : A + 8 ≤ 72) (W : World) :
    (Instr.sliceAt 152 (.pointer (some ⟨b, 0, none⟩)) none (some (.int .u64 ((A : Int) + 8))) none).run Tryd.prog W = .ok (.slice (some ⟨b, 0, none⟩) (A + 8) 72) W := by
  rw [run_sliceAt_array_h W 152 ⟨b, 0, none⟩ (by simp [Program.arrayLen, Program.elem, Tryd.underlying152]) .u64 _ (by omega) (by rw [al131]; omega), al131]
  have h3 : ((A : Int) + 8).toNat = A + 8 := by omega
  simp [go_sem, Program.elem, Tryd.underlying152, h3, Addr.add]

set_option maxHeartbeats 1000000 in
set_option maxRecDepth 100000 in
theorem finish_any (g : Nat) (M : List UInt8) (w : World) (hg1 : 1 < g) (hT : Tab w) (hH : HasherIs w g M)
    (hlen : M.length < 1152921504606846000) :
    Calls Tryd.prog 81 #[.pointer (some ⟨g, 0, none⟩)] w fun e w' => ∃ s blk, Rep (M ++ padL M.length) s blk ∧ e = .returned (.agg ((toldL s).map ub).toArray) ∧ w.grownBy w' (some g) := by
  have hgw : g < w.heap.size := by
    obtain ⟨_, _, h, _⟩ := hH
    exact (Array.getElem?_eq_some_iff.1 h).1
  have HT : Hid (Tab w) := hT
  have HH : Hid (HasherIs w g M) := hH
  have hc0 : w.cell? ⟨g, 72, none⟩ = some (.int .u64 (M.length : Int)) := by
    obtain ⟨s, blk, h, hrep⟩ := hH
    rw [cell_of_row w _ _ _ _ _ h, List.getElem?_toArray, hrow_size _ _ _ hrep.len]
  clear hT hH
  generalize eN : M.length = n at hc0 hlen
  have EN : Hid (M.length = n) := eN
  clear eN
  have hat := atOf_val n
  obtain ⟨ha1, ha2⟩ := atOf_le n
  generalize eA : atOf n = A at hat ha1 ha2
  have EA : Hid (atOf n = A) := eA
  clear eA
  go_enter Tryd.func81, Tryd.ntmps81
  go_wp2
  go_loopw [20] (fun i wr => ∃ k : Nat, k ≤ 8 ∧ i = .int .u64 k ∧ wr.heap[w.heap.size + 1]? = some (.cells (brow 72 ((128 :: List.replicate (A - 1) 0) ++ lenL n k)).toArray 152 (0, 0)) ∧ wr.heap[w.heap.size]? = some (.cells (brow 32 []).toArray 25 (0, 0)) ∧ Below w.heap.size w wr)
    (fun i _ => 8 - (intOf i).toNat)
  case atStart =>
    refine ⟨0, by omega, rfl, ?_, ?_, ?_⟩
    · refine (heap_alloc2_new _ _ _).trans ?_
      rw [zero131, show lenL n 0 = [] from rfl, brow_pad A ha1 ha2]
    · exact heap_alloc2_old _ _ _
    · exact ((Below.refl _ _).alloc (Nat.le_refl _) _).alloc (by simp) _
  case round =>
    obtain ⟨k, hk, rfl, hrow1, hrow0, hb⟩ := hrel
    by_cases hlt : k < 8
    · have hl : ((128 :: List.replicate (A - 1) (0 : UInt8)) ++ lenL n k).length = A + k := by simp [length_lenL]; omega
      have cw : wr.cell? ⟨w.heap.size + 1, A + k, none⟩ = some (ub 0) := by
        rw [cell_of_row wr _ _ _ _ _ hrow1, List.getElem?_toArray, brow_zero _ _ _ (by omega) (by omega)]
      have fw : wr.frozen? ⟨w.heap.size + 1, A + k, none⟩ = false := frozen_of_row wr _ _ _ _ hrow1
      have HS : Hid _ := brow_store' (lenB n k) (A + k) hl.symm hrow1 (by omega)
      clear hl
      go_wp2
      rw [lenB_val]
      refine ⟨⟨k + 1, by omega, by go_num, ?_, (heap_setCell_other _ _ _ _ (by simp)).trans hrow0, hb.setCell (by simp) _⟩, by simp [intOf]; omega⟩
      rw [lenL, ← List.append_assoc]
      exact HS.out
    · have hk8 : k = 8 := by omega
      rw [hk8] at hrow1
      have hge : decide ((k : Int) < 8) = false := by simp; omega
      have hP : (128 :: List.replicate (A - 1) (0 : UInt8)) ++ lenL n 8 = padL n := by rw [padL, EA.out]
      rw [hP] at hrow1
      have hpl := length_padL n
      rw [EA.out] at hpl
      have hsl := slice_tail (w.heap.size + 1) A (by omega)
      have hbs : w.heap.size + 1 < wr.heap.size := (Array.getElem?_eq_some_iff.1 hrow1).1
      have hTr : Tab wr := fun j hj => (hb.cell (p := ⟨1, j, none⟩) (by simp; omega)).trans (HT.out j hj)
      have hHr : HasherIs wr g M := by
        obtain ⟨s, blk, h, hrep⟩ := HH.out
        exact ⟨s, blk, (hb.block g hgw).trans h, hrep⟩
      have hW := write_any g M (padL n) (some ⟨w.heap.size + 1, 0, none⟩) 72 wr hg1 hTr hHr (by rw [EN.out, hpl]; omega) (by omega)
        (fun _ => ⟨w.heap.size + 1, 0, rfl, by omega, hbs, fun j hj => by
          rw [cell_of_row wr _ _ _ _ _ hrow1, List.getElem?_toArray, Nat.zero_add, brow, List.getElem?_append_left (by simpa using hj), List.getElem?_map, List.getElem?_eq_getElem hj]
          simp [hj]⟩)
      rw [hpl] at hW
      clear hk8 hP hlt hk hTr hHr
      go_wp2_with fail
      refine hW.mono ?_
      rintro e w2 ⟨rfl, ⟨s, blk, hrow2, hrep⟩, hG2⟩
      have hrow0' : w2.heap[w.heap.size]? = some (.cells (brow 32 []).toArray 25 (0, 0)) := (hG2.block w.heap.size (by omega) (by simp; omega)).trans hrow0
      have hgw2 : g < w2.heap.size := (Array.getElem?_eq_some_iff.1 hrow2).1
      have HG2 : Hid _ := hG2
      clear hG2
      go_wp2_with fail
      refine (told_any g 122 s blk _ w2 hrow2).mono ?_
      rintro e w3 ⟨rfl, hG3⟩
      have hs2 : w.heap.size < w2.heap.size := by have := HG2.out.size; omega
      have hrow3 : w3.heap[w.heap.size]? = some (.cells (brow 32 []).toArray 25 (0, 0)) := (hG3.block w.heap.size hs2 (by simp)).trans hrow0'
      have hl : (toldL s).length = 32 := rfl
      have HI : Hid ((Tryd.prog.info? 25).map (·.size) = some ((toldL s).map ub).toArray.size) := info25 _ (by simp [hl])
      have HO : Hid ((brow 32 []).toArray.size = ((toldL s).map ub).toArray.size) := by
        show _ = _
        rw [List.size_toArray, List.size_toArray, length_brow _ _ (by simp)]; simp [hl]
      have HN : Hid (((toldL s).map ub).toArray.all (·.oneCell') = true) := by
        show _ = _
        rw [← brow_full _ _ hl]; exact brow_one _ _
      clear hl
      go_wp2_with (refine wpList_store_row rfl 25 _ _ rfl w.heap.size _ rfl rfl 25 _ hrow3 HI.out HO.out HN.out ?_)
      refine bodyPost_ret (v := .agg ((toldL s).map ub).toArray) (results_cell_row Tryd.results81 _ _ w.heap.size 25 _ (0, 0) _ rfl (setRow_heap w3 _ _ _ 25 _ hrow3) Tryd.underlying25 rfl HI.out) rfl ⟨s, blk, hrep, rfl, ?_⟩
      have h2 := HG2.out
      exact ⟨hG3.os.trans (h2.os.trans hb.os), hG3.tape.trans (h2.tape.trans hb.tape), hG3.output.trans (h2.output.trans hb.output),
        by have a := hb.size; have b := h2.size; have c := hG3.size; rw [size_setRow]; omega,
        fun j hj hne => by
          have a := hb.size
          have b := h2.size
          rw [setRow_other w3 _ j _ (by omega), hG3.block j (by omega) (by simp), h2.block j (by omega) hne, hb.block j hj]⟩
end Go.Proofs.YtjgmmdgcknnlpaaDoor
