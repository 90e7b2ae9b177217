import Derived.Test.YtjgmmdgcknnlpaaDoorRot
import Derived.RegionTactic
import Derived.ChangeAlike
import Derived.BigRegion
import Derived.Deep.QuietTactic
import Derived.BigQuiet
import Derived.Outline
import Derived.Laws.Rows
import Derived.Laws.Tables
namespace Go.Proofs.YtjgmmdgcknnlpaaDoor
open Go Go.RowKit

def hrow (s : Eight) (blk : List UInt8) (n : Int) : List Value := s.list.map uw ++ (blk.map ub ++ [.int .u64 n])
def wrow (l : List (BitVec 32)) : List Value := l.map uw ++ List.replicate (64 - l.length) (uw 0)

theorem hrow_byte (s : Eight) (blk : List UInt8) (n : Int) (j : Nat) (hj : j < blk.length) : (hrow s blk n)[8 + j]? = some (ub (blk.getD j 0)) := by
  have h8 : (s.list.map uw).length = 8 := by simp [Eight.list]
  rw [hrow, List.getElem?_append_right (by omega), h8, show 8 + j - 8 = j by omega, List.getElem?_append_left (by simpa using hj), List.getElem?_map, List.getElem?_eq_getElem hj]
  simp [hj]

theorem cell_byte {w : World} {g : Nat} {t : TypeId} {s : Eight} {blk : List UInt8} {n : Int} (hg : w.heap[g]? = some (.cells (hrow s blk n).toArray t (0, 0))) (j : Nat) (hj : j < blk.length) :
    w.cell? ⟨g, 8 + j, none⟩ = some (ub (blk.getD j 0)) := by
  rw [cell_of_row w g _ _ t _ hg, List.getElem?_toArray, hrow_byte _ _ _ _ hj]

theorem byte_word (b : UInt8) : (b.toNat : Int) % 4294967296 = ((BitVec.ofNat 32 b.toNat).toNat : Int) := by
  rw [BitVec.toNat_ofNat]; have := b.toNat_lt; omega
theorem shl_num (x : BitVec 32) (n : Nat) (q : Int) (hq : q = 2 ^ n) : (x.toNat : Int) * q % 4294967296 = ((x <<< n).toNat : Int) := by
  subst hq; rw [← IntKind.wrap_u32', bv_shl]
theorem word_bits (b0 b1 b2 b3 : UInt8) :
    bits BinOp.or IntKind.u32 (bits BinOp.or IntKind.u32 (bits BinOp.or IntKind.u32 ((b0.toNat : Int) % 4294967296 * 16777216 % 4294967296) ((b1.toNat : Int) % 4294967296 * 65536 % 4294967296)) ((b2.toNat : Int) % 4294967296 * 256 % 4294967296)) ((b3.toNat : Int) % 4294967296) = ((wordOf b0 b1 b2 b3).toNat : Int) := by
  rw [byte_word, byte_word, byte_word, byte_word, shl_num _ 24 _ (by decide), shl_num _ 16 _ (by decide), shl_num _ 8 _ (by decide), bv_or, bv_or, bv_or, wordOf]
theorem shr_num (x : BitVec 32) (n : Nat) (q : Int) (hq : q = 2 ^ n) : (x.toNat : Int) / q = ((x >>> n).toNat : Int) := by
  subst hq; exact bv_shr x n
theorem sum4 (a b c d : BitVec 32) : ((a.toNat : Int) + b.toNat + c.toNat + d.toNat) % 4294967296 = ((((a + b) + c) + d).toNat : Int) := by
  simp only [BitVec.toNat_add]; omega
theorem sm0_bits (x : BitVec 32) : bits BinOp.xor IntKind.u32 (bits BinOp.xor IntKind.u32 ((rr 7 x).toNat : Int) ((rr 18 x).toNat : Int)) ((x.toNat : Int) / 8) = ((sm0 x).toNat : Int) := by
  rw [shr_num x 3 8 (by decide), bv_xor, bv_xor, sm0]
theorem sm1_bits (x : BitVec 32) : bits BinOp.xor IntKind.u32 (bits BinOp.xor IntKind.u32 ((rr 17 x).toNat : Int) ((rr 19 x).toNat : Int)) ((x.toNat : Int) / 1024) = ((sm1 x).toNat : Int) := by
  rw [shr_num x 10 1024 (by decide), bv_xor, bv_xor, sm1]
theorem length_wrow (l : List (BitVec 32)) (h : l.length ≤ 64) : (wrow l).length = 64 := by simp [wrow]; omega
theorem wrow_set (l : List (BitVec 32)) (x : BitVec 32) (h : l.length < 64) : (wrow l).set l.length (uw x) = wrow (l ++ [x]) := by
  have e : 64 - l.length = (64 - (l.length + 1)) + 1 := by omega
  simp only [wrow, List.map_append, List.length_append, List.length_singleton, e, List.replicate_succ, List.map_cons, List.map_nil]
  rw [List.set_append_right _ _ (by simp)]
  simp
theorem wrow_at (l : List (BitVec 32)) (j : Nat) (h : j < l.length) : (wrow l)[j]? = some (uw (l.getD j 0)) := by
  simp [wrow, List.getElem?_append, h]
theorem wrow_zero (l : List (BitVec 32)) (h : l.length < 64) : (wrow l)[l.length]? = some (uw 0) := by
  rw [wrow, List.getElem?_append_right (by simp), List.length_map, Nat.sub_self, List.getElem?_replicate, if_pos (by omega)]
theorem row_store {w : World} {g : Nat} {t : TypeId} {l : List (BitVec 32)} (x : BitVec 32) (hg : w.heap[g]? = some (.cells (wrow l).toArray t (0, 0))) (h : l.length < 64) :
    (w.setCell ⟨g, l.length, none⟩ (uw x)).heap[g]? = some (.cells (wrow (l ++ [x])).toArray t (0, 0)) := by
  rw [heap_setCell_same _ _ _ _ _ _ hg, List.setIfInBounds_toArray, wrow_set _ _ h]

theorem info166 (c : List Value) (h : c.length = 64) : (Tryd.prog.info? 199).map (·.size) = some c.toArray.size := by
  rw [List.size_toArray, h]; kernel_rfl
theorem wrow_one (l : List (BitVec 32)) : (wrow l).toArray.all (·.oneCell') = true := by
  rw [Array.all_eq_true_iff_forall_mem]
  intro v hv
  simp only [wrow, List.mem_toArray, List.mem_append, List.mem_map, List.mem_replicate] at hv
  rcases hv with ⟨x, _, rfl⟩ | ⟨_, rfl⟩ <;> rfl
theorem wrow_full (l : List (BitVec 32)) (h : l.length = 64) : wrow l = l.map uw := by simp [wrow, h]
theorem al102 : Tryd.prog.arrayLen 120 = 64 := by simp [Program.arrayLen, Tryd.underlying120]
theorem slice_block (g k : Nat) (hlt : k < 16) (W : World) :
    (Instr.sliceAt 120 (.pointer (some ⟨g, 8, none⟩)) (some (.int .i64 (4 * (k : Int)))) (some (.int .i64 (4 * (k : Int) + 4))) none).run Tryd.prog W = .ok (.slice (some ⟨g, 8 + 4 * k, none⟩) 4 (64 - 4 * k)) W := by
  rw [run_sliceAt_array_lh W 120 ⟨g, 8, none⟩ (by simp [Program.arrayLen, Program.elem, Tryd.underlying120]) .i64 .i64 _ _ (by omega) (by omega) (by rw [al102]; omega), al102]
  have h1 : ((4 : Int) * (k : Int)).toNat = 4 * k := by omega
  have h2 : ((4 : Int) * (k : Int) + 4).toNat = 4 * k + 4 := by omega
  have h3 : ¬ 64 = 4 * k := by omega
  rw [h1, h2]
  have h4 : 4 * k + 4 - 4 * k = 4 := by omega
  simp [go_sem, Program.elem, Tryd.underlying120, h3, h4, Addr.add]

set_option maxRecDepth 100000 in
theorem words_any (g : Nat) (t : TypeId) (s : Eight) (blk : List UInt8) (n : Int) (hblk : blk.length = 64) (w : World)
    (hg : w.heap[g]? = some (.cells (hrow s blk n).toArray t (0, 0))) :
    Calls Tryd.prog 134 #[.pointer (some ⟨g, 0, none⟩)] w fun e w' => e = .returned (.agg ((allW blk).map uw).toArray) ∧ w.grownBy w' none := by
  have hgs : g < w.heap.size := (Array.getElem?_eq_some_iff.1 hg).1
  go_enter Tryd.func134, Tryd.ntmps134
  go_wp2
  go_loopw [9] (fun i wr => ∃ k : Nat, k ≤ 16 ∧ i = .int .i64 k ∧ wr.heap[w.heap.size + 1]? = some (.cells (wrow (headW blk k)).toArray 199 (0, 0)) ∧ wr.heap[w.heap.size]? = some (.cells (wrow []).toArray 199 (0, 0)) ∧ Below w.heap.size w wr)
    (fun i _ => 16 - (intOf i).toNat)
  case atStart =>
    refine ⟨0, by omega, rfl, ?_, ?_, ?_⟩
    · exact heap_alloc2_new _ _ _
    · exact heap_alloc2_old _ _ _
    · exact ((Below.refl _ _).alloc (Nat.le_refl _) _).alloc (by simp) _
  case round =>
    obtain ⟨k, hk, rfl, hrow1, hrow0, hb⟩ := hrel
    by_cases hlt : k < 16
    · have hgr : wr.heap[g]? = some (.cells (hrow s blk n).toArray t (0, 0)) := (hb.block g hgs).trans hg
      have c0 : wr.cell? ⟨g, 8 + 4 * k, none⟩ = some (ub (blk.getD (4 * k) 0)) := cell_byte hgr (4 * k) (by omega)
      have c1 : wr.cell? ⟨g, 8 + 4 * k + 1, none⟩ = some (ub (blk.getD (4 * k + 1) 0)) := cell_byte hgr (4 * k + 1) (by omega)
      have c2 : wr.cell? ⟨g, 8 + 4 * k + 2, none⟩ = some (ub (blk.getD (4 * k + 2) 0)) := cell_byte hgr (4 * k + 2) (by omega)
      have c3 : wr.cell? ⟨g, 8 + 4 * k + 3, none⟩ = some (ub (blk.getD (4 * k + 3) 0)) := cell_byte hgr (4 * k + 3) (by omega)
      have cw : wr.cell? ⟨w.heap.size + 1, k, none⟩ = some (uw 0) := by
        rw [cell_of_row wr _ _ _ _ _ hrow1, List.getElem?_toArray]
        have := wrow_zero (headW blk k) (by rw [length_headW]; omega)
        rwa [length_headW] at this
      have fw : wr.frozen? ⟨w.heap.size + 1, k, none⟩ = false := frozen_of_row wr _ _ _ _ hrow1
      generalize e0 : blk.getD (4 * k) 0 = b0 at c0
      have E0 : Hid (blk.getD (4 * k) 0 = b0) := e0
      clear e0
      generalize e1 : blk.getD (4 * k + 1) 0 = b1 at c1
      have E1 : Hid (blk.getD (4 * k + 1) 0 = b1) := e1
      clear e1
      generalize e2 : blk.getD (4 * k + 2) 0 = b2 at c2
      have E2 : Hid (blk.getD (4 * k + 2) 0 = b2) := e2
      clear e2
      generalize e3 : blk.getD (4 * k + 3) 0 = b3 at c3
      have E3 : Hid (blk.getD (4 * k + 3) 0 = b3) := e3
      clear e3
      clear hgr
      have hsl := slice_block g k hlt
      go_wp2
      go_region
      have hw1 : wordOf b0 b1 b2 b3 = wordOf (blk.getD (4 * k) 0) (blk.getD (4 * k + 1) 0) (blk.getD (4 * k + 2) 0) (blk.getD (4 * k + 3) 0) := by rw [E0.out, E1.out, E2.out, E3.out]
      rw [word_bits, hw1]
      clear hw1
      have hS := row_store (wordOf (blk.getD (4 * k) 0) (blk.getD (4 * k + 1) 0) (blk.getD (4 * k + 2) 0) (blk.getD (4 * k + 3) 0)) hrow1 (by rw [length_headW]; omega)
      rw [length_headW] at hS
      go_wp2
      go_roundw
      case rel => exact ⟨k + 1, by omega, by go_num, hS, (heap_setCell_other _ _ _ _ (by simp)).trans hrow0, (hb.setCell (by simp) _).drew⟩
      case measure => simp [intOf]; omega
    · have hk16 : k = 16 := by omega
      rw [hk16] at hrow1
      clear hk16
      have hge : (decide ((k : Int) < 16)) = false := by simp; omega
      go_wp2
      go_loopw [6] (fun i wq => ∃ k : Nat, 16 ≤ k ∧ k ≤ 64 ∧ i = .int .i64 (k : Int) ∧ wq.heap[w.heap.size + 1]? = some (.cells (wrow (growW (headW blk 16) (k - 16))).toArray 199 (0, 0)) ∧ wq.heap[w.heap.size]? = some (.cells (wrow []).toArray 199 (0, 0)) ∧ Below w.heap.size w wq)
        (fun i _ => 64 - (intOf i).toNat)
      case atStart => exact ⟨16, by omega, by omega, rfl, hrow1, hrow0, hb⟩
      case round =>
        clear hrow1 hrow0 hb hlt hk hge
        obtain ⟨k, hk1, hk, rfl, hrow1, hrow0, hb⟩ := hrel
        by_cases hlt : k < 64
        · have hl := length_growW (headW blk 16) (k - 16)
          rw [length_headW] at hl
          generalize hL : growW (headW blk 16) (k - 16) = L at hrow1 hl
          have HL : Hid (growW (headW blk 16) (k - 16) = L) := hL
          clear hL
          have HLk : Hid (L.length = k) := (by omega : L.length = k)
          have cc : ∀ d : Nat, 0 < d → d ≤ 16 → wr.cell? ⟨w.heap.size + 1, k - d, none⟩ = some (uw (L.getD (L.length - d) 0)) := fun d h0 h1 => by
            rw [cell_of_row wr _ _ _ _ _ hrow1, List.getElem?_toArray, wrow_at _ _ (by have := HLk.out; omega), HLk.out]
          clear hl
          have c15 := cc 15 (by omega) (by omega)
          have c2 := cc 2 (by omega) (by omega)
          have c16 := cc 16 (by omega) (by omega)
          have c7 := cc 7 (by omega) (by omega)
          clear cc
          have t15 : ((k : Int) - 15).toNat = k - 15 := by omega
          have t2 : ((k : Int) - 2).toNat = k - 2 := by omega
          have t16 : ((k : Int) - 16).toNat = k - 16 := by omega
          have t7 : ((k : Int) - 7).toNat = k - 7 := by omega
          generalize e15 : L.getD (L.length - 15) 0 = x15 at c15
          generalize e2 : L.getD (L.length - 2) 0 = x2 at c2
          generalize e16 : L.getD (L.length - 16) 0 = x16 at c16
          generalize e7 : L.getD (L.length - 7) 0 = x7 at c7
          have E15 : Hid (L.getD (L.length - 15) 0 = x15) := e15
          have E2 : Hid (L.getD (L.length - 2) 0 = x2) := e2
          have E16 : Hid (L.getD (L.length - 16) 0 = x16) := e16
          have E7 : Hid (L.getD (L.length - 7) 0 = x7) := e7
          clear e15 e2 e16 e7
          have b15 : (15 : Int) ≤ (k : Int) := by omega
          have d15 : (k : Int) - 15 < 64 := by omega
          have d2 : (k : Int) - 2 < 64 := by omega
          go_wp2
          go_quiet (fail)
          have fw : wr.frozen? ⟨w.heap.size + 1, k, none⟩ = false := frozen_of_row wr _ _ _ _ hrow1
          have cw : wr.cell? ⟨w.heap.size + 1, k, none⟩ = some (uw 0) := by
            rw [cell_of_row wr _ _ _ _ _ hrow1, List.getElem?_toArray]
            have := wrow_zero L (by rw [HLk.out]; omega)
            rwa [HLk.out] at this
          have d16 : (k : Int) - 16 < 64 := by omega
          have d7 : (k : Int) - 7 < 64 := by omega
          have d0 : (k : Int) < 64 := by omega
          go_wp2_with fail
          refine (rot7 x15 _).mono ?_
          rintro e w' ⟨rfl, rfl⟩
          go_wp2_with fail
          refine (rot18 x15 _).mono ?_
          rintro e w' ⟨rfl, rfl⟩
          go_wp2_with fail
          refine (rot17 x2 _).mono ?_
          rintro e w' ⟨rfl, rfl⟩
          go_wp2_with fail
          refine (rot19 x2 _).mono ?_
          rintro e w' ⟨rfl, rfl⟩
          go_wp2_with fail
          go_region
          rw [sm0_bits, sm1_bits, sum4]
          have hS := row_store (w := wr.drewN (nq + 1)) (nextW L) hrow1 (by rw [HLk.out]; omega)
          rw [HLk.out] at hS
          have hN : x16 + sm0 x15 + x7 + sm1 x2 = nextW L := by rw [nextW, E15.out, E2.out, E16.out, E7.out]
          rw [hN]
          have hG : growW (headW blk 16) (k + 1 - 16) = L ++ [nextW L] := by
            rw [show k + 1 - 16 = (k - 16) + 1 by omega, growW, HL.out]
          have HG : Hid (growW (headW blk 16) (k + 1 - 16) = L ++ [nextW L]) := hG
          clear hG hN
          go_wp2
          go_roundw
          case rel => exact ⟨k + 1, by omega, by omega, by go_num, by rw [HG.out]; exact hS, (heap_setCell_other _ _ _ _ (by simp)).trans hrow0, ⟨hb.os, hb.tape, hb.output, by simpa using hb.size, fun j hj => (heap_setCell_other _ _ _ _ (by simp; omega)).trans (hb.block j hj)⟩⟩
          case measure => simp [intOf]; omega
        · have hk64 : k = 64 := by omega
          subst hk64
          clear hlt hk hk1
          have hA : growW (headW blk 16) (64 - 16) = allW blk := rfl
          rw [hA] at hrow1
          clear hA
          have hl := length_allW blk
          have i1 := info166 (wrow (allW blk)) (length_wrow _ (by omega))
          have o1 : (wrow []).toArray.size = (wrow (allW blk)).toArray.size := by rw [List.size_toArray, List.size_toArray, length_wrow _ (by simp), length_wrow _ (by omega)]
          have HI : Hid _ := i1
          have HO : Hid _ := o1
          clear i1 o1
          go_wp2_with (first
            | (refine wpList_load_row rfl 199 _ rfl (w.heap.size + 1) rfl 199 _ (0, 0) _ hrow1 Tryd.underlying199 rfl HI.out ?_)
            | (refine wpList_store_row rfl 199 _ _ rfl w.heap.size _ rfl rfl 199 _ hrow0 HI.out HO.out (wrow_one _) ?_))
          refine bodyPost_ret (v := .agg (wrow (allW blk)).toArray) (results_cell_row Tryd.results134 _ _ w.heap.size 199 _ (0, 0) _ rfl (setRow_heap wr _ _ _ 199 _ hrow0) Tryd.underlying199 rfl HI.out) rfl ⟨by rw [wrow_full _ hl], ?_⟩
          exact ⟨hb.os, hb.tape, hb.output, by rw [size_setRow]; exact hb.size, fun j hj _ => (setRow_other wr _ j _ (by omega)).trans (hb.block j hj)⟩
end Go.Proofs.YtjgmmdgcknnlpaaDoor
