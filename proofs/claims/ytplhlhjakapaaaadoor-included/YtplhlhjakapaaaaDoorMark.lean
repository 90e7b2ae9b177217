/-
  rootslaw's mark.
-/
import Derived.Test.YtplhlhjakapaaaaDoorCa
import Derived.Test.YtplhlhjakapaaaaDoorPick
namespace Go.Proofs.YtplhlhjakapaaaaDoor
open Go Go.RowKit

theorem wpList_alloc25 {ops : Array Oper} {rest : List Oper} {o : Oper} {a : Act} {w : World} {Q : Exit → Act → World → Prop} (hgd : o.guard = none) (ho : o.op = .alloc 25)
    (h : ∀ W : World, W.heap[w.heap.size]? = some (.cells (brow 32 []).toArray 25 (0, 0)) → W.heap.size = w.heap.size + 1 → w.grownBy W none → wpList Tryd.prog ops Q rest (a.put o.dst (.pointer (some ⟨w.heap.size, 0, none⟩))) W) :
    wpList Tryd.prog ops Q (o :: rest) a w :=
  wpList_plain hgd fun _ hK => wp_alloc25 ho (hK _ _ (h _ (heap_alloc_new _ _) (by simp) (gr_alloc _ _)))

theorem wpList_store5 {ops : Array Oper} {rest : List Oper} {o : Oper} {a : Act} {w : World} {Q : Exit → Act → World → Prop} (hgd : o.guard = none) (x y : Operand) (ho : o.op = .store 5 x y) (B j : Nat) (b : Int) (l : List UInt8)
    (hx : a.eval x = .pointer (some ⟨B, j, none⟩)) (hy : a.eval y = .int .u8 b) (hb0 : 0 ≤ b) (hb : b < 256) (hg : w.heap[B]? = some (.cells (l.map ub).toArray 25 (0, 0))) (hj : j < l.length)
    (h : ∀ (W : World) (l' : List UInt8), l'.length = l.length → W.heap[B]? = some (.cells (l'.map ub).toArray 25 (0, 0)) → W.heap.size = w.heap.size → (∀ k, k ≠ B → W.heap[k]? = w.heap[k]?) → (∀ w0 : World, w0.grownBy w none → w0.heap.size ≤ B → w0.grownBy W none) → wpList Tryd.prog ops Q rest (a.put o.dst undef) W) :
    wpList Tryd.prog ops Q (o :: rest) a w := by
  refine wpList_plain hgd fun K hK => ?_
  have c := byte_at hg j hj
  have f : w.frozen? ⟨B, j, none⟩ = false := frozen_of_row w _ _ _ _ hg
  have eb : ub (UInt8.ofNat b.toNat) = .int .u8 b := by
    have : ((UInt8.ofNat b.toNat).toNat : Int) = b := by
      rw [UInt8.toNat_ofNat']; omega
    show Value.int .u8 _ = _
    rw [this]
  have hW : (w.setCell ⟨B, j, none⟩ (.int .u8 b)).heap[B]? = some (.cells ((l.set j (UInt8.ofNat b.toNat)).map ub).toArray 25 (0, 0)) := by
    rw [heap_setCell_same w B j _ 25 _ hg, ← eb]
    simp [List.map_set]
  have h' := hK _ _ (h (w.setCell ⟨B, j, none⟩ (.int .u8 b)) (l.set j (UInt8.ofNat b.toNat)) (by simp) hW (by simp) (fun k hk => heap_setCell_other _ _ _ _ (by simpa using hk)) (fun w0 hG hB => gr_at hG hB j _))
  unfold Oper.wp execOp
  simp only [ho, hx, hy]
  clear hK h hW eb
  go_simp
  exact h'

set_option maxHeartbeats 1000000 in
set_option maxRecDepth 100000 in
theorem mark_any (c : Int) (w : World) :
    Calls Tryd.prog 29 #[.int .i64 c] w fun e w' => ∃ s : List UInt8, s.length = 32 ∧ e = .returned (.agg (s.map ub).toArray) ∧ w.grownBy w' none := by
  have b1 : 0 ≤ c % 256 := by omega
  have b2 : c % 256 < 256 := by omega
  have b3 : 0 ≤ c / 256 % 256 := by omega
  have b4 : c / 256 % 256 < 256 := by omega
  go_enter Tryd.func29, Tryd.ntmps29
  refine wp_seq (wp_region_lit (wpList_alloc25 rfl rfl fun W1 hW1 hs1 hG1 => ?_))
  change Code.wp _ _ _ _ _
  refine wp_seq (wp_region_lit (wpList_alloc25 rfl rfl fun W2 hW2 hs2 hG2 => ?_))
  change Code.wp _ _ _ _ _
  simp only [Act.put, List.setIfInBounds_toArray, List.set_cons_zero, List.set_cons_succ]
  have hR2 : W2.heap[w.heap.size]? = some (.cells (brow 32 []).toArray 25 (0, 0)) := (hG2.block _ (by omega) (by simp)).trans hW1
  have hG02 := gr_trans hG1 hG2
  rw [brow_z] at hW2
  have hl0 : (List.replicate 32 (0 : UInt8)).length = 32 := rfl
  generalize List.replicate 32 (0 : UInt8) = l0 at hW2 hl0
  clear hW1 hG2 hG1
  generalize W1.heap.size = B at *
  have hB : w.heap.size < B := by omega
  clear hs1 hs2
  go_wp2_with (first | (refine wpList_store5 rfl _ _ rfl B 0 _ l0 rfl rfl (by omega) (by omega) hW2 (by omega) ?_; intro W3 l3 hl3 hW3 hs3 ho3 hg3) | (refine wpList_store5 rfl _ _ rfl B 1 _ l3 rfl rfl (by omega) (by omega) hW3 (by omega) ?_; intro W4 l4 hl4 hW4 hs4 ho4 hg4) | (refine wpList_store5 rfl _ _ rfl B 2 _ l4 rfl rfl (by omega) (by omega) hW4 (by omega) ?_; intro W5 l5 hl5 hW5 hs5 ho5 hg5; have hR5 := (ho5 _ (Nat.ne_of_lt hB)).trans ((ho4 _ (Nat.ne_of_lt hB)).trans ((ho3 _ (Nat.ne_of_lt hB)).trans hR2)); obtain ⟨HI, HO, HN⟩ := sum25 l5 (by omega)) | refine wpList_load_row rfl 25 _ rfl B rfl 25 _ (0, 0) _ hW5 Tryd.underlying25 rfl HI.out ?_ | refine wpList_store_row rfl 25 _ _ rfl w.heap.size (l5.map ub).toArray rfl rfl 25 _ hR5 HI.out HO.out HN.out ?_)
  have hG05 := hg5 w (hg4 w (hg3 w hG02 (by omega)) (by omega)) (by omega)
  exact bodyPost_ret (results_cell_row Tryd.results29 _ _ w.heap.size 25 _ (0, 0) _ rfl (setRow_heap _ _ _ _ 25 _ hR5) Tryd.underlying25 rfl HI.out) rfl ⟨l5, by omega, rfl, gr_row hG05 _ _ (Nat.le_refl _)⟩
end Go.Proofs.YtplhlhjakapaaaaDoor
