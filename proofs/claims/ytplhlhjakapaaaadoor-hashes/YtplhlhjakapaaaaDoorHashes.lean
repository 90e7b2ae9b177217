/-
  rootslaw.Hashes: true of every text.
-/
import Derived.Test.YtplhlhjakapaaaaDoorEqH
namespace Go.Proofs.YtplhlhjakapaaaaDoor
open Go Go.RowKit

set_option maxHeartbeats 2000000 in
set_option maxRecDepth 100000 in
theorem hashes_any (s : ByteArray) (w : World) (hw : 1 < w.heap.size) (hT : Tab w) :
    Calls Tryd.prog 3 #[.string s] w fun e w' => e = .returned (.bool true) ∧ w.grownBy w' none := by
  go_enter Tryd.func3, Tryd.ntmps3
  by_cases h : s.size > 16384
  · have h1 : decide ((s.size : Int) > 16384) = true := by simp; omega
    go_wp2
    go_ret
    exact ⟨rfl, gr_refl _⟩
  · have h1 : decide ((s.size : Int) > 16384) = false := by simp; omega
    have HT : Hid (Tab w) := hT
    clear hT
    go_wp2_with fail
    refine (new_any w).mono ?_
    rintro e w1 ⟨H, rfl, hR, hH, hG1⟩
    have HR : Hid _ := hR
    clear hR
    have hcv : ∀ W : World, (convert 9 27 (.string s)).run Tryd.prog W = .ok (.slice (some ⟨W.heap.size, 0, none⟩) s.size (grownCap W s.size 0 5))
      (W.drew.alloc (.cells (bytesRow s (grownCap W s.size 0 5)) 5 ((bytesRow s (grownCap W s.size 0 5)).size, (bytesRow s (grownCap W s.size 0 5)).size + 1))) := fun W => run_bytes_of_string W 9 27 5 s Tryd.underlying9 Tryd.underlying27 Tryd.underlying5
    go_wp2_with fail
    obtain ⟨sl, hsl⟩ : ∃ sl : List UInt8, s = mkS sl := ⟨s.data.toList, rfl⟩
    have hlen : sl.length ≤ 16384 := by rw [hsl, size_mkS] at h; omega
    generalize hwb : (w1.alloc (Obj.cells (bytesRow s (grownCap w1 s.size 0 5)) 5 ((bytesRow s (grownCap w1 s.size 0 5)).size, (bytesRow s (grownCap w1 s.size 0 5)).size + 1))).drew = wb
    have hGb : w1.grownBy wb none := by rw [← hwb]; exact gr_drew (gr_alloc _ _)
    have hrb : wb.heap[w1.heap.size]? = some (.cells (bytesRow s (grownCap w1 s.size 0 5)) 5 ((bytesRow s (grownCap w1 s.size 0 5)).size, (bytesRow s (grownCap w1 s.size 0 5)).size + 1)) := by
      rw [← hwb]; exact heap_alloc_new _ _
    have hSl : SliceIs wb (.slice (some ⟨w1.heap.size, 0, none⟩) s.size (grownCap w1 s.size 0 5)) sl := by
      refine ⟨some ⟨w1.heap.size, 0, none⟩, grownCap w1 s.size 0 5, by rw [hsl, size_mkS], by rw [← size_mkS, ← hsl]; exact grownCap_ge _ _ _ _, fun _ => ⟨w1.heap.size, 0, rfl, (Array.getElem?_eq_some_iff.1 hrb).1, fun j hj => ?_⟩⟩
      rw [cell_of_row _ _ _ _ _ _ hrb, Nat.zero_add, bytesRow, hsl]
      have hj' : j < (mkS sl).data.size := by show j < sl.toArray.size; simpa using hj
      rw [Array.getElem?_append_left (by simpa using hj')]
      simp [mkS, hj]
    have hG0b : w.grownBy wb none := gr_trans hG1 hGb
    refine (hash_any sl _ wb (by have := hG0b.size; omega) (HT.out.gr hG0b hw) (by omega) hSl).mono ?_
    rintro e w2 ⟨rfl, hG2⟩
    have hG02 : w.grownBy w2 none := gr_trans hG0b hG2
    have hR2 : RefAt w2 H := RefAt.gr HR.out hH (gr_trans hGb hG2)
    have hH2 : H < w2.heap.size := by have := hGb.size; have := hG2.size; omega
    have HR2 : Hid (RefAt w2 H) := hR2
    clear HR hR2 hSl hrb hwb hcv hGb hG2 hG1 hG0b HT hH h1 h
    subst hsl
    have hl := length_sha sl
    have HEQ : ∀ W : World, (binOp .eql 25 (.agg ((sha sl).map ub).toArray) (.agg ((sha sl).map ub).toArray)).run Tryd.prog W = .ok (.bool true) W := fun W => by
      have := run_eq25 W (sha sl) (sha sl) hl hl
      rwa [beq_self_eq_true] at this
    have HI : Hid ((Tryd.prog.info? 25).map (·.size) = some ((sha sl).map ub).toArray.size) := info25 _ (by simp [hl])
    have HZ : Hid ((brow 32 []).toArray.size = ((sha sl).map ub).toArray.size) := by
      show _ = _
      rw [List.size_toArray, List.size_toArray, length_brow _ _ (by simp)]; simp [hl]
    have HN : Hid (((sha sl).map ub).toArray.all (·.oneCell') = true) := by
      show _ = _
      rw [← brow_full _ _ hl]; exact brow_one _ _
    clear hl
    go_wp2_with (refine store_new rfl 25 _ _ rfl _ _ _ rfl rfl HI.out HZ.out HN.out ?_; intro W2 hW2 hs2 hG2)
    refine (of_any H sl W2 (RefAt.gr HR2.out hH2 hG2) (by omega) (by omega)).mono ?_
    rintro e w3 ⟨rfl, hG3⟩
    have hW3 : w3.heap[w2.heap.size]? = some (.cells ((sha sl).map ub).toArray 25 (0, 0)) := (hG3.block _ (by omega) (by simp)).trans hW2
    have hG03 : w.grownBy w3 none := gr_trans hG02 (gr_trans hG2 hG3)
    have hs3 : w2.heap.size < w3.heap.size := by have := hG3.size; omega
    generalize w2.heap.size = A at *
    clear hG02 hG2 hG3 hW2 HR2 hH2 hs2 hlen
    go_wp2_with (first | (refine store_new rfl 25 _ _ rfl _ _ _ rfl rfl HI.out HZ.out HN.out ?_; intro W4 hW4 hs4 hG4; have hA4 := (hG4.block A hs3 (by simp)).trans hW3) | refine wpList_load_row rfl 25 _ rfl A rfl 25 _ (0, 0) _ hA4 Tryd.underlying25 rfl HI.out ?_ | refine wpList_load_row rfl 25 _ rfl w3.heap.size rfl 25 _ (0, 0) _ hW4 Tryd.underlying25 rfl HI.out ?_)
    go_ret
    exact ⟨rfl, gr_trans hG03 hG4⟩
end Go.Proofs.YtplhlhjakapaaaaDoor
