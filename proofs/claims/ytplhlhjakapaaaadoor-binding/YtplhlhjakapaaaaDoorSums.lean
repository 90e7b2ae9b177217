/-
  rootskeep's sums.
-/
import Derived.Test.YtplhlhjakapaaaaDoorOwn
import Derived.Test.YtplhlhjakapaaaaDoorMark
namespace Go.Proofs.YtplhlhjakapaaaaDoor
open Go Go.RowKit

theorem mkS_drop (r : List UInt8) (n : Nat) : (mkS r).extract n r.length = mkS (r.drop n) := by
  apply ByteArray.ext
  simp [mkS, ByteArray.data_extract, List.extract_eq_take_drop]
  exact List.take_of_length_le (by simp)

set_option maxHeartbeats 4000000 in
set_option maxRecDepth 100000 in
theorem sums_any (s : List UInt8) (hs : s.length < 1000000) (w : World) :
    Calls Tryd.prog 38 #[.string (mkS s)] w fun e w' => ∃ v ps, e = .returned v ∧ SumsOwn w' w.heap.size v ps ∧ ps.length ≤ s.length ∧ w.grownBy w' none := by
  have hsz := size_mkS
  go_enter Tryd.func38, Tryd.ntmps38
  go_wp2
  go_loopw [0, 3] (fun t o wr => ∃ (r : List UInt8) (ps : List (List UInt8)), t = .string (mkS r) ∧ ps.length + r.length ≤ s.length ∧ SumsOwn wr w.heap.size o ps ∧ w.grownBy wr none)
    (fun t _ _ => match t with | .string b => b.size | _ => 0)
  case atStart => exact ⟨s, [], rfl, by simp, ⟨by simp, fun _ => rfl, rfl, Or.inl ⟨rfl, rfl⟩⟩, gr_refl _⟩
  case round =>
    obtain ⟨r, ps, rfl, hlen, hown, hG⟩ := hrel
    generalize wr = W1 at hown hG ⊢
    by_cases h32 : 32 ≤ r.length
    · have d0 : decide ((r.length : Int) ≥ 32) = true := by simp; omega
      have HOWN : Hid (SumsOwn W1 w.heap.size u3 ps) := hown
      clear hown
      go_wp2
      change Code.wp _ _ _ _ (W1.alloc (Obj.cells (brow 32 []).toArray 25))
      have hB : (W1.alloc (Obj.cells (brow 32 []).toArray 25)).heap[W1.heap.size]? = some (.cells (brow 32 []).toArray 25 (0, 0)) := heap_alloc_new _ _
      have hA := gr_alloc W1 (Obj.cells (brow 32 []).toArray 25)
      generalize W1.alloc (Obj.cells (brow 32 []).toArray 25) = W0 at hB hA ⊢
      rw [brow_z] at hB
      go_loopw [5] (fun i wq => ∃ k : Nat, k ≤ 32 ∧ i = .int .i64 (k : Int) ∧ (∃ xs : List UInt8, xs.length = 32 ∧ wq.heap[W1.heap.size]? = some (.cells (xs.map ub).toArray 25 (0, 0))) ∧ W1.grownBy wq none)
        (fun i _ => 32 - (intOf i).toNat)
      case atStart => exact ⟨0, by omega, rfl, ⟨_, rfl, hB⟩, hA⟩
      case round =>
        clear hB hA
        obtain ⟨k, hk, rfl, ⟨xs, hxs, hB⟩, hA⟩ := hrel
        by_cases hlt : k < 32
        · have d1 : (k : Int) < 32 := by omega
          have hix := index_bytes (mkS r) (k : Int) k rfl (by rw [hsz]; omega)
          generalize (mkS r).data.toList.getD k 0 = y at hix
          have hy : y.toNat < 256 := y.toNat_lt
          go_wp2_with (refine wpList_store5 rfl _ _ rfl W1.heap.size k _ xs rfl rfl (by omega) (by omega) hB (by omega) ?_; intro W3 l3 hl3 hW3 hs3 ho3 hg3)
          exact ⟨⟨k + 1, by omega, by go_num, ⟨l3, by omega, hW3⟩, hg3 W1 hA (Nat.le_refl _)⟩, by simp [intOf]; omega⟩
        · obtain rfl : k = 32 := by omega
          have d1 : decide (((32 : Nat) : Int) < 32) = false := by simp
          obtain ⟨HI, HO, HN⟩ := sum25 xs hxs
          have HOWN2 : Hid (SumsOwn wr w.heap.size u3 ps) := HOWN.out.gr hA
          have hG2 := gr_trans hG hA
          have b0 : (32 : Int) ≤ (r.length : Int) := by omega
          clear hA hG hlt
          go_wp2_with (first | refine wpList_load_row rfl 25 _ rfl W1.heap.size rfl 25 _ (0, 0) _ hB Tryd.underlying25 rfl HI.out ?_ | (refine wpList_append1 w.heap.size ps xs u3 hxs HOWN2.out hG2.size (by omega) rfl rfl _ _ _ rfl rfl rfl rfl rfl (by simp [Act.put]) ?_; intro v' w' hown' hg'))
          have hGF := hg' w hG2 (Nat.le_refl _)
          rw [mkS_drop]
          exact ⟨⟨r.drop 32, ps ++ [xs], rfl, by simp; omega, hown', hGF⟩, by simp only [hsz, List.length_drop]; omega⟩
    · have d0 : decide ((r.length : Int) ≥ 32) = false := by simp; omega
      go_wp2
      go_ret
      exact ⟨_, ps, rfl, hown, by omega, hG⟩
end Go.Proofs.YtplhlhjakapaaaaDoor
