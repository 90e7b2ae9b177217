/-
  tree.extend's small cases.
-/
import Derived.Test.YtplhlhjakapaaaaDoorPair
namespace Go.Proofs.YtplhlhjakapaaaaDoor
open Go Go.RowKit

/-- Where hashes (the last first) lead from the first m of n leaves: their root, and that of all. -/
def extR : List (List UInt8) → Nat → Nat → List UInt8 → Bool → Option (List UInt8 × List UInt8)
  | [], m, n, a, known => if m = n ∧ known = true then some (a, a) else none
  | s :: rest, m, n, a, known => if m = n then (if known = true then none else if rest = [] then some (s, s) else none) else
    if m ≤ spl n then (extR rest m (spl n) a known).map (fun p => (p.1, sha (nodeL 1 p.2 s))) else (extR rest (m - spl n) (n - spl n) a false).map fun p => (sha (nodeL 1 s p.1), sha (nodeL 1 s p.2))

set_option maxHeartbeats 4000000 in
set_option maxRecDepth 100000 in
theorem ext_known (rs : List (List UInt8)) (n : Nat) (a : List UInt8) (v : Value) (w : World) (hl : a.length = 32) (hv : SumsIs w v rs.reverse) (hr : rs.length < 1000000000) :
    Calls Tryd.prog 96 #[.int .i64 (n : Int), .int .i64 (n : Int), v, .agg (a.map ub).toArray, .bool true] w fun e w' => e = .returned (.tuple #[.agg (pairC a a), .bool rs.isEmpty]) ∧ w.grownBy w' none := by
  obtain ⟨HI, HO, HN⟩ := sum25 a hl
  obtain ⟨HI2, HO2, HN2⟩ := sum126 a a hl hl
  have HB2 : Hid _ := built_pair a a hl hl
  obtain ⟨_, sp, cap, rfl, _, _⟩ := hv
  clear hl
  rw [List.length_reverse]
  have hb : decide ((rs.length : Int) = 0) = rs.isEmpty := by cases rs <;> simp <;> omega
  have HB : Hid (decide ((rs.length : Int) = 0) = rs.isEmpty) := hb
  clear hb
  generalize eP : pairC a a = P at *
  generalize eR : (a.map ub).toArray = R at *
  go_enter Tryd.func96, Tryd.ntmps96
  go_wp2_with (first | refine wpList_load_row rfl 25 _ rfl w.heap.size rfl 25 _ (0, 0) _ (heap_alloc2_old _ _ _) Tryd.underlying25 rfl HI.out ?_ | refine wpList_pair rfl _ _ rfl _ _ rfl rfl P HB2.out ?_ | refine wpList_store_row rfl 144 _ _ rfl (w.heap.size + 1) P rfl rfl 144 _ (heap_alloc2_new _ _ _) HI2.out HO2.out HN2.out ?_)
  have hGF := gr_row (gr_trans (gr_alloc w (Obj.cells R 25)) (gr_alloc _ (Obj.cells (brow 64 []).toArray 144))) (w.heap.size + 1) P (by omega)
  refine bodyPost_ret (results_ct Tryd.results96 _ _ (w.heap.size + 1) 144 _ (0, 0) _ _ rfl rfl (setRow_heap _ _ _ _ 144 _ (heap_alloc2_new _ _ _)) Tryd.underlying144 rfl HI2.out) rfl ⟨?_, hGF⟩
  rw [← HB.out]
  rfl

set_option maxHeartbeats 4000000 in
set_option maxRecDepth 100000 in
theorem ext_nil (m n : Nat) (a : List UInt8) (known : Bool) (v : Value) (w : World) (hv : SumsIs w v []) (hmn : m ≠ n ∨ known = false) :
    Calls Tryd.prog 96 #[.int .i64 (m : Int), .int .i64 (n : Int), v, .agg (a.map ub).toArray, .bool known] w fun e w' => e = .returned (.tuple #[.agg (pairC z32 z32), .bool false]) ∧ w.grownBy w' none := by
  obtain ⟨HI, HO, HN⟩ := sum25 z32 rfl
  obtain ⟨HI2, HO2, HN2⟩ := sum126 z32 z32 rfl rfl
  have HB2 : Hid _ := built_zero
  have HV : Hid (SumsIs w v []) := hv
  obtain ⟨_, sp, cap, rfl, _, _⟩ := hv
  generalize eP : pairC z32 z32 = P at *
  generalize eR : (a.map ub).toArray = R at *
  have key : ∀ W : World, w.grownBy W none → W.heap[w.heap.size + 1]? = some (.cells (brow 64 []).toArray 144 (0, 0)) → Calls Tryd.prog 128 #[.slice sp ([] : List (List UInt8)).length cap] W fun e w1 => e = .returned (.tuple #[.slice none 0 0, .agg (z32.map ub).toArray, .bool false]) ∧ w.grownBy w1 none ∧ w1.heap[w.heap.size + 1]? = some (.cells (brow 64 []).toArray 144 (0, 0)) := fun W hA hB =>
    (take_none _ W (HV.out.gr hA)).mono (by
      rintro e w1 ⟨rfl, hG1⟩
      exact ⟨rfl, gr_trans hA hG1, (hG1.block _ (Array.getElem?_eq_some_iff.1 hB).1 (by simp)).trans hB⟩)
  have HKEY : Hid _ := key
  clear key HV
  have hA := gr_trans (gr_alloc w (Obj.cells R 25)) (gr_alloc _ (Obj.cells (brow 64 []).toArray 144))
  have hB : ((w.alloc (Obj.cells R 25)).alloc (Obj.cells (brow 64 []).toArray 144)).heap[w.heap.size + 1]? = some (.cells (brow 64 []).toArray 144 (0, 0)) := heap_alloc2_new _ _ _
  have HK2 := HKEY.out _ hA hB
  clear HKEY hA hB
  go_enter Tryd.func96, Tryd.ntmps96
  by_cases hm : m = n
  · subst hm
    obtain rfl : known = false := by simpa using hmn
    go_wp2_with fail
    refine HK2.mono ?_
    rintro e w1 ⟨rfl, hG1, hB1⟩
    clear HK2
    go_wp2_with (first | (refine store_new rfl 25 _ _ rfl (z32.map ub).toArray _ _ rfl rfl HI.out HO.out HN.out ?_; intro W2 hW2 hs2 hG2; have hB2 := (hG2.block _ (Array.getElem?_eq_some_iff.1 hB1).1 (by simp)).trans hB1) | refine wpList_pair0 rfl rfl P HB2.out ?_ | refine wpList_store_row rfl 144 _ _ rfl (w.heap.size + 1) P rfl rfl 144 _ hB2 HI2.out HO2.out HN2.out ?_)
    exact bodyPost_ret (results_ct Tryd.results96 _ _ (w.heap.size + 1) 144 _ (0, 0) _ _ rfl rfl (setRow_heap _ _ _ _ 144 _ hB2) Tryd.underlying144 rfl HI2.out) rfl ⟨rfl, gr_row (gr_trans hG1 hG2) _ _ (by omega)⟩
  · have d1 : ((m : Int) == (n : Int)) = false := by rw [beq_eq_false_iff_ne]; omega
    have d1' : (m == n) = false := by rw [beq_eq_false_iff_ne]; omega
    clear hmn hm
    go_wp2_with fail
    refine HK2.mono ?_
    rintro e w1 ⟨rfl, hG1, hB1⟩
    clear HK2
    go_wp2_with (first | (refine store_new rfl 25 _ _ rfl (z32.map ub).toArray _ _ rfl rfl HI.out HO.out HN.out ?_; intro W2 hW2 hs2 hG2; have hB2 := (hG2.block _ (Array.getElem?_eq_some_iff.1 hB1).1 (by simp)).trans hB1) | refine wpList_pair0 rfl rfl P HB2.out ?_ | refine wpList_store_row rfl 144 _ _ rfl (w.heap.size + 1) P rfl rfl 144 _ hB2 HI2.out HO2.out HN2.out ?_)
    exact bodyPost_ret (results_ct Tryd.results96 _ _ (w.heap.size + 1) 144 _ (0, 0) _ _ rfl rfl (setRow_heap _ _ _ _ 144 _ hB2) Tryd.underlying144 rfl HI2.out) rfl ⟨rfl, gr_row (gr_trans hG1 hG2) _ _ (by omega)⟩

set_option maxHeartbeats 4000000 in
set_option maxRecDepth 100000 in
theorem ext_last (s : List UInt8) (rest : List (List UInt8)) (n : Nat) (a : List UInt8) (v : Value) (w : World) (hv : SumsIs w v (rest.reverse ++ [s])) (hr : rest.length < 1000000000) :
    Calls Tryd.prog 96 #[.int .i64 (n : Int), .int .i64 (n : Int), v, .agg (a.map ub).toArray, .bool false] w fun e w' => e = .returned (.tuple #[.agg (pairC s s), .bool rest.isEmpty]) ∧ w.grownBy w' none := by
  have hs : s.length = 32 := hv.1 s (by simp)
  obtain ⟨HI, HO, HN⟩ := sum25 s hs
  obtain ⟨HI2, HO2, HN2⟩ := sum126 s s hs hs
  have HB2 : Hid _ := built_pair s s hs hs
  have HV : Hid (SumsIs w v (rest.reverse ++ [s])) := hv
  obtain ⟨_, sp, cap, rfl, _, _⟩ := hv
  simp only [List.length_append, List.length_reverse, List.length_singleton] at HV ⊢
  have hb : decide ((rest.length : Int) = 0) = rest.isEmpty := by cases rest <;> simp <;> omega
  have HB : Hid (decide ((rest.length : Int) = 0) = rest.isEmpty) := hb
  clear hb
  generalize eP : pairC s s = P at *
  generalize eR : (a.map ub).toArray = R at *
  go_enter Tryd.func96, Tryd.ntmps96
  go_wp2_with fail
  have hA := gr_trans (gr_alloc w (Obj.cells R 25)) (gr_alloc _ (Obj.cells (brow 64 []).toArray 144))
  have hB0 : ((w.alloc (Obj.cells R 25)).alloc (Obj.cells (brow 64 []).toArray 144)).heap[w.heap.size + 1]? = some (.cells (brow 64 []).toArray 144 (0, 0)) := heap_alloc2_new _ _ _
  refine (take_some rest.reverse s (.slice sp (rest.length + 1) cap) ((w.alloc (Obj.cells R 25)).alloc (Obj.cells (brow 64 []).toArray 144)) (HV.out.gr hA) (by rw [List.length_reverse]; omega)).mono ?_
  rintro e w1 ⟨v', rfl, hv', hG1⟩
  obtain ⟨_, sp', cap', rfl, _, _⟩ := hv'
  rw [List.length_reverse]
  have hG01 := gr_trans hA hG1
  have hB1 : w1.heap[w.heap.size + 1]? = some (.cells (brow 64 []).toArray 144 (0, 0)) := (hG1.block _ (by simp) (by simp)).trans hB0
  clear hA hB0 hG1 HV
  generalize eS : (s.map ub).toArray = S at *
  go_wp2_with (first | (refine store_new rfl 25 _ _ rfl S _ _ rfl rfl HI.out HO.out HN.out ?_; intro W2 hW2 hs2 hG2; have hB2 := (hG2.block _ (Array.getElem?_eq_some_iff.1 hB1).1 (by simp)).trans hB1) | refine wpList_load_row rfl 25 _ rfl w1.heap.size rfl 25 _ (0, 0) _ hW2 Tryd.underlying25 rfl HI.out ?_ | refine wpList_pair rfl _ _ rfl _ _ rfl rfl P HB2.out ?_ | refine wpList_store_row rfl 144 _ _ rfl (w.heap.size + 1) P rfl rfl 144 _ hB2 HI2.out HO2.out HN2.out ?_)
  refine bodyPost_ret (results_ct Tryd.results96 _ _ (w.heap.size + 1) 144 _ (0, 0) _ _ rfl rfl (setRow_heap _ _ _ _ 144 _ hB2) Tryd.underlying144 rfl HI2.out) rfl ⟨?_, gr_row (gr_trans hG01 hG2) _ _ (by omega)⟩
  rw [← HB.out]
  rfl
end Go.Proofs.YtplhlhjakapaaaaDoor
