/-
  tree.climb's contract.
-/
import Derived.Test.YtplhlhjakapaaaaDoorTake
namespace Go.Proofs.YtplhlhjakapaaaaDoor
open Go Go.RowKit

/-- Where a path (its last hash first) leads from leaf i of n. -/
def upR : List (List UInt8) → Nat → Nat → List UInt8 → Option (List UInt8)
  | [], _, n, leaf => if n = 1 then some leaf else none
  | s :: rest, i, n, leaf => if n = 1 then none else
    if i < spl n then (upR rest i (spl n) leaf).map fun l => sha (nodeL 1 l s) else (upR rest (i - spl n) (n - spl n) leaf).map fun r => sha (nodeL 1 s r)

set_option maxHeartbeats 4000000 in
set_option maxRecDepth 100000 in
/-- A list of one leaf. -/
theorem climb_one (rs : List (List UInt8)) (i : Nat) (leaf : List UInt8) (v : Value) (w : World) (hl : leaf.length = 32) (hv : SumsIs w v rs.reverse) (hr : rs.length < 1000000000) (n : Nat) (hn : n = 1) :
    Calls Tryd.prog 94 #[.agg (leaf.map ub).toArray, .int .i64 (i : Int), .int .i64 (n : Int), v] w fun e w' => e = .returned (.tuple #[.agg (leaf.map ub).toArray, .bool rs.isEmpty]) ∧ w.grownBy w' none := by
  obtain ⟨HI, HO, HN⟩ := sum25 leaf hl
  obtain ⟨_, sp, cap, rfl, _, _⟩ := hv
  clear hl
  rw [List.length_reverse]
  have hb : decide ((rs.length : Int) = 0) = rs.isEmpty := by cases rs <;> simp <;> omega
  have HB : Hid (decide ((rs.length : Int) = 0) = rs.isEmpty) := hb
  clear hb
  generalize eR : (leaf.map ub).toArray = R at *
  have d1 : ((n : Int) == 1) = true := by simp; omega
  clear hn
  go_enter Tryd.func94, Tryd.ntmps94
  go_wp2_with (first | refine wpList_load_row rfl 25 _ rfl w.heap.size rfl 25 _ (0, 0) _ (heap_alloc2_old _ _ _) Tryd.underlying25 rfl HI.out ?_ | refine wpList_store_row rfl 25 _ _ rfl (w.heap.size + 1) _ rfl rfl 25 _ (heap_alloc2_new _ _ _) HI.out HO.out HN.out ?_)
  have hGF := gr_row (gr_trans (gr_alloc w (Obj.cells R 25)) (gr_alloc _ (Obj.cells (brow 32 []).toArray 25))) (w.heap.size + 1) R (by omega)
  refine bodyPost_ret (results_ct Tryd.results94 _ _ (w.heap.size + 1) 25 _ (0, 0) _ _ rfl rfl (setRow_heap _ _ _ _ 25 _ (heap_alloc2_new _ _ _)) Tryd.underlying25 rfl HI.out) rfl ⟨?_, hGF⟩
  rw [← HB.out]
  rfl

set_option maxHeartbeats 4000000 in
set_option maxRecDepth 100000 in
/-- No path, and more than one leaf. -/
theorem climb_none (i n : Nat) (leaf : List UInt8) (v : Value) (w : World) (hv : SumsIs w v []) (hn : n ≠ 1) :
    Calls Tryd.prog 94 #[.agg (leaf.map ub).toArray, .int .i64 (i : Int), .int .i64 (n : Int), v] w fun e w' => e = .returned (.tuple #[.agg ((List.replicate 32 (0 : UInt8)).map ub).toArray, .bool false]) ∧ w.grownBy w' none := by
  obtain ⟨HI, HO, HN⟩ := sum25 (List.replicate 32 0) rfl
  have d1 : ((n : Int) == 1) = false := by simp; omega
  have HV : Hid (SumsIs w v []) := hv
  obtain ⟨_, sp, cap, rfl, _, _⟩ := hv
  clear hn
  generalize eR : (leaf.map ub).toArray = R at *
  go_enter Tryd.func94, Tryd.ntmps94
  go_wp2_with fail
  have hA := gr_trans (gr_alloc w (Obj.cells R 25)) (gr_alloc _ (Obj.cells (brow 32 []).toArray 25))
  have hB : ((w.alloc (Obj.cells R 25)).alloc (Obj.cells (brow 32 []).toArray 25)).heap[w.heap.size + 1]? = some (.cells (brow 32 []).toArray 25 (0, 0)) := heap_alloc2_new _ _ _
  refine (take_none _ _ (HV.out.gr hA)).mono ?_
  rintro e w1 ⟨rfl, hG1⟩
  have hG01 := gr_trans hA hG1
  have hB1 : w1.heap[w.heap.size + 1]? = some (.cells (brow 32 []).toArray 25 (0, 0)) := (hG1.block _ (by simp) (by simp)).trans hB
  clear hA hB hG1 HV
  go_wp2_with (first | (refine store_new rfl 25 _ _ rfl ((List.replicate 32 (0 : UInt8)).map ub).toArray _ _ rfl rfl HI.out HO.out HN.out ?_; intro W2 hW2 hs2 hG2; have hB2 := (hG2.block _ (Array.getElem?_eq_some_iff.1 hB1).1 (by simp)).trans hB1) | refine wpList_store_row rfl 25 _ _ rfl (w.heap.size + 1) ((List.replicate 32 (0 : UInt8)).map ub).toArray rfl rfl 25 _ hB2 HI.out HO.out HN.out ?_)
  refine bodyPost_ret (results_ct Tryd.results94 _ _ (w.heap.size + 1) 25 _ (0, 0) _ _ rfl rfl (setRow_heap _ _ _ _ 25 _ hB2) Tryd.underlying25 rfl HI.out) rfl ⟨rfl, gr_row (gr_trans hG01 hG2) _ _ (by omega)⟩


set_option maxHeartbeats 4000000 in
set_option maxRecDepth 100000 in
theorem climb_any (rs : List (List UInt8)) : ∀ (i n : Nat) (leaf : List UInt8) (v : Value) (w : World), leaf.length = 32 → i < n → n < 9223372036854775808 → 1 < w.heap.size → Tab w → SumsIs w v rs.reverse → rs.length < 1000000000 →
    Calls Tryd.prog 94 #[.agg (leaf.map ub).toArray, .int .i64 (i : Int), .int .i64 (n : Int), v] w fun e w' => ∃ top, top.length = 32 ∧ e = .returned (.tuple #[.agg (top.map ub).toArray, .bool (upR rs i n leaf).isSome]) ∧ (∀ t, upR rs i n leaf = some t → top = t) ∧ w.grownBy w' none := by
  induction rs with
  | nil =>
    intro i n leaf v w hl hi hn hw hT hv _
    by_cases h1 : n = 1
    · refine (climb_one [] i leaf v w hl hv (by simp) n h1).mono ?_
      rintro e w' ⟨rfl, hG⟩
      exact ⟨leaf, hl, by simp [upR, h1], by simp [upR, h1], hG⟩
    · refine (climb_none i n leaf v w hv h1).mono ?_
      rintro e w' ⟨rfl, hG⟩
      have hu : upR [] i n leaf = none := by simp [upR, h1]
      exact ⟨List.replicate 32 0, rfl, by rw [hu]; rfl, by rw [hu]; simp, hG⟩
  | cons s rest ih =>
    intro i n leaf v w hl hi hn hw hT hv hr
    by_cases h1 : n = 1
    · refine (climb_one (s :: rest) i leaf v w hl hv hr n h1).mono ?_
      rintro e w' ⟨rfl, hG⟩
      exact ⟨leaf, hl, by simp [upR, h1], by simp [upR, h1], hG⟩
    have hs : s.length = 32 := hv.1 s (by simp)
    have d1 : ((n : Int) == 1) = false := by simp; omega
    have hn2 : 2 ≤ n := by omega
    obtain ⟨ha, hb, _, _⟩ := spl_spec n hn2 hn
    have hk1 := spl_pos n
    rw [List.reverse_cons] at hv
    rw [List.length_cons] at hr
    have HV : Hid (SumsIs w v (rest.reverse ++ [s])) := hv
    have HIH : Hid _ := ih
    have HT : Hid (Tab w) := hT
    obtain ⟨_, sp, cap, rfl, _, _⟩ := hv
    clear hT ih
    simp only [List.length_append, List.length_reverse, List.length_singleton] at HV ⊢
    obtain ⟨HIl, HOl, HNl⟩ := sum25 leaf hl
    generalize eR : (leaf.map ub).toArray = R at *
    go_enter Tryd.func94, Tryd.ntmps94
    go_wp2_with fail
    have hA := gr_trans (gr_alloc w (Obj.cells R 25)) (gr_alloc _ (Obj.cells (brow 32 []).toArray 25))
    have hL0 : ((w.alloc (Obj.cells R 25)).alloc (Obj.cells (brow 32 []).toArray 25)).heap[w.heap.size]? = some (.cells R 25 (0, 0)) := heap_alloc2_old _ _ _
    have hB0 : ((w.alloc (Obj.cells R 25)).alloc (Obj.cells (brow 32 []).toArray 25)).heap[w.heap.size + 1]? = some (.cells (brow 32 []).toArray 25 (0, 0)) := heap_alloc2_new _ _ _
    refine (take_some rest.reverse s (.slice sp (rest.length + 1) cap) _ (HV.out.gr hA) (by rw [List.length_reverse]; omega)).mono ?_
    rintro e w1 ⟨v', rfl, hv', hG1⟩
    have HV' : Hid (SumsIs w1 v' rest.reverse) := hv'
    have hG01 := gr_trans hA hG1
    have hL1 : w1.heap[w.heap.size]? = some (.cells R 25 (0, 0)) := (hG1.block _ (by simp; omega) (by simp)).trans hL0
    have hB1 : w1.heap[w.heap.size + 1]? = some (.cells (brow 32 []).toArray 25 (0, 0)) := (hG1.block _ (by simp) (by simp)).trans hB0
    obtain ⟨HI, HO, HN⟩ := sum25 s hs
    obtain ⟨_, sp', cap', rfl, _, _⟩ := hv'
    clear hA hL0 hB0 hG1 HV
    generalize eS : (s.map ub).toArray = S at *
    go_wp2_with (first | (refine store_new rfl 25 _ _ rfl S _ _ rfl rfl HI.out HO.out HN.out ?_; intro W2 hW2 hs2 hG2))
    refine (tsplit_any n W2 hn2 hn).mono ?_
    rintro e w' ⟨rfl, hww⟩
    rw [hww]; clear hww w'
    have hL2 : W2.heap[w.heap.size]? = some (.cells R 25 (0, 0)) := (hG2.block _ (Array.getElem?_eq_some_iff.1 hL1).1 (by simp)).trans hL1
    have hB2 : W2.heap[w.heap.size + 1]? = some (.cells (brow 32 []).toArray 25 (0, 0)) := (hG2.block _ (Array.getElem?_eq_some_iff.1 hB1).1 (by simp)).trans hB1
    have hG02 := gr_trans hG01 hG2
    have HV2 : Hid (SumsIs W2 (.slice sp' rest.length cap') rest.reverse) := by
      have := SumsIs.gr HV'.out hG2
      rwa [List.length_reverse] at this
    have HUP : Hid (upR (s :: rest) i n leaf = if i < spl n then (upR rest i (spl n) leaf).map (fun l => sha (nodeL 1 l s)) else (upR rest (i - spl n) (n - spl n) leaf).map fun r => sha (nodeL 1 s r)) := by
      show _ = _
      rw [upR, if_neg h1]
    have hOx : w1.heap.size < W2.heap.size := by omega
    have hO1 : w.heap.size + 2 ≤ w1.heap.size := by have := (Array.getElem?_eq_some_iff.1 hB1).1; omega
    clear hL1 hB1 hG01 hG2 HV' hs2 h1 HIl HOl HNl hn2 HI HO HN
    generalize hOs : w1.heap.size = O at *
    generalize hk : spl n = k at *
    by_cases hik : i < k
    · have d2 : decide ((i : Int) < (k : Int)) = true := by simp; omega
      rw [if_pos hik] at HUP
      go_wp2_with (first | refine wpList_load_row rfl 25 _ rfl w.heap.size rfl 25 _ (0, 0) _ hL2 Tryd.underlying25 rfl (info25' eR hl) ?_)
      have hT2 : Tab W2 := HT.out.gr hG02 hw
      have hih := HIH.out i k leaf (.slice sp' rest.length cap') W2 hl hik (by omega) (by omega) hT2 HV2.out (by omega)
      rw [eR] at hih
      clear hT2
      refine hih.mono ?_
      rintro e w3 ⟨top, htl, rfl, htop, hG3⟩
      clear hih
      obtain ⟨HI, HO, HN⟩ := sum25 top htl
      have hW3 : w3.heap[O]? = some (.cells S 25 (0, 0)) := (hG3.block _ hOx (by simp)).trans hW2
      have hB3 : w3.heap[w.heap.size + 1]? = some (.cells (brow 32 []).toArray 25 (0, 0)) := (hG3.block _ (by omega) (by simp)).trans hB2
      have hG03 := gr_trans hG02 hG3
      have hs3 : O < w3.heap.size := by have := hG3.size; omega
      have HTOP : Hid _ := htop
      clear hW2 hB2 hL2 hG02 hG3 HV2 HIH htop hOx
      generalize eT : (top.map ub).toArray = T at *
      generalize eok : (upR rest i k leaf).isSome = okk at *
      go_wp2_with (first | (refine store_new rfl 25 _ _ rfl T _ _ rfl rfl HI.out HO.out HN.out ?_; intro W4 hW4 hs4 hG4; have hW3' := (hG4.block _ hs3 (by simp)).trans hW3) | refine wpList_load_row rfl 25 _ rfl w3.heap.size rfl 25 _ (0, 0) _ hW4 Tryd.underlying25 rfl HI.out ?_ | refine wpList_load_row rfl 25 _ rfl O rfl 25 _ (0, 0) _ hW3' Tryd.underlying25 rfl (info25' eS hs) ?_)
      have hG04 := gr_trans hG03 hG4
      have hnd := tnode_any top s W4 (by have := hG04.size; omega) (HT.out.gr hG04 hw) htl hs
      rw [eT, eS] at hnd
      refine hnd.mono ?_
      rintro e w5 ⟨rfl, hG5⟩
      have hG05 := gr_trans hG04 hG5
      have hB5 : w5.heap[w.heap.size + 1]? = some (.cells (brow 32 []).toArray 25 (0, 0)) := (hG5.block _ (by omega) (by simp)).trans ((hG4.block _ (by omega) (by simp)).trans hB3)
      clear hnd hW3 hW3' hW4 hB3 hG03 hG04 hG4 hG5 HI HO HN
      obtain ⟨HI, HO, HN⟩ := sum25 _ (length_sha (nodeL 1 top s))
      go_wp2_with (refine wpList_store_row rfl 25 _ _ rfl (w.heap.size + 1) _ rfl rfl 25 _ hB5 HI.out HO.out HN.out ?_)
      refine bodyPost_ret (results_ct Tryd.results94 _ _ (w.heap.size + 1) 25 _ (0, 0) _ _ rfl rfl (setRow_heap _ _ _ _ 25 _ hB5) Tryd.underlying25 rfl HI.out) rfl ⟨_, length_sha (nodeL 1 top s), ?_, ?_, gr_row hG05 _ _ (by omega)⟩
      · rw [HUP.out, Option.isSome_map, eok]; rfl
      · intro t ht
        rw [HUP.out] at ht
        obtain ⟨t', h1, rfl⟩ := Option.map_eq_some_iff.1 ht
        rw [HTOP.out t' h1]
    · have d2 : decide ((i : Int) < (k : Int)) = false := by simp; omega
      rw [if_neg hik] at HUP
      go_wp2_with (first | refine wpList_load_row rfl 25 _ rfl w.heap.size rfl 25 _ (0, 0) _ hL2 Tryd.underlying25 rfl (info25' eR hl) ?_)
      have hT2 : Tab W2 := HT.out.gr hG02 hw
      have hih := HIH.out (i - k) (n - k) leaf (.slice sp' rest.length cap') W2 hl (by omega) (by omega) (by omega) hT2 HV2.out (by omega)
      have ei : ((i - k : Nat) : Int) = (i : Int) - (k : Int) := by omega
      have en : ((n - k : Nat) : Int) = (n : Int) - (k : Int) := by omega
      rw [eR, ei, en] at hih
      clear ei en
      clear hT2
      refine hih.mono ?_
      rintro e w3 ⟨top, htl, rfl, htop, hG3⟩
      clear hih
      obtain ⟨HI, HO, HN⟩ := sum25 top htl
      have hW3 : w3.heap[O]? = some (.cells S 25 (0, 0)) := (hG3.block _ hOx (by simp)).trans hW2
      have hB3 : w3.heap[w.heap.size + 1]? = some (.cells (brow 32 []).toArray 25 (0, 0)) := (hG3.block _ (by omega) (by simp)).trans hB2
      have hG03 := gr_trans hG02 hG3
      have hs3 : O < w3.heap.size := by have := hG3.size; omega
      have HTOP : Hid _ := htop
      clear hW2 hB2 hL2 hG02 hG3 HV2 HIH htop hOx
      generalize eT : (top.map ub).toArray = T at *
      generalize eok : (upR rest (i - k) (n - k) leaf).isSome = okk at *
      go_wp2_with (first | (refine store_new rfl 25 _ _ rfl T _ _ rfl rfl HI.out HO.out HN.out ?_; intro W4 hW4 hs4 hG4; have hW3' := (hG4.block _ hs3 (by simp)).trans hW3) | refine wpList_load_row rfl 25 _ rfl w3.heap.size rfl 25 _ (0, 0) _ hW4 Tryd.underlying25 rfl HI.out ?_ | refine wpList_load_row rfl 25 _ rfl O rfl 25 _ (0, 0) _ hW3' Tryd.underlying25 rfl (info25' eS hs) ?_)
      have hG04 := gr_trans hG03 hG4
      have hnd := tnode_any s top W4 (by have := hG04.size; omega) (HT.out.gr hG04 hw) hs htl
      rw [eS, eT] at hnd
      refine hnd.mono ?_
      rintro e w5 ⟨rfl, hG5⟩
      have hG05 := gr_trans hG04 hG5
      have hB5 : w5.heap[w.heap.size + 1]? = some (.cells (brow 32 []).toArray 25 (0, 0)) := (hG5.block _ (by omega) (by simp)).trans ((hG4.block _ (by omega) (by simp)).trans hB3)
      clear hnd hW3 hW3' hW4 hB3 hG03 hG04 hG4 hG5 HI HO HN
      obtain ⟨HI, HO, HN⟩ := sum25 _ (length_sha (nodeL 1 s top))
      go_wp2_with (refine wpList_store_row rfl 25 _ _ rfl (w.heap.size + 1) _ rfl rfl 25 _ hB5 HI.out HO.out HN.out ?_)
      refine bodyPost_ret (results_ct Tryd.results94 _ _ (w.heap.size + 1) 25 _ (0, 0) _ _ rfl rfl (setRow_heap _ _ _ _ 25 _ hB5) Tryd.underlying25 rfl HI.out) rfl ⟨_, length_sha (nodeL 1 s top), ?_, ?_, gr_row hG05 _ _ (by omega)⟩
      · rw [HUP.out, Option.isSome_map, eok]; rfl
      · intro t ht
        rw [HUP.out] at ht
        obtain ⟨t', h1, rfl⟩ := Option.map_eq_some_iff.1 ht
        rw [HTOP.out t' h1]
end Go.Proofs.YtplhlhjakapaaaaDoor
