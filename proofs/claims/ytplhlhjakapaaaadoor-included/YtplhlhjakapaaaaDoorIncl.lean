/-
  tree.Included's contract.
-/
import Derived.Test.YtplhlhjakapaaaaDoorGuard
import Derived.Test.YtplhlhjakapaaaaDoorClimb
namespace Go.Proofs.YtplhlhjakapaaaaDoor
open Go Go.RowKit

/-- Is a path (its last hash first) taken from leaf i of n to the root? -/
def inclB (rs : List (List UInt8)) (i n : Int) (leaf root : List UInt8) : Bool := decide (0 ≤ i ∧ i < n) && (upR rs i.toNat n.toNat leaf == some root)

set_option maxHeartbeats 4000000 in
set_option maxRecDepth 100000 in
theorem tincl_any (ps : List (List UInt8)) (i n : Int) (leaf root : List UInt8) (v : Value) (w : World) (hl : leaf.length = 32) (hr : root.length = 32) (hn : n < 9223372036854775808) (hw : 1 < w.heap.size) (hT : Tab w) (hv : SumsIs w v ps) (hp : ps.length < 1000000000) :
    Calls Tryd.prog 65 #[.agg (leaf.map ub).toArray, .int .i64 i, .int .i64 n, v, .agg (root.map ub).toArray] w fun e w' => e = .returned (.bool (inclB ps.reverse i n leaf root)) ∧ w.grownBy w' none := by
  have HIl := info25' (R := (leaf.map ub).toArray) rfl hl
  have HIr := info25' (R := (root.map ub).toArray) rfl hr
  have HIl' : Hid _ := HIl
  have HIr' : Hid _ := HIr
  have HV : Hid (SumsIs w v ps) := hv
  have HT : Hid (Tab w) := hT
  clear hv hT HIl HIr
  by_cases h0 : i < 0
  · have e0 : inclB ps.reverse i n leaf root = false := by unfold inclB; rw [decide_eq_false (by omega)]; rfl
    have d0 : decide (i < 0) = true := by simp; omega
    rw [e0]; clear e0
    generalize eL : (leaf.map ub).toArray = L at *
    generalize eT : (root.map ub).toArray = T at *
    go_enter Tryd.func65, Tryd.ntmps65
    go_wp2
    go_ret
    exact ⟨rfl, gr_trans (gr_alloc w (Obj.cells L 25)) (gr_alloc _ (Obj.cells T 25))⟩
  have d0 : decide (i < 0) = false := by simp; omega
  by_cases h1 : n ≤ i
  · have e0 : inclB ps.reverse i n leaf root = false := by unfold inclB; rw [decide_eq_false (by omega)]; rfl
    have d1 : decide (i ≥ n) = true := by simp; omega
    rw [e0]; clear e0
    generalize eL : (leaf.map ub).toArray = L at *
    generalize eT : (root.map ub).toArray = T at *
    go_enter Tryd.func65, Tryd.ntmps65
    go_wp2
    go_ret
    exact ⟨rfl, gr_trans (gr_alloc w (Obj.cells L 25)) (gr_alloc _ (Obj.cells T 25))⟩
  have d1 : decide (i ≥ n) = false := by simp; omega
  have e0 : inclB ps.reverse i n leaf root = (upR ps.reverse i.toNat n.toNat leaf == some root) := by unfold inclB; rw [decide_eq_true (by omega), Bool.true_and]
  rw [e0]; clear e0
  obtain ⟨k, hk⟩ : ∃ k : Nat, i = (k : Int) := ⟨i.toNat, by omega⟩
  obtain ⟨m, hm⟩ : ∃ m : Nat, n = (m : Int) := ⟨n.toNat, by omega⟩
  subst hk; subst hm
  rw [Int.toNat_natCast, Int.toNat_natCast]
  have hkm : k < m := by omega
  have hm63 : m < 9223372036854775808 := by omega
  clear h0 h1 hn
  have HC : Hid (∀ (V : World), 1 < V.heap.size → Tab V → SumsIs V v ps → Calls Tryd.prog 94 #[.agg (leaf.map ub).toArray, .int .i64 (k : Int), .int .i64 (m : Int), v] V fun e w' => ∃ top, top.length = 32 ∧ e = .returned (.tuple #[.agg (top.map ub).toArray, .bool (upR ps.reverse k m leaf).isSome]) ∧ (∀ t, upR ps.reverse k m leaf = some t → top = t) ∧ V.grownBy w' none) :=
    fun V h1 h2 h3 => climb_any ps.reverse k m leaf v V hl hkm hm63 h1 h2 (by rwa [List.reverse_reverse]) (by simpa using hp)
  have d2 : decide (m ≤ k) = false := by simp; omega
  clear hkm hm63 hp
  generalize eL : (leaf.map ub).toArray = L at *
  generalize eT : (root.map ub).toArray = T at *
  go_enter Tryd.func65, Tryd.ntmps65
  go_wp2_with (refine wpList_load_row rfl 25 _ rfl w.heap.size rfl 25 _ (0, 0) _ (heap_alloc2_old _ _ _) Tryd.underlying25 rfl HIl'.out ?_)
  have hA := gr_trans (gr_alloc w (Obj.cells L 25)) (gr_alloc _ (Obj.cells T 25))
  have hB0 : ((w.alloc (Obj.cells L 25)).alloc (Obj.cells T 25)).heap[w.heap.size + 1]? = some (.cells T 25 (0, 0)) := heap_alloc2_new _ _ _
  refine (HC.out _ (by have := hA.size; omega) (HT.out.gr hA hw) (HV.out.gr hA)).mono ?_
  rintro e w3 ⟨top, htl, rfl, htop, hG3⟩
  have hG03 := gr_trans hA hG3
  have hB3 : w3.heap[w.heap.size + 1]? = some (.cells T 25 (0, 0)) := (hG3.block _ (by simp) (by simp)).trans hB0
  have HTOP : Hid _ := htop
  have hs3 : w.heap.size + 1 < w3.heap.size := (Array.getElem?_eq_some_iff.1 hB3).1
  clear hA hB0 HC HV HT hG3 htop
  obtain ⟨HI, HO, HN⟩ := sum25 top htl
  have HEU : Hid ((top.map ub).toArray = (top.map ub).toArray) := rfl
  cases hu : upR ps.reverse k m leaf with
  | none =>
    clear HEU
    generalize eU : (top.map ub).toArray = U at *
    simp only [Option.isSome_none]
    go_wp2_with (first | (refine store_new rfl 25 _ _ rfl U _ _ rfl rfl HI.out HO.out HN.out ?_; intro W4 hW4 hs4 hG4))
    go_ret
    exact ⟨by rw [hu]; rfl, gr_trans hG03 hG4⟩
  | some u =>
    obtain rfl : top = u := HTOP.out u hu
    clear HTOP HEU
    generalize eU : (top.map ub).toArray = U at *
    simp only [Option.isSome_some]
    go_wp2_with (first | (refine store_new rfl 25 _ _ rfl U _ _ rfl rfl HI.out HO.out HN.out ?_; intro W4 hW4 hs4 hG4; have hB4 := (hG4.block _ hs3 (by simp)).trans hB3) | refine wpList_load_g (by rfl) 25 _ rfl w3.heap.size rfl 25 _ (0, 0) _ hW4 Tryd.underlying25 rfl HI.out ?_ | refine wpList_load_g (by rfl) 25 _ rfl (w.heap.size + 1) rfl 25 _ (0, 0) _ hB4 Tryd.underlying25 rfl HIr'.out ?_ | refine wpList_eq25 (by rfl) _ _ _ rfl top root U T eU eT htl hr rfl rfl ?_)
    go_ret
    exact ⟨by rw [hu]; rfl, gr_trans hG03 hG4⟩
end Go.Proofs.YtplhlhjakapaaaaDoor
