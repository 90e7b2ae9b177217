/-
  rootsref's Included.
-/
import Derived.Test.YtplhlhjakapaaaaDoorUp
import Derived.Test.YtplhlhjakapaaaaDoorIncl
namespace Go.Proofs.YtplhlhjakapaaaaDoor
open Go Go.RowKit

set_option maxHeartbeats 4000000 in
set_option maxRecDepth 100000 in
theorem rincl_any (H : Nat) (bs : List UInt8) (ps : List (List UInt8)) (i n : Int) (root : List UInt8) (v : Value) (w : World) (hr : root.length = 32) (hn : n < 9223372036854775808) (hH : RefAt w H) (hHs : H < w.heap.size) (hb : bs.length < 999999999) (hv : SumsIs w v ps) (hp : ps.length < 1000000000) :
    Calls Tryd.prog 31 #[.pointer (some ⟨H, 0, none⟩), .string (mkS bs), .int .i64 i, .int .i64 n, v, .agg (root.map ub).toArray] w fun e w' => e = .returned (.bool (inclB ps.reverse i n (sha (0 :: bs)) root)) ∧ w.grownBy w' none := by
  have HIr := info25' (R := (root.map ub).toArray) rfl hr
  have HIr' : Hid _ := HIr
  have HV : Hid (SumsIs w v ps) := hv
  have HH : Hid (RefAt w H) := hH
  clear hv hH HIr
  by_cases h0 : i < 0
  · have e0 : inclB ps.reverse i n (sha (0 :: bs)) root = false := by unfold inclB; rw [decide_eq_false (by omega)]; rfl
    have d0 : decide (i < 0) = true := by simp; omega
    rw [e0]; clear e0
    generalize eT : (root.map ub).toArray = T at *
    go_enter Tryd.func31, Tryd.ntmps31
    go_wp2
    go_ret
    exact ⟨rfl, gr_alloc w (Obj.cells T 25)⟩
  have d0 : decide (i < 0) = false := by simp; omega
  by_cases h1 : n ≤ i
  · have e0 : inclB ps.reverse i n (sha (0 :: bs)) root = false := by unfold inclB; rw [decide_eq_false (by omega)]; rfl
    have d1 : decide (i ≥ n) = true := by simp; omega
    rw [e0]; clear e0
    generalize eT : (root.map ub).toArray = T at *
    go_enter Tryd.func31, Tryd.ntmps31
    go_wp2
    go_ret
    exact ⟨rfl, gr_alloc w (Obj.cells T 25)⟩
  have d1 : decide (i ≥ n) = false := by simp; omega
  have e0 : inclB ps.reverse i n (sha (0 :: bs)) root = (upR ps.reverse i.toNat n.toNat (sha (0 :: bs)) == some root) := by unfold inclB; rw [decide_eq_true (by omega), Bool.true_and]
  rw [e0]; clear e0
  obtain ⟨k, hk⟩ : ∃ k : Nat, i = (k : Int) := ⟨i.toNat, by omega⟩
  obtain ⟨m, hm⟩ : ∃ m : Nat, n = (m : Int) := ⟨n.toNat, by omega⟩
  subst hk; subst hm
  rw [Int.toNat_natCast, Int.toNat_natCast]
  have hkm : k < m := by omega
  have hm63 : m < 9223372036854775808 := by omega
  clear h0 h1 hn
  have HC : Hid (∀ (V : World), RefAt V H → H < V.heap.size → SumsIs V v ps → Calls Tryd.prog 67 #[.pointer (some ⟨H, 0, none⟩), .agg ((sha (0 :: bs)).map ub).toArray, .int .i64 (k : Int), .int .i64 (m : Int), v] V fun e w' => ∃ top, top.length = 32 ∧ e = .returned (.tuple #[.agg (top.map ub).toArray, .bool (upR ps.reverse k m (sha (0 :: bs))).isSome]) ∧ (∀ t, upR ps.reverse k m (sha (0 :: bs)) = some t → top = t) ∧ V.grownBy w' none) :=
    fun V h1 h2 h3 => up_any H ps.reverse k m _ v V (length_sha _) hkm hm63 h1 h2 (by rwa [List.reverse_reverse]) (by simpa using hp)
  have d2 : decide (m ≤ k) = false := by simp; omega
  clear hkm hm63 hp
  generalize eT : (root.map ub).toArray = T at *
  have h00 : (⟨#[0]⟩ : ByteArray) = mkS [0] := rfl
  have hcat := mkS_append
  have hsz := size_mkS
  go_enter Tryd.func31, Tryd.ntmps31
  go_wp2_with fail
  have hA := gr_alloc w (Obj.cells T 25)
  have hB0 : (w.alloc (Obj.cells T 25)).heap[w.heap.size]? = some (.cells T 25 (0, 0)) := heap_alloc_new _ _
  refine (of_any H (0 :: bs) (w.alloc (Obj.cells T 25)) (RefAt.gr HH.out hHs hA) (by have := hA.size; omega) (by simp; omega)).mono ?_
  rintro e w1 ⟨rfl, hG1⟩
  have hG01 := gr_trans hA hG1
  have hB1 : w1.heap[w.heap.size]? = some (.cells T 25 (0, 0)) := (hG1.block _ (by simp) (by simp)).trans hB0
  have hs1 : w.heap.size < w1.heap.size := (Array.getElem?_eq_some_iff.1 hB1).1
  obtain ⟨HI1, HO1, HN1⟩ := sum25 _ (length_sha (0 :: bs))
  clear hA hB0 hG1 hcat hsz h00
  generalize eL : ((sha (0 :: bs)).map ub).toArray = L at *
  go_wp2_with (first | (refine store_new rfl 25 _ _ rfl L _ _ rfl rfl HI1.out HO1.out HN1.out ?_; intro W2 hW2 hs2 hG2) | refine wpList_load_row rfl 25 _ rfl w1.heap.size rfl 25 _ (0, 0) _ hW2 Tryd.underlying25 rfl HI1.out ?_)
  have hG02 := gr_trans hG01 hG2
  have hB2 : W2.heap[w.heap.size]? = some (.cells T 25 (0, 0)) := (hG2.block _ hs1 (by simp)).trans hB1
  refine (HC.out W2 (RefAt.gr HH.out hHs hG02) (by have := hG02.size; omega) (HV.out.gr hG02)).mono ?_
  rintro e w3 ⟨top, htl, rfl, htop, hG3⟩
  have hG03 := gr_trans hG02 hG3
  have hB3 : w3.heap[w.heap.size]? = some (.cells T 25 (0, 0)) := (hG3.block _ (by omega) (by simp)).trans hB2
  have HTOP : Hid _ := htop
  have hs3 : w.heap.size < w3.heap.size := (Array.getElem?_eq_some_iff.1 hB3).1
  clear HC HV HH hG3 htop hG02 hG2 hW2 hB2 hB1 hG01 hs1 hs2 HI1 HO1 HN1
  generalize w1.heap.size = B1 at *
  obtain ⟨HI, HO, HN⟩ := sum25 top htl
  have HEU : Hid ((top.map ub).toArray = (top.map ub).toArray) := rfl
  cases hu : upR ps.reverse k m (sha (0 :: bs)) with
  | none =>
    clear HEU
    generalize eU : (top.map ub).toArray = U at *
    simp only [Option.isSome_none]
    go_wp2_with (first | (refine store_new rfl 25 _ _ rfl U _ _ rfl rfl HI.out HO.out HN.out ?_; intro W4 hW4 hs4 hG4))
    go_ret
    exact ⟨by rw [hu]; rfl, gr_trans hG03 hG4⟩
  | some u =>
    obtain rfl : top = u := HTOP.out u hu
    clear HTOP HEU
    generalize eU : (top.map ub).toArray = U at *
    simp only [Option.isSome_some]
    go_wp2_with (first | (refine store_new rfl 25 _ _ rfl U _ _ rfl rfl HI.out HO.out HN.out ?_; intro W4 hW4 hs4 hG4; have hB4 := (hG4.block _ hs3 (by simp)).trans hB3) | refine wpList_load_g (by rfl) 25 _ rfl w3.heap.size rfl 25 _ (0, 0) _ hW4 Tryd.underlying25 rfl HI.out ?_ | refine wpList_load_g (by rfl) 25 _ rfl w.heap.size rfl 25 _ (0, 0) _ hB4 Tryd.underlying25 rfl HIr'.out ?_ | refine wpList_eq25 (by rfl) _ _ _ rfl top root U T eU eT htl hr rfl rfl ?_)
    go_ret
    exact ⟨by rw [hu]; rfl, gr_trans hG03 hG4⟩
end Go.Proofs.YtplhlhjakapaaaaDoor
