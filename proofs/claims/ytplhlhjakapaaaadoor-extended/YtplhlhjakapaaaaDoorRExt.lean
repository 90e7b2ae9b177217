/-
  rootsref's Extended.
-/
import Derived.Test.YtplhlhjakapaaaaDoorBoth2
import Derived.Test.YtplhlhjakapaaaaDoorExtdM
import Derived.Deep.DeepCutAuto
namespace Go.Proofs.YtplhlhjakapaaaaDoor
open Go Go.RowKit

set_option maxHeartbeats 8000000 in
set_option maxRecDepth 100000 in
theorem rext_neg (H : Nat) (ps : List (List UInt8)) (m n : Int) (a b : List UInt8) (v : Value) (w : World) (h : m < 0 ∨ n < m) :
    Calls Tryd.prog 33 #[.pointer (some ⟨H, 0, none⟩), .int .i64 m, .int .i64 n, v, .agg (a.map ub).toArray, .agg (b.map ub).toArray] w fun e w' => e = .returned (.bool (extB ps.reverse m n a b)) ∧ w.grownBy w' none := by
  have e0 : extB ps.reverse m n a b = false := by unfold extB; rw [if_pos h]
  rw [e0]; clear e0
  generalize eL : (a.map ub).toArray = L at *
  generalize eT : (b.map ub).toArray = T at *
  by_cases h0 : m < 0
  · have d0 : decide (m < 0) = true := by simp; omega
    go_enter Tryd.func33, Tryd.ntmps33
    go_wp2
    go_ret
    exact ⟨rfl, gr_trans (gr_alloc w (Obj.cells L 25)) (gr_alloc _ (Obj.cells T 25))⟩
  · have d0 : decide (m < 0) = false := by simp; omega
    have d1 : decide (m > n) = true := by simp; omega
    go_enter Tryd.func33, Tryd.ntmps33
    go_wp2
    go_ret
    exact ⟨rfl, gr_trans (gr_alloc w (Obj.cells L 25)) (gr_alloc _ (Obj.cells T 25))⟩

set_option maxHeartbeats 8000000 in
set_option maxRecDepth 100000 in
theorem rext_same (H : Nat) (ps : List (List UInt8)) (n : Nat) (a b : List UInt8) (v : Value) (w : World) (hla : a.length = 32) (hlb : b.length = 32) (hv : SumsIs w v ps) (hp : ps.length < 1000000000) :
    Calls Tryd.prog 33 #[.pointer (some ⟨H, 0, none⟩), .int .i64 (n : Int), .int .i64 (n : Int), v, .agg (a.map ub).toArray, .agg (b.map ub).toArray] w fun e w' => e = .returned (.bool (extB ps.reverse n n a b)) ∧ w.grownBy w' none := by
  have e0 : extB ps.reverse n n a b = (ps.reverse.isEmpty && (a == b)) := by unfold extB; rw [if_neg (by omega), if_pos rfl]
  rw [e0]; clear e0
  obtain ⟨HIa, _, _⟩ := sum25 a hla
  obtain ⟨HIb, _, _⟩ := sum25 b hlb
  obtain ⟨_, sp, cap, rfl, _, _⟩ := hv
  have d0 : decide ((n : Int) < 0) = false := by simp
  generalize eL : (a.map ub).toArray = L at *
  generalize eT : (b.map ub).toArray = T at *
  have hA := gr_trans (gr_alloc w (Obj.cells L 25)) (gr_alloc _ (Obj.cells T 25))
  by_cases hn0 : n = 0
  · subst hn0
    cases ps with
    | nil =>
      go_enter Tryd.func33, Tryd.ntmps33
      go_wp2_with (first | refine wpList_load_g (by rfl) 25 _ rfl w.heap.size rfl 25 _ (0, 0) _ (heap_alloc2_old _ _ _) Tryd.underlying25 rfl HIa.out ?_ | refine wpList_load_g (by rfl) 25 _ rfl (w.heap.size + 1) rfl 25 _ (0, 0) _ (heap_alloc2_new _ _ _) Tryd.underlying25 rfl HIb.out ?_ | refine wpList_eq25 (by rfl) _ _ _ rfl a b L T eL eT hla hlb rfl rfl ?_)
      go_ret
      exact ⟨rfl, hA⟩
    | cons s ps =>
      have d1 : (((ps.length + 1 : Nat) : Int) == 0) = false := by rw [beq_eq_false_iff_ne]; omega
      have d1' : ((ps.length : Int) + 1 == 0) = false := by rw [beq_eq_false_iff_ne]; omega
      have e1 : (s :: ps).reverse.isEmpty = false := by simp
      rw [e1]
      simp only [List.length_cons, Bool.false_and]
      go_enter Tryd.func33, Tryd.ntmps33
      go_wp2
      go_ret
      exact ⟨rfl, hA⟩
  · have dz : ((n : Int) == 0) = false := by rw [beq_eq_false_iff_ne]; omega
    have dz' : (n == 0) = false := by rw [beq_eq_false_iff_ne]; omega
    cases ps with
    | nil =>
      go_enter Tryd.func33, Tryd.ntmps33
      go_wp2_with (first | refine wpList_load_g (by rfl) 25 _ rfl w.heap.size rfl 25 _ (0, 0) _ (heap_alloc2_old _ _ _) Tryd.underlying25 rfl HIa.out ?_ | refine wpList_load_g (by rfl) 25 _ rfl (w.heap.size + 1) rfl 25 _ (0, 0) _ (heap_alloc2_new _ _ _) Tryd.underlying25 rfl HIb.out ?_ | refine wpList_eq25 (by rfl) _ _ _ rfl a b L T eL eT hla hlb rfl rfl ?_)
      go_ret
      exact ⟨rfl, hA⟩
    | cons s ps =>
      have d1 : (((ps.length + 1 : Nat) : Int) == 0) = false := by rw [beq_eq_false_iff_ne]; omega
      have d1' : ((ps.length : Int) + 1 == 0) = false := by rw [beq_eq_false_iff_ne]; omega
      have e1 : (s :: ps).reverse.isEmpty = false := by simp
      rw [e1]
      simp only [List.length_cons, Bool.false_and]
      go_enter Tryd.func33, Tryd.ntmps33
      go_wp2
      go_ret
      exact ⟨rfl, hA⟩

set_option maxHeartbeats 8000000 in
set_option maxRecDepth 100000 in
theorem rext_zero (H : Nat) (ps : List (List UInt8)) (n : Int) (h0 : 0 < n) (a b : List UInt8) (v : Value) (w : World) (hla : a.length = 32) (hH : RefAt w H) (hHs : H < w.heap.size) (hv : SumsIs w v ps) (hp : ps.length < 1000000000) :
    Calls Tryd.prog 33 #[.pointer (some ⟨H, 0, none⟩), .int .i64 0, .int .i64 n, v, .agg (a.map ub).toArray, .agg (b.map ub).toArray] w fun e w' => e = .returned (.bool (extB ps.reverse 0 n a b)) ∧ w.grownBy w' none := by
  have e0 : extB ps.reverse 0 n a b = (ps.reverse.isEmpty && (a == sha [])) := by unfold extB; rw [if_neg (by omega), if_neg (by omega), if_pos rfl]
  rw [e0]; clear e0
  obtain ⟨HIa, _, _⟩ := sum25 a hla
  obtain ⟨_, sp, cap, rfl, _, _⟩ := hv
  have HH : Hid (RefAt w H) := hH
  have d0 : decide ((0 : Int) > n) = false := by simp; omega
  have d1 : decide (n > 0) = true := by simp; omega
  have h00 : (⟨#[]⟩ : ByteArray) = mkS [] := rfl
  generalize eL : (a.map ub).toArray = L at *
  generalize eT : (b.map ub).toArray = T at *
  clear hH
  have hA := gr_trans (gr_alloc w (Obj.cells L 25)) (gr_alloc _ (Obj.cells T 25))
  have hL0 : ((w.alloc (Obj.cells L 25)).alloc (Obj.cells T 25)).heap[w.heap.size]? = some (.cells L 25 (0, 0)) := heap_alloc2_old _ _ _
  go_enter Tryd.func33, Tryd.ntmps33
  go_wp2_with fail
  refine (of_any H [] ((w.alloc (Obj.cells L 25)).alloc (Obj.cells T 25)) (RefAt.gr HH.out hHs hA) (by have := hA.size; omega) (by simp)).mono ?_
  rintro e w1 ⟨rfl, hG1⟩
  have hG01 := gr_trans hA hG1
  have hL1 : w1.heap[w.heap.size]? = some (.cells L 25 (0, 0)) := (hG1.block _ (by simp; omega) (by simp)).trans hL0
  have hs1 : w.heap.size < w1.heap.size := (Array.getElem?_eq_some_iff.1 hL1).1
  obtain ⟨HIe, HOe, HNe⟩ := sum25 _ (length_sha [])
  clear hA hL0 hG1 HH h00
  generalize eE : ((sha []).map ub).toArray = E at *
  cases ps with
  | nil =>
    go_wp2_with (first | refine wpList_load_g (by rfl) 25 _ rfl w.heap.size rfl 25 _ (0, 0) _ hL2 Tryd.underlying25 rfl HIa.out ?_ | refine wpList_load_g (by rfl) 25 _ rfl w1.heap.size rfl 25 _ (0, 0) _ hW2 Tryd.underlying25 rfl HIe.out ?_ | refine wpList_eq25 (by rfl) _ _ _ rfl a (sha []) L E eL eE hla (length_sha []) rfl rfl ?_ | (refine store_new rfl 25 _ _ rfl E _ _ rfl rfl HIe.out HOe.out HNe.out ?_; intro W2 hW2 hs2 hG2; have hL2 := (hG2.block _ hs1 (by simp)).trans hL1))
    go_ret
    exact ⟨rfl, gr_trans hG01 hG2⟩
  | cons s ps =>
    have d2 : (((ps.length + 1 : Nat) : Int) == 0) = false := by rw [beq_eq_false_iff_ne]; omega
    have d2' : ((ps.length : Int) + 1 == 0) = false := by rw [beq_eq_false_iff_ne]; omega
    have e1 : (s :: ps).reverse.isEmpty = false := by simp
    simp only [List.length_cons] at *
    go_wp2_with (first | (refine store_new rfl 25 _ _ rfl E _ _ rfl rfl HIe.out HOe.out HNe.out ?_; intro W2 hW2 hs2 hG2))
    go_ret
    exact ⟨by rw [e1]; rfl, gr_trans hG01 hG2⟩

set_option maxHeartbeats 8000000 in
set_option maxRecDepth 100000 in
theorem rext_main (H : Nat) (ps : List (List UInt8)) (m n : Nat) (hm : 1 ≤ m) (hmn : m < n) (hn : n < 9223372036854775808) (a b : List UInt8) (v : Value) (w : World) (hla : a.length = 32) (hlb : b.length = 32) (hH : RefAt w H) (hHs : H < w.heap.size) (hv : SumsIs w v ps) (hp : ps.length < 1000000000) :
    Calls Tryd.prog 33 #[.pointer (some ⟨H, 0, none⟩), .int .i64 (m : Int), .int .i64 (n : Int), v, .agg (a.map ub).toArray, .agg (b.map ub).toArray] w fun e w' => e = .returned (.bool (extB ps.reverse m n a b)) ∧ w.grownBy w' none := by
  have e0 : extB ps.reverse m n a b = (extR ps.reverse m n a true == some (a, b)) := by unfold extB; rw [if_neg (by omega), if_neg (by omega), if_neg (by omega)]; simp
  rw [e0]; clear e0
  have d0 : decide ((m : Int) < 0) = false := by simp
  have d1 : decide ((m : Int) > (n : Int)) = false := by simp; omega
  have d1' : decide (n < m) = false := by simp; omega
  have d2 : ((m : Int) == (n : Int)) = false := by rw [beq_eq_false_iff_ne]; omega
  have d2' : (m == n) = false := by rw [beq_eq_false_iff_ne]; omega
  have d3 : ((m : Int) == 0) = false := by rw [beq_eq_false_iff_ne]; omega
  have d3' : (m == 0) = false := by rw [beq_eq_false_iff_ne]; omega
  obtain ⟨HIa, _, _⟩ := sum25 a hla
  obtain ⟨HIb, _, _⟩ := sum25 b hlb
  have HC : Hid (∀ V : World, w.grownBy V none → Calls Tryd.prog 69 #[.pointer (some ⟨H, 0, none⟩), .int .i64 (m : Int), .int .i64 (n : Int), v, .agg (a.map ub).toArray, .bool true] V fun e w' => ∃ f al, f.length = 32 ∧ al.length = 32 ∧ e = .returned (.tuple #[.agg (f.map ub).toArray, .agg (al.map ub).toArray, .bool (extR ps.reverse m n a true).isSome]) ∧ (∀ t, extR ps.reverse m n a true = some t → (f, al) = t) ∧ V.grownBy w' none) :=
    fun V hV => both_any H ps.reverse m n a true v V hla hm (by omega) hn (RefAt.gr hH hHs hV) (by have := hV.size; omega) (by rw [List.reverse_reverse]; exact hv.gr hV) (by simpa using hp)
  clear hH hv hm hmn hn hp
  generalize eL : (a.map ub).toArray = L at *
  generalize eT : (b.map ub).toArray = T at *
  have hA := gr_trans (gr_alloc w (Obj.cells L 25)) (gr_alloc _ (Obj.cells T 25))
  have hL0 : ((w.alloc (Obj.cells L 25)).alloc (Obj.cells T 25)).heap[w.heap.size]? = some (.cells L 25 (0, 0)) := heap_alloc2_old _ _ _
  have hB0 : ((w.alloc (Obj.cells L 25)).alloc (Obj.cells T 25)).heap[w.heap.size + 1]? = some (.cells T 25 (0, 0)) := heap_alloc2_new _ _ _
  go_enter Tryd.func33, Tryd.ntmps33
  go_wp2_with (first | refine wpList_load_row rfl 25 _ rfl w.heap.size rfl 25 _ (0, 0) _ (heap_alloc2_old _ _ _) Tryd.underlying25 rfl HIa.out ?_)
  refine (HC.out ((w.alloc (Obj.cells L 25)).alloc (Obj.cells T 25)) hA).mono ?_
  rintro e w3 ⟨f, al, hfl, hall, rfl, htop, hG3⟩
  have hG03 := gr_trans hA hG3
  have hL3 : w3.heap[w.heap.size]? = some (.cells L 25 (0, 0)) := (hG3.block _ (by simp; omega) (by simp)).trans hL0
  have hB3 : w3.heap[w.heap.size + 1]? = some (.cells T 25 (0, 0)) := (hG3.block _ (by simp) (by simp)).trans hB0
  have HTOP : Hid (∀ t, extR ps.reverse m n a true = some t → (f, al) = t) := htop
  have hs3 : w.heap.size + 1 < w3.heap.size := (Array.getElem?_eq_some_iff.1 hB3).1
  clear hA hL0 hB0 HC hG3 htop
  obtain ⟨HIf, HOf, HNf⟩ := sum25 f hfl
  obtain ⟨HIl, HOl, HNl⟩ := sum25 al hall
  generalize eF : (f.map ub).toArray = F at *
  generalize eA : (al.map ub).toArray = A at *
  generalize eok : (extR ps.reverse m n a true).isSome = okk at *
  go_upto_region 9 with (first | refine wpList_store_row rfl 25 _ _ rfl w3.heap.size F rfl rfl 25 _ (heap_alloc2_old _ _ _) HIf.out HOf.out HNf.out ?_ | refine wpList_store_row rfl 25 _ _ rfl (w3.heap.size + 1) A rfl rfl 25 _ ((setRow_other _ _ _ _ (by omega)).trans (heap_alloc2_new _ _ _)) HIl.out HOl.out HNl.out ?_)
  have hg2 := gr_trans (gr_alloc w3 (Obj.cells (brow 32 []).toArray 25)) (gr_alloc _ (Obj.cells (brow 32 []).toArray 25))
  have hGZ := gr_row (gr_row (gr_trans hG03 hg2) w3.heap.size F (by have := hG03.size; omega)) (w3.heap.size + 1) A (by have := hG03.size; omega)
  have hF := (setRow_other ((((w3.alloc (Obj.cells (brow 32 []).toArray 25)).alloc (Obj.cells (brow 32 []).toArray 25))).setRow w3.heap.size F) (w3.heap.size + 1) w3.heap.size A (by omega)).trans (setRow_heap _ w3.heap.size _ F 25 _ (heap_alloc2_old w3 (Obj.cells (brow 32 []).toArray 25) (Obj.cells (brow 32 []).toArray 25)))
  have hAl := setRow_heap ((((w3.alloc (Obj.cells (brow 32 []).toArray 25)).alloc (Obj.cells (brow 32 []).toArray 25))).setRow w3.heap.size F) (w3.heap.size + 1) _ A 25 _ ((setRow_other _ _ (w3.heap.size + 1) _ (by omega)).trans (heap_alloc2_new w3 (Obj.cells (brow 32 []).toArray 25) (Obj.cells (brow 32 []).toArray 25)))
  have hkeep : ∀ k, k < w3.heap.size → (((((w3.alloc (Obj.cells (brow 32 []).toArray 25)).alloc (Obj.cells (brow 32 []).toArray 25))).setRow w3.heap.size F).setRow (w3.heap.size + 1) A).heap[k]? = w3.heap[k]? := fun k hk => (setRow_other _ _ k _ (by omega)).trans ((setRow_other _ _ k _ (by omega)).trans (hg2.block k hk (by simp)))
  have hLz := (hkeep w.heap.size (by omega)).trans hL3
  have hTz := (hkeep (w.heap.size + 1) (by omega)).trans hB3
  change Code.wp _ _ _ _ (((((w3.alloc (Obj.cells (brow 32 []).toArray 25)).alloc (Obj.cells (brow 32 []).toArray 25))).setRow w3.heap.size F).setRow (w3.heap.size + 1) A)
  clear hkeep hg2 hL3 hB3
  generalize ((((w3.alloc (Obj.cells (brow 32 []).toArray 25)).alloc (Obj.cells (brow 32 []).toArray 25))).setRow w3.heap.size F).setRow (w3.heap.size + 1) A = Z at *
  generalize hB1 : w3.heap.size + 1 = B1 at *
  generalize hB2 : w3.heap.size = B2 at *
  clear hB1 hB2 hG03 hs3 HOf HNf HOl HNl
  cases hu : extR ps.reverse m n a true with
  | none =>
    rw [hu] at eok
    obtain rfl : okk = false := eok.symm
    go_wp2
    go_ret
    exact ⟨by rw [hu]; rfl, hGZ⟩
  | some u =>
    obtain rfl : (f, al) = u := HTOP.out u hu
    rw [hu] at eok
    obtain rfl : okk = true := eok.symm
    have e2 : (some (f, al) == some (a, b)) = (f == a && al == b) := rfl
    cases hfa : (f == a) with
    | true =>
      go_wp2_with (first | refine wpList_load_g (by rfl) 25 _ rfl B2 rfl 25 _ (0, 0) _ hF Tryd.underlying25 rfl HIf.out ?_ | refine wpList_load_g (by rfl) 25 _ rfl w.heap.size rfl 25 _ (0, 0) _ hLz Tryd.underlying25 rfl HIa.out ?_ | refine wpList_load_g (by rfl) 25 _ rfl B1 rfl 25 _ (0, 0) _ hAl Tryd.underlying25 rfl HIl.out ?_ | refine wpList_load_g (by rfl) 25 _ rfl (w.heap.size + 1) rfl 25 _ (0, 0) _ hTz Tryd.underlying25 rfl HIb.out ?_ | (refine wpList_eq25 (by rfl) _ _ _ rfl f a F L eF eL hfl hla rfl rfl ?_; rw [hfa]) | refine wpList_eq25 (by rfl) _ _ _ rfl al b A T eA eT hall hlb rfl rfl ?_)
      go_ret
      exact ⟨by rw [hu, e2, hfa]; rfl, hGZ⟩
    | false =>
      go_wp2_with (first | refine wpList_load_g (by rfl) 25 _ rfl B2 rfl 25 _ (0, 0) _ hF Tryd.underlying25 rfl HIf.out ?_ | refine wpList_load_g (by rfl) 25 _ rfl w.heap.size rfl 25 _ (0, 0) _ hLz Tryd.underlying25 rfl HIa.out ?_ | (refine wpList_eq25 (by rfl) _ _ _ rfl f a F L eF eL hfl hla rfl rfl ?_; rw [hfa]))
      go_ret
      exact ⟨by rw [hu, e2, hfa]; rfl, hGZ⟩

theorem rext_any (H : Nat) (ps : List (List UInt8)) (m n : Int) (hn : n < 9223372036854775808) (a b : List UInt8) (v : Value) (w : World) (hla : a.length = 32) (hlb : b.length = 32) (hH : RefAt w H) (hHs : H < w.heap.size) (hv : SumsIs w v ps) (hp : ps.length < 1000000000) :
    Calls Tryd.prog 33 #[.pointer (some ⟨H, 0, none⟩), .int .i64 m, .int .i64 n, v, .agg (a.map ub).toArray, .agg (b.map ub).toArray] w fun e w' => e = .returned (.bool (extB ps.reverse m n a b)) ∧ w.grownBy w' none := by
  by_cases h : m < 0 ∨ n < m
  · exact rext_neg H ps m n a b v w h
  obtain ⟨N, rfl⟩ : ∃ N : Nat, n = (N : Int) := ⟨n.toNat, by omega⟩
  by_cases h1 : m = (N : Int)
  · subst h1
    exact rext_same H ps N a b v w hla hlb hv hp
  by_cases h2 : m = 0
  · subst h2
    exact rext_zero H ps N (by omega) a b v w hla hH hHs hv hp
  obtain ⟨M, rfl⟩ : ∃ M : Nat, m = (M : Int) := ⟨m.toNat, by omega⟩
  exact rext_main H ps M N (by omega) (by omega) (by omega) a b v w hla hlb hH hHs hv hp
end Go.Proofs.YtplhlhjakapaaaaDoor
