/-
  tree.Extended, roots.Extended.
-/
import Derived.Test.YtplhlhjakapaaaaDoorExtdZ
namespace Go.Proofs.YtplhlhjakapaaaaDoor
open Go Go.RowKit

set_option maxHeartbeats 8000000 in
set_option maxRecDepth 100000 in
theorem text_main (ps : List (List UInt8)) (m n : Nat) (hm : 1 ≤ m) (hmn : m < n) (hn : n < 9223372036854775808) (a b : List UInt8) (v : Value) (w : World) (hla : a.length = 32) (hlb : b.length = 32) (hw : 1 < w.heap.size) (hT : Tab w) (hv : SumsIs w v ps) (hp : ps.length < 1000000000) :
    Calls Tryd.prog 68 #[.int .i64 (m : Int), .int .i64 (n : Int), v, .agg (a.map ub).toArray, .agg (b.map ub).toArray] w fun e w' => e = .returned (.bool (extB ps.reverse m n a b)) ∧ w.grownBy w' none := by
  have e0 : extB ps.reverse m n a b = (extR ps.reverse m n a true == some (a, b)) := by unfold extB; rw [if_neg (by omega), if_neg (by omega), if_neg (by omega)]; simp
  rw [e0]; clear e0
  have d0 : decide ((m : Int) < 0) = false := by simp
  have d1 : decide ((m : Int) > (n : Int)) = false := by simp; omega
  have d1' : decide (n < m) = false := by simp; omega
  have d2 : ((m : Int) == (n : Int)) = false := by rw [beq_eq_false_iff_ne]; omega
  have d2' : (m == n) = false := by rw [beq_eq_false_iff_ne]; omega
  have d3 : ((m : Int) == 0) = false := by rw [beq_eq_false_iff_ne]; omega
  have d3' : (m == 0) = false := by rw [beq_eq_false_iff_ne]; omega
  obtain ⟨HIa, _, _⟩ := sum25 a hla
  obtain ⟨HIb, _, _⟩ := sum25 b hlb
  have HBP : Hid _ := built_pair a b hla hlb
  have HC : Hid (∀ V : World, 1 < V.heap.size → Tab V → SumsIs V v ps → Calls Tryd.prog 96 #[.int .i64 (m : Int), .int .i64 (n : Int), v, .agg (a.map ub).toArray, .bool true] V fun e w' => ∃ f al, f.length = 32 ∧ al.length = 32 ∧ e = .returned (.tuple #[.agg (pairC f al), .bool (extR ps.reverse m n a true).isSome]) ∧ (∀ t, extR ps.reverse m n a true = some t → (f, al) = t) ∧ V.grownBy w' none) :=
    fun V h1 h2 h3 => ext_any ps.reverse m n a true v V hla hm (by omega) hn h1 h2 (by rwa [List.reverse_reverse]) (by simpa using hp)
  have HT : Hid (Tab w) := hT
  have HV : Hid (SumsIs w v ps) := hv
  clear hT hv hm hmn hn hp
  generalize eL : (a.map ub).toArray = L at *
  generalize eT : (b.map ub).toArray = T at *
  generalize eQ : pairC a b = QQ at *
  go_enter Tryd.func68, Tryd.ntmps68
  go_wp2_with (first | refine wpList_load_row rfl 25 _ rfl w.heap.size rfl 25 _ (0, 0) _ (heap_alloc2_old _ _ _) Tryd.underlying25 rfl HIa.out ?_)
  have hA := gr_trans (gr_alloc w (Obj.cells L 25)) (gr_alloc _ (Obj.cells T 25))
  have hL0 : ((w.alloc (Obj.cells L 25)).alloc (Obj.cells T 25)).heap[w.heap.size]? = some (.cells L 25 (0, 0)) := heap_alloc2_old _ _ _
  have hB0 : ((w.alloc (Obj.cells L 25)).alloc (Obj.cells T 25)).heap[w.heap.size + 1]? = some (.cells T 25 (0, 0)) := heap_alloc2_new _ _ _
  refine (HC.out ((w.alloc (Obj.cells L 25)).alloc (Obj.cells T 25)) (by have := hA.size; omega) (HT.out.gr hA hw) (HV.out.gr hA)).mono ?_
  rintro e w3 ⟨f, al, hfl, hall, rfl, htop, hG3⟩
  have hG03 := gr_trans hA hG3
  have hL3 : w3.heap[w.heap.size]? = some (.cells L 25 (0, 0)) := (hG3.block _ (by simp; omega) (by simp)).trans hL0
  have hB3 : w3.heap[w.heap.size + 1]? = some (.cells T 25 (0, 0)) := (hG3.block _ (by simp) (by simp)).trans hB0
  have HTOP : Hid _ := htop
  have hs3 : w.heap.size + 1 < w3.heap.size := (Array.getElem?_eq_some_iff.1 hB3).1
  have hs3' : w.heap.size < w3.heap.size := by omega
  clear hA hL0 hB0 HC HV HT hG3 htop
  obtain ⟨HI, HO, HN⟩ := sum126 f al hfl hall
  cases hu : extR ps.reverse m n a true with
  | none =>
    simp only [Option.isSome_none]
    generalize eU : pairC f al = U at *
    go_wp2_with (first | (refine store_new rfl 144 _ _ rfl U _ _ rfl rfl HI.out HO.out HN.out ?_; intro W4 hW4 hs4 hG4))
    go_ret
    exact ⟨by rw [hu]; rfl, gr_trans hG03 hG4⟩
  | some u =>
    obtain rfl : (f, al) = u := HTOP.out u hu
    simp only [Option.isSome_some]
    generalize eU : pairC f al = U at *
    go_wp2_with (first | refine wpList_load_g (by rfl) 144 _ rfl w3.heap.size rfl 144 _ (0, 0) _ hW4 Tryd.underlying144 rfl HI.out ?_ | refine wpList_load_g (by rfl) 25 _ rfl w.heap.size rfl 25 _ (0, 0) _ hL4 Tryd.underlying25 rfl HIa.out ?_ | refine wpList_load_g (by rfl) 25 _ rfl (w.heap.size + 1) rfl 25 _ (0, 0) _ hB4 Tryd.underlying25 rfl HIb.out ?_ | refine wpList_pair_g (by rfl) _ _ rfl _ _ rfl rfl QQ HBP.out ?_ | refine wpList_eq126 (by rfl) _ _ _ rfl f al a b U QQ eU eQ hfl hall hla hlb rfl rfl ?_ | (refine store_new rfl 144 _ _ rfl U _ _ rfl rfl HI.out HO.out HN.out ?_; intro W4 hW4 hs4 hG4; have hL4 := (hG4.block _ hs3' (by simp)).trans hL3; have hB4 := (hG4.block _ hs3 (by simp)).trans hB3))
    go_ret
    exact ⟨by rw [hu]; rfl, gr_trans hG03 hG4⟩

theorem textd_any (ps : List (List UInt8)) (m n : Int) (hn : n < 9223372036854775808) (a b : List UInt8) (v : Value) (w : World) (hla : a.length = 32) (hlb : b.length = 32) (hw : 1 < w.heap.size) (hT : Tab w) (hv : SumsIs w v ps) (hp : ps.length < 1000000000) :
    Calls Tryd.prog 68 #[.int .i64 m, .int .i64 n, v, .agg (a.map ub).toArray, .agg (b.map ub).toArray] w fun e w' => e = .returned (.bool (extB ps.reverse m n a b)) ∧ w.grownBy w' none := by
  by_cases h : m < 0 ∨ n < m
  · exact text_neg ps m n a b v w h
  obtain ⟨N, rfl⟩ : ∃ N : Nat, n = (N : Int) := ⟨n.toNat, by omega⟩
  by_cases h1 : m = (N : Int)
  · exact text_same ps N m h1 a b v w hla hlb hv hp
  by_cases h2 : m = 0
  · subst h2
    exact text_zero ps N (by omega) a b v w hla hw hT hv hp
  obtain ⟨M, rfl⟩ : ∃ M : Nat, m = (M : Int) := ⟨m.toNat, by omega⟩
  exact text_main ps M N (by omega) (by omega) (by omega) a b v w hla hlb hw hT hv hp

set_option maxHeartbeats 4000000 in
set_option maxRecDepth 100000 in
theorem extd_any (ps : List (List UInt8)) (m n : Int) (hn : n < 9223372036854775808) (a b : List UInt8) (v : Value) (w : World) (hla : a.length = 32) (hlb : b.length = 32) (hw : 1 < w.heap.size) (hT : Tab w) (hv : SumsIs w v ps) (hp : ps.length < 1000000000) :
    Calls Tryd.prog 32 #[.int .i64 m, .int .i64 n, v, .agg (a.map ub).toArray, .agg (b.map ub).toArray] w fun e w' => e = .returned (.bool (extB ps.reverse m n a b)) ∧ w.grownBy w' none := by
  obtain ⟨HIa, _, _⟩ := sum25 a hla
  obtain ⟨HIb, _, _⟩ := sum25 b hlb
  have HC : Hid (∀ V : World, w.grownBy V none → Calls Tryd.prog 68 #[.int .i64 m, .int .i64 n, v, .agg (a.map ub).toArray, .agg (b.map ub).toArray] V fun e w' => e = .returned (.bool (extB ps.reverse m n a b)) ∧ V.grownBy w' none) :=
    fun V hV => textd_any ps m n hn a b v V hla hlb (by have := hV.size; omega) (hT.gr hV hw) (hv.gr hV) hp
  clear hT hv hn hp
  generalize extB ps.reverse m n a b = BB at *
  generalize eL : (a.map ub).toArray = L at *
  generalize eT : (b.map ub).toArray = T at *
  have hA := gr_trans (gr_alloc w (Obj.cells L 25)) (gr_alloc _ (Obj.cells T 25))
  go_enter Tryd.func32, Tryd.ntmps32
  go_wp2_with (first | refine wpList_load_row rfl 25 _ rfl w.heap.size rfl 25 _ (0, 0) _ (heap_alloc2_old _ _ _) Tryd.underlying25 rfl HIa.out ?_ | refine wpList_load_row rfl 25 _ rfl (w.heap.size + 1) rfl 25 _ (0, 0) _ (heap_alloc2_new _ _ _) Tryd.underlying25 rfl HIb.out ?_)
  refine (HC.out ((w.alloc (Obj.cells L 25)).alloc (Obj.cells T 25)) hA).mono ?_
  rintro e w3 ⟨rfl, hG3⟩
  clear HC
  go_wp2
  go_ret
  exact ⟨rfl, gr_trans hA hG3⟩
end Go.Proofs.YtplhlhjakapaaaaDoor
