/-
  tree.Extended's contract.
-/
import Derived.Test.YtplhlhjakapaaaaDoorExt2
import Derived.Test.YtplhlhjakapaaaaDoorEq2
import Derived.Test.YtplhlhjakapaaaaDoorGuard
namespace Go.Proofs.YtplhlhjakapaaaaDoor
open Go Go.RowKit

def extB (rs : List (List UInt8)) (m n : Int) (a b : List UInt8) : Bool :=
  if m < 0 ∨ n < m then false else if m = n then rs.isEmpty && (a == b) else if m = 0 then rs.isEmpty && (a == sha []) else extR rs m.toNat n.toNat a true == some (a, b)

set_option maxHeartbeats 8000000 in
set_option maxRecDepth 100000 in
theorem text_neg (ps : List (List UInt8)) (m n : Int) (a b : List UInt8) (v : Value) (w : World) (h : m < 0 ∨ n < m) :
    Calls Tryd.prog 68 #[.int .i64 m, .int .i64 n, v, .agg (a.map ub).toArray, .agg (b.map ub).toArray] w fun e w' => e = .returned (.bool (extB ps.reverse m n a b)) ∧ w.grownBy w' none := by
  have e0 : extB ps.reverse m n a b = false := by unfold extB; rw [if_pos h]
  rw [e0]; clear e0
  generalize eL : (a.map ub).toArray = L at *
  generalize eT : (b.map ub).toArray = T at *
  by_cases h0 : m < 0
  · have d0 : decide (m < 0) = true := by simp; omega
    go_enter Tryd.func68, Tryd.ntmps68
    go_wp2
    go_ret
    exact ⟨rfl, gr_trans (gr_alloc w (Obj.cells L 25)) (gr_alloc _ (Obj.cells T 25))⟩
  · have d0 : decide (m < 0) = false := by simp; omega
    have d1 : decide (m > n) = true := by simp; omega
    go_enter Tryd.func68, Tryd.ntmps68
    go_wp2
    go_ret
    exact ⟨rfl, gr_trans (gr_alloc w (Obj.cells L 25)) (gr_alloc _ (Obj.cells T 25))⟩

set_option maxHeartbeats 8000000 in
set_option maxRecDepth 100000 in
theorem text_same (ps : List (List UInt8)) (n : Nat) (m : Int) (hm : m = (n : Int)) (a b : List UInt8) (v : Value) (w : World) (hla : a.length = 32) (hlb : b.length = 32) (hv : SumsIs w v ps) (hp : ps.length < 1000000000) :
    Calls Tryd.prog 68 #[.int .i64 m, .int .i64 (n : Int), v, .agg (a.map ub).toArray, .agg (b.map ub).toArray] w fun e w' => e = .returned (.bool (extB ps.reverse m n a b)) ∧ w.grownBy w' none := by
  have e0 : extB ps.reverse m n a b = (ps.reverse.isEmpty && (a == b)) := by unfold extB; rw [if_neg (by omega), if_pos hm]
  rw [e0]; clear e0
  subst hm
  obtain ⟨HIa, _, _⟩ := sum25 a hla
  obtain ⟨HIb, _, _⟩ := sum25 b hlb
  obtain ⟨_, sp, cap, rfl, _, _⟩ := hv
  have d0 : decide ((n : Int) < 0) = false := by simp
  generalize eL : (a.map ub).toArray = L at *
  generalize eT : (b.map ub).toArray = T at *
  cases ps with
  | nil =>
    go_enter Tryd.func68, Tryd.ntmps68
    go_wp2_with (first | refine wpList_load_g (by rfl) 25 _ rfl w.heap.size rfl 25 _ (0, 0) _ (heap_alloc2_old _ _ _) Tryd.underlying25 rfl HIa.out ?_ | refine wpList_load_g (by rfl) 25 _ rfl (w.heap.size + 1) rfl 25 _ (0, 0) _ (heap_alloc2_new _ _ _) Tryd.underlying25 rfl HIb.out ?_ | refine wpList_eq25 (by rfl) _ _ _ rfl a b L T eL eT hla hlb rfl rfl ?_)
    go_ret
    exact ⟨rfl, gr_trans (gr_alloc w (Obj.cells L 25)) (gr_alloc _ (Obj.cells T 25))⟩
  | cons s ps =>
    have d1 : (((ps.length + 1 : Nat) : Int) == 0) = false := by rw [beq_eq_false_iff_ne]; omega
    have d1' : ((ps.length : Int) + 1 == 0) = false := by rw [beq_eq_false_iff_ne]; omega
    have e1 : (s :: ps).reverse.isEmpty = false := by simp
    rw [e1]
    simp only [List.length_cons, Bool.false_and]
    go_enter Tryd.func68, Tryd.ntmps68
    go_wp2
    go_ret
    exact ⟨rfl, gr_trans (gr_alloc w (Obj.cells L 25)) (gr_alloc _ (Obj.cells T 25))⟩

end Go.Proofs.YtplhlhjakapaaaaDoor
