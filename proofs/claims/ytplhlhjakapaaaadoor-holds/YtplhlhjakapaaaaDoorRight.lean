/-
  rootsref.right at the ten counts that the reference hands it.
-/
import Derived.Test.YtplhlhjakapaaaaDoorDigA
namespace Go.Proofs.YtplhlhjakapaaaaDoor
open Go

theorem rr_or2 (x : BitVec 32) (n : Nat) (p q : Int) (hp : p = 2 ^ (32 - n)) (hq : q = 2 ^ n) : bits .or .u32 ((x.toNat : Int) / q) ((x.toNat : Int) * p % 4294967296) = ((rr n x).toNat : Int) := by
  subst hp; subst hq
  rw [← IntKind.wrap_u32', bv_shl, bv_shr, bv_or, rr]

theorem right2 (x : BitVec 32) (w : World) :
    Calls Tryd.prog 82 #[.int .u32 (x.toNat : Int), .int .u64 2] w fun e w' => e = .returned (.int .u32 ((rr 2 x).toNat : Int)) ∧ w' = w := by
  go_enter Tryd.func82, Tryd.ntmps82
  go_wp2
  go_ret
  exact ⟨ret_int (rr_or2 x 2 _ _ (by decide) (by decide)), rfl⟩

theorem right6 (x : BitVec 32) (w : World) :
    Calls Tryd.prog 82 #[.int .u32 (x.toNat : Int), .int .u64 6] w fun e w' => e = .returned (.int .u32 ((rr 6 x).toNat : Int)) ∧ w' = w := by
  go_enter Tryd.func82, Tryd.ntmps82
  go_wp2
  go_ret
  exact ⟨ret_int (rr_or2 x 6 _ _ (by decide) (by decide)), rfl⟩

theorem right7 (x : BitVec 32) (w : World) :
    Calls Tryd.prog 82 #[.int .u32 (x.toNat : Int), .int .u64 7] w fun e w' => e = .returned (.int .u32 ((rr 7 x).toNat : Int)) ∧ w' = w := by
  go_enter Tryd.func82, Tryd.ntmps82
  go_wp2
  go_ret
  exact ⟨ret_int (rr_or2 x 7 _ _ (by decide) (by decide)), rfl⟩

theorem right11 (x : BitVec 32) (w : World) :
    Calls Tryd.prog 82 #[.int .u32 (x.toNat : Int), .int .u64 11] w fun e w' => e = .returned (.int .u32 ((rr 11 x).toNat : Int)) ∧ w' = w := by
  go_enter Tryd.func82, Tryd.ntmps82
  go_wp2
  go_ret
  exact ⟨ret_int (rr_or2 x 11 _ _ (by decide) (by decide)), rfl⟩

theorem right13 (x : BitVec 32) (w : World) :
    Calls Tryd.prog 82 #[.int .u32 (x.toNat : Int), .int .u64 13] w fun e w' => e = .returned (.int .u32 ((rr 13 x).toNat : Int)) ∧ w' = w := by
  go_enter Tryd.func82, Tryd.ntmps82
  go_wp2
  go_ret
  exact ⟨ret_int (rr_or2 x 13 _ _ (by decide) (by decide)), rfl⟩

theorem right17 (x : BitVec 32) (w : World) :
    Calls Tryd.prog 82 #[.int .u32 (x.toNat : Int), .int .u64 17] w fun e w' => e = .returned (.int .u32 ((rr 17 x).toNat : Int)) ∧ w' = w := by
  go_enter Tryd.func82, Tryd.ntmps82
  go_wp2
  go_ret
  exact ⟨ret_int (rr_or2 x 17 _ _ (by decide) (by decide)), rfl⟩

theorem right18 (x : BitVec 32) (w : World) :
    Calls Tryd.prog 82 #[.int .u32 (x.toNat : Int), .int .u64 18] w fun e w' => e = .returned (.int .u32 ((rr 18 x).toNat : Int)) ∧ w' = w := by
  go_enter Tryd.func82, Tryd.ntmps82
  go_wp2
  go_ret
  exact ⟨ret_int (rr_or2 x 18 _ _ (by decide) (by decide)), rfl⟩

theorem right19 (x : BitVec 32) (w : World) :
    Calls Tryd.prog 82 #[.int .u32 (x.toNat : Int), .int .u64 19] w fun e w' => e = .returned (.int .u32 ((rr 19 x).toNat : Int)) ∧ w' = w := by
  go_enter Tryd.func82, Tryd.ntmps82
  go_wp2
  go_ret
  exact ⟨ret_int (rr_or2 x 19 _ _ (by decide) (by decide)), rfl⟩

theorem right22 (x : BitVec 32) (w : World) :
    Calls Tryd.prog 82 #[.int .u32 (x.toNat : Int), .int .u64 22] w fun e w' => e = .returned (.int .u32 ((rr 22 x).toNat : Int)) ∧ w' = w := by
  go_enter Tryd.func82, Tryd.ntmps82
  go_wp2
  go_ret
  exact ⟨ret_int (rr_or2 x 22 _ _ (by decide) (by decide)), rfl⟩

theorem right25 (x : BitVec 32) (w : World) :
    Calls Tryd.prog 82 #[.int .u32 (x.toNat : Int), .int .u64 25] w fun e w' => e = .returned (.int .u32 ((rr 25 x).toNat : Int)) ∧ w' = w := by
  go_enter Tryd.func82, Tryd.ntmps82
  go_wp2
  go_ret
  exact ⟨ret_int (rr_or2 x 25 _ _ (by decide) (by decide)), rfl⟩

/-- At whichever of them. -/
theorem right_any (x : BitVec 32) (n : Int) (w : World) (hn : n = 2 ∨ n = 6 ∨ n = 7 ∨ n = 11 ∨ n = 13 ∨ n = 17 ∨ n = 18 ∨ n = 19 ∨ n = 22 ∨ n = 25) :
    Calls Tryd.prog 82 #[.int .u32 (x.toNat : Int), .int .u64 n] w fun e w' => e = .returned (.int .u32 ((rr n.toNat x).toNat : Int)) ∧ w' = w := by
  rcases hn with rfl | rfl | rfl | rfl | rfl | rfl | rfl | rfl | rfl | rfl
  · exact right2 x w
  · exact right6 x w
  · exact right7 x w
  · exact right11 x w
  · exact right13 x w
  · exact right17 x w
  · exact right18 x w
  · exact right19 x w
  · exact right22 x w
  · exact right25 x w
end Go.Proofs.YtplhlhjakapaaaaDoor
