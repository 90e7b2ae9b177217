/-
  math/bits.RotateLeft32 at the ten counts that the program hands it: a word turned to the right.
-/
import Derived.Test.YtjgmmdgcknnlpaaDoorProg
import Derived.Test.YtjgmmdgcknnlpaaDoorSha
import Derived.WalkKit
import Derived.WalkLawsBesides
import Derived.KernelRfl
namespace Go.Proofs.YtjgmmdgcknnlpaaDoor
open Go

theorem ret_int {k : IntKind} {a b : Int} (h : a = b) : Ending.returned (.int k a) = .returned (.int k b) := by rw [h]
theorem rr_or (x : BitVec 32) (n : Nat) (p q : Int) (hp : p = 2 ^ (32 - n)) (hq : q = 2 ^ n) : bits .or .u32 ((x.toNat : Int) * p % 4294967296) ((x.toNat : Int) / q) = ((rr n x).toNat : Int) := by
  subst hp; subst hq
  rw [← IntKind.wrap_u32', bv_shl, bv_shr, bv_or, rr, BitVec.or_comm]

theorem rot2 (x : BitVec 32) (w : World) :
    Calls Tryd.prog 135 #[.int .u32 (x.toNat : Int), .int .i64 (-2)] w fun e w' => e = .returned (.int .u32 ((rr 2 x).toNat : Int)) ∧ w' = w := by
  have hb : bits BinOp.and IntKind.u64 (IntKind.u64.wrap (-2)) 31 = 30 := by decide
  go_enter Tryd.func135, Tryd.ntmps135
  go_wp2
  go_ret
  exact ⟨ret_int (rr_or x 2 _ _ (by decide) (by decide)), rfl⟩

theorem rot6 (x : BitVec 32) (w : World) :
    Calls Tryd.prog 135 #[.int .u32 (x.toNat : Int), .int .i64 (-6)] w fun e w' => e = .returned (.int .u32 ((rr 6 x).toNat : Int)) ∧ w' = w := by
  have hb : bits BinOp.and IntKind.u64 (IntKind.u64.wrap (-6)) 31 = 26 := by decide
  go_enter Tryd.func135, Tryd.ntmps135
  go_wp2
  go_ret
  exact ⟨ret_int (rr_or x 6 _ _ (by decide) (by decide)), rfl⟩

theorem rot7 (x : BitVec 32) (w : World) :
    Calls Tryd.prog 135 #[.int .u32 (x.toNat : Int), .int .i64 (-7)] w fun e w' => e = .returned (.int .u32 ((rr 7 x).toNat : Int)) ∧ w' = w := by
  have hb : bits BinOp.and IntKind.u64 (IntKind.u64.wrap (-7)) 31 = 25 := by decide
  go_enter Tryd.func135, Tryd.ntmps135
  go_wp2
  go_ret
  exact ⟨ret_int (rr_or x 7 _ _ (by decide) (by decide)), rfl⟩

theorem rot11 (x : BitVec 32) (w : World) :
    Calls Tryd.prog 135 #[.int .u32 (x.toNat : Int), .int .i64 (-11)] w fun e w' => e = .returned (.int .u32 ((rr 11 x).toNat : Int)) ∧ w' = w := by
  have hb : bits BinOp.and IntKind.u64 (IntKind.u64.wrap (-11)) 31 = 21 := by decide
  go_enter Tryd.func135, Tryd.ntmps135
  go_wp2
  go_ret
  exact ⟨ret_int (rr_or x 11 _ _ (by decide) (by decide)), rfl⟩

theorem rot13 (x : BitVec 32) (w : World) :
    Calls Tryd.prog 135 #[.int .u32 (x.toNat : Int), .int .i64 (-13)] w fun e w' => e = .returned (.int .u32 ((rr 13 x).toNat : Int)) ∧ w' = w := by
  have hb : bits BinOp.and IntKind.u64 (IntKind.u64.wrap (-13)) 31 = 19 := by decide
  go_enter Tryd.func135, Tryd.ntmps135
  go_wp2
  go_ret
  exact ⟨ret_int (rr_or x 13 _ _ (by decide) (by decide)), rfl⟩

theorem rot17 (x : BitVec 32) (w : World) :
    Calls Tryd.prog 135 #[.int .u32 (x.toNat : Int), .int .i64 (-17)] w fun e w' => e = .returned (.int .u32 ((rr 17 x).toNat : Int)) ∧ w' = w := by
  have hb : bits BinOp.and IntKind.u64 (IntKind.u64.wrap (-17)) 31 = 15 := by decide
  go_enter Tryd.func135, Tryd.ntmps135
  go_wp2
  go_ret
  exact ⟨ret_int (rr_or x 17 _ _ (by decide) (by decide)), rfl⟩

theorem rot18 (x : BitVec 32) (w : World) :
    Calls Tryd.prog 135 #[.int .u32 (x.toNat : Int), .int .i64 (-18)] w fun e w' => e = .returned (.int .u32 ((rr 18 x).toNat : Int)) ∧ w' = w := by
  have hb : bits BinOp.and IntKind.u64 (IntKind.u64.wrap (-18)) 31 = 14 := by decide
  go_enter Tryd.func135, Tryd.ntmps135
  go_wp2
  go_ret
  exact ⟨ret_int (rr_or x 18 _ _ (by decide) (by decide)), rfl⟩

theorem rot19 (x : BitVec 32) (w : World) :
    Calls Tryd.prog 135 #[.int .u32 (x.toNat : Int), .int .i64 (-19)] w fun e w' => e = .returned (.int .u32 ((rr 19 x).toNat : Int)) ∧ w' = w := by
  have hb : bits BinOp.and IntKind.u64 (IntKind.u64.wrap (-19)) 31 = 13 := by decide
  go_enter Tryd.func135, Tryd.ntmps135
  go_wp2
  go_ret
  exact ⟨ret_int (rr_or x 19 _ _ (by decide) (by decide)), rfl⟩

theorem rot22 (x : BitVec 32) (w : World) :
    Calls Tryd.prog 135 #[.int .u32 (x.toNat : Int), .int .i64 (-22)] w fun e w' => e = .returned (.int .u32 ((rr 22 x).toNat : Int)) ∧ w' = w := by
  have hb : bits BinOp.and IntKind.u64 (IntKind.u64.wrap (-22)) 31 = 10 := by decide
  go_enter Tryd.func135, Tryd.ntmps135
  go_wp2
  go_ret
  exact ⟨ret_int (rr_or x 22 _ _ (by decide) (by decide)), rfl⟩

theorem rot25 (x : BitVec 32) (w : World) :
    Calls Tryd.prog 135 #[.int .u32 (x.toNat : Int), .int .i64 (-25)] w fun e w' => e = .returned (.int .u32 ((rr 25 x).toNat : Int)) ∧ w' = w := by
  have hb : bits BinOp.and IntKind.u64 (IntKind.u64.wrap (-25)) 31 = 7 := by decide
  go_enter Tryd.func135, Tryd.ntmps135
  go_wp2
  go_ret
  exact ⟨ret_int (rr_or x 25 _ _ (by decide) (by decide)), rfl⟩
end Go.Proofs.YtjgmmdgcknnlpaaDoor
