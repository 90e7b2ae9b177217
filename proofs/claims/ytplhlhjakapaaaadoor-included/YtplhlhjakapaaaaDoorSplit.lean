/-
  bits.Len off the shelf, laid in plain words at this dump by the guide's own tool; tree.split and rootsref.split: the greatest power of two below n.
-/
import Derived.Test.YtplhlhjakapaaaaDoorLeaf
import Derived.Shelf.Small.Bits
import Derived.Lib.ItoaNum
namespace Go.Proofs.YtplhlhjakapaaaaDoor
open Go Go.RowKit Go.Shelf

def lays125_ren : Go.Shelf.Ren := ⟨fun | 125 => 104 | 128 => 136 | 129 => 137 | n => n, fun | 46 => 79 | 3 => 3 | 51 => 96 | 53 => 74 | 4 => 4 | 5 => 5 | 9 => 9 | n => n, fun | n => n⟩
theorem lays125 : Go.Proofs.Lays.n125 Tryd.prog lays125_ren := {
  mixed := by kernel_rfl
  f125 := Tryd.func104.trans (congrArg some (by kernel_rfl))
  f128 := Tryd.func136.trans (congrArg some (by kernel_rfl))
  f129 := Tryd.func137.trans (congrArg some (by kernel_rfl))
  t3 := Tryd.underlying3
  a3 := Tryd.isAgg3
  z3 := Tryd.sizeOf3
  v3 := Tryd.zeroValue3
  t4 := Tryd.underlying4
  a4 := Tryd.isAgg4
  z4 := Tryd.sizeOf4
  v4 := Tryd.zeroValue4
  t5 := Tryd.underlying5
  a5 := Tryd.isAgg5
  z5 := Tryd.sizeOf5
  v5 := Tryd.zeroValue5
  t9 := Tryd.underlying9
  a9 := Tryd.isAgg9
  z9 := Tryd.sizeOf9
  v9 := Tryd.zeroValue9
  t46 := Tryd.underlying79
  a46 := Tryd.isAgg79
  z46 := Tryd.sizeOf79
  v46 := Tryd.zeroValue79
  t51 := Tryd.underlying96
  a51 := Tryd.isAgg96
  z51 := Tryd.sizeOf96
  v51 := Tryd.zeroValue96
  t53 := Tryd.underlying74
  a53 := Tryd.isAgg74
  z53 := Tryd.sizeOf74
  v53 := Tryd.zeroValue74 }
theorem bits_len (x : Int) (w : World) (h0 : 0 ≤ x) (h1 : x ≤ 18446744073709551615) :
    Calls Tryd.prog 104 #[.int .u64 x] w fun e w' => e = .returned (.int .i64 (Lib.bitLen x.toNat)) ∧ w' = w := Any.bits_Len lays125 x w h0 h1

/-- The greatest power of two below n. -/
def spl (n : Nat) : Nat := 2 ^ (Lib.bitLen (n - 1) - 1)
theorem spl_spec (n : Nat) (h2 : 2 ≤ n) (hb : n < 9223372036854775808) : spl n < n ∧ n ≤ 2 * spl n ∧ 1 ≤ Lib.bitLen (n - 1) ∧ Lib.bitLen (n - 1) ≤ 63 := by
  have hb' : n - 1 < 2 ^ 64 := by omega
  obtain ⟨h1, h3, h4⟩ := Lib.bitLenAux_bounds 64 (n - 1) hb' (by omega)
  have e : Lib.bitLen (n - 1) = Lib.bitLenAux 64 (n - 1) := rfl
  rw [spl, e]
  generalize Lib.bitLenAux 64 (n - 1) = b at *
  have e2 : 2 ^ b = 2 * 2 ^ (b - 1) := by rw [← Nat.pow_succ']; congr 1; omega
  refine ⟨by omega, by omega, h1, ?_⟩
  rcases Nat.lt_or_ge b 64 with h | h
  · omega
  · have := Nat.pow_le_pow_right (n := 2) (by omega) (show 63 ≤ b - 1 by omega)
    omega
theorem spl_pos (n : Nat) : 1 ≤ spl n := Nat.one_le_two_pow
theorem pow_same (a b n : Nat) (h1 : 2 ^ a < n) (h2 : n ≤ 2 * 2 ^ a) (h3 : 2 ^ b < n) (h4 : n ≤ 2 * 2 ^ b) : a = b := by
  rcases Nat.lt_trichotomy a b with h | h | h
  · have := Nat.pow_le_pow_right (n := 2) (by omega) (show a + 1 ≤ b from h)
    rw [Nat.pow_succ] at this; omega
  · exact h
  · have := Nat.pow_le_pow_right (n := 2) (by omega) (show b + 1 ≤ a from h)
    rw [Nat.pow_succ] at this; omega
theorem spl_unique (e n : Nat) (h2 : 2 ≤ n) (hb : n < 9223372036854775808) (h1 : 2 ^ e < n) (h3 : n ≤ 2 * 2 ^ e) : 2 ^ e = spl n := by
  obtain ⟨a, b, _, _⟩ := spl_spec n h2 hb
  rw [spl] at a b ⊢
  rw [pow_same e _ n h1 h3 a b]

set_option maxHeartbeats 2000000 in
set_option maxRecDepth 100000 in
theorem tsplit_any (n : Nat) (w : World) (hn : 2 ≤ n) (hb : n < 9223372036854775808) :
    Calls Tryd.prog 83 #[.int .i64 (n : Int)] w fun e w' => e = .returned (.int .i64 (spl n : Int)) ∧ w' = w := by
  obtain ⟨ha, hc, hd, he⟩ := spl_spec n hn hb
  have HS : Hid (spl n = 2 ^ (Lib.bitLen (n - 1) - 1)) := rfl
  go_enter Tryd.func83, Tryd.ntmps83
  go_wp2_with fail
  refine (bits_len ((n : Int) - 1) w (by omega) (by omega)).mono ?_
  rintro e w' ⟨rfl, rfl⟩
  have e1 : ((n : Int) - 1).toNat = n - 1 := by omega
  rw [e1]
  generalize Lib.bitLen (n - 1) = b at *
  go_wp2
  go_ret
  have hx : (2 : Int) ^ (b - 1) = ((spl n : Nat) : Int) := by rw [HS.out]; simp
  rw [hx]
  have hw : wrap64 ((spl n : Nat) : Int) = ((spl n : Nat) : Int) := by unfold wrap64; omega
  rw [hw]
  exact ⟨rfl, rfl⟩

set_option maxHeartbeats 2000000 in
set_option maxRecDepth 100000 in
theorem rsplit_any (n : Nat) (w : World) (hn : 2 ≤ n) (hb : n < 9223372036854775808) :
    Calls Tryd.prog 61 #[.int .i64 (n : Int)] w fun e w' => e = .returned (.int .i64 (spl n : Int)) ∧ w' = w := by
  go_enter Tryd.func61, Tryd.ntmps61
  go_wp2
  go_loopw [3] (fun i wr => ∃ (k e : Nat), Hid (k = 2 ^ e) ∧ k < n ∧ 1 ≤ k ∧ i = .int .i64 (k : Int) ∧ wr = w)
    (fun i _ => n - (intOf i).toNat)
  case atStart => exact ⟨1, 0, rfl, by omega, by omega, rfl, rfl⟩
  case round =>
    obtain ⟨k, e, he, hk, hk1, rfl, rfl⟩ := hrel
    by_cases hlt : k < n - k
    · have d : decide ((k : Int) < (n : Int) - (k : Int)) = true := by simp; omega
      go_wp2
      exact ⟨⟨2 * k, e + 1, by show _ = _; rw [he.out, Nat.pow_succ'], by omega, by omega, by go_num, trivial⟩, by simp [intOf]; omega⟩
    · have d : decide ((k : Int) < (n : Int) - (k : Int)) = false := by simp; omega
      go_wp2
      go_ret
      refine ⟨?_, rfl⟩
      rw [← spl_unique e n hn hb (by rw [← he.out]; omega) (by rw [← he.out]; omega), ← he.out]
      rfl
end Go.Proofs.YtplhlhjakapaaaaDoor
