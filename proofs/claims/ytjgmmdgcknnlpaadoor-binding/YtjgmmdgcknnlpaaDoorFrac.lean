import Derived.Test.YtjgmmdgcknnlpaaDoorBelow
namespace Go.Proofs.YtjgmmdgcknnlpaaDoor
open Go Go.RowKit

/-- The root, found bit by bit: behind k bits. -/
def fr (p m : Nat) : Nat → Nat
  | 0 => 0
  | k + 1 => if (fr p m k + 2 ^ (36 - k)) ^ m ≤ p * 4294967296 ^ m then fr p m k + 2 ^ (36 - k) else fr p m k
theorem fr_le (p m k : Nat) (hk : k ≤ 37) : fr p m k + 2 ^ (37 - k) ≤ 2 ^ 37 := by
  induction k with
  | zero => simp [fr]
  | succ k ih =>
    have := ih (by omega)
    rw [show 37 - k = (36 - k) + 1 by omega, Nat.pow_succ] at this
    rw [show 37 - (k + 1) = 36 - k by omega, fr]
    have hp : 0 < 2 ^ (36 - k) := Nat.pow_pos (by decide)
    split <;> omega

set_option maxHeartbeats 400000 in
set_option maxRecDepth 100000 in
theorem fraction_any (p m : Nat) (w : World) (hp : p < 4294967296) (hm1 : 1 ≤ m) (hm2 : m ≤ 3) :
    Calls Tryd.prog 77 #[.int .u64 (p : Int), .int .i64 (m : Int)] w fun e w' => e = .returned (.int .u32 ((fr p m 37 % 4294967296 : Nat) : Int)) ∧ w.grownBy w' none := by
  go_enter Tryd.func77, Tryd.ntmps77
  go_wp2
  go_loopw [5, 6] (fun r b wr => ∃ k : Nat, k ≤ 37 ∧ r = .int .u64 ((fr p m k : Nat) : Int) ∧ b = .int .i64 (36 - (k : Int)) ∧ w.grownBy wr none)
    (fun _ b _ => (intOf b + 1).toNat)
  case atStart => exact ⟨0, by omega, rfl, rfl, gr_refl _⟩
  case round =>
    obtain ⟨k, hk, rfl, rfl, hG⟩ := hrel
    have hb := fr_le p m k hk
    have HF : Hid (fr p m (k + 1) = if (fr p m k + 2 ^ (36 - k)) ^ m ≤ p * 4294967296 ^ m then fr p m k + 2 ^ (36 - k) else fr p m k) := rfl
    by_cases hlt : k < 37
    · generalize eR : fr p m k = r at hb HF
      have ER : Hid (fr p m k = r) := eR
      clear eR
      have hpos : 0 < 2 ^ (36 - k) := Nat.pow_pos (by decide)
      have hpw : 2 ^ (37 - k) = 2 ^ (36 - k) * 2 := by rw [show 37 - k = (36 - k) + 1 by omega, Nat.pow_succ]
      rw [hpw] at hb
      have hcast : ((2 : Int) ^ (36 - k)) = ((2 ^ (36 - k) : Nat) : Int) := by simp
      have hw : IntKind.u64.wrap ((r : Int) + IntKind.u64.wrap (2 ^ (36 - k))) = ((r + 2 ^ (36 - k) : Nat) : Int) := by
        rw [IntKind.wrap_u64, IntKind.wrap_u64, hcast]
        omega
      have hT : r + 2 ^ (36 - k) < 274877906944 := by omega
      clear hpw hcast hb hpos
      generalize r + 2 ^ (36 - k) = T at HF hw hT
      have hbl := below_any T p m wr hT hp hm1 hm2
      by_cases hle : T ^ m ≤ p * 4294967296 ^ m
      · have HF' : Hid (fr p m (k + 1) = T) := by show _ = _; rw [HF.out, if_pos hle]
        rw [decide_eq_true hle] at hbl
        clear hle HF
        go_wp2_with fail
        refine hbl.mono ?_
        rintro e w2 ⟨rfl, hG2⟩
        have hG02 := gr_trans hG hG2
        clear hbl hG2
        go_wp2_with fail
        exact ⟨⟨k + 1, by omega, by rw [HF'.out], by go_num, hG02⟩, by simp [intOf]; omega⟩
      · have HF' : Hid (fr p m (k + 1) = r) := by show _ = _; rw [HF.out, if_neg hle]
        rw [decide_eq_false hle] at hbl
        clear hle HF
        go_wp2_with fail
        refine hbl.mono ?_
        rintro e w2 ⟨rfl, hG2⟩
        have hG02 := gr_trans hG hG2
        clear hbl hG2
        go_wp2_with fail
        exact ⟨⟨k + 1, by omega, by rw [HF'.out], by go_num, hG02⟩, by simp [intOf]; omega⟩
    · have hk37 : k = 37 := by omega
      subst hk37
      clear hlt hk HF
      clear hb
      go_wp2
      go_ret
      exact ⟨ret_int (by omega), hG⟩
end Go.Proofs.YtjgmmdgcknnlpaaDoor
