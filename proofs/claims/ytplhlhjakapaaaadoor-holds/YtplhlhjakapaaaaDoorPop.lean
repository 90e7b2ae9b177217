/-
  How many bits of a number are 1, as math/bits counts them.
-/
import Derived.Test.YtplhlhjakapaaaaDoorProg
import Derived.Test.YtplhlhjakapaaaaDoorTail
import Derived.Laws.Bits64b
import Derived.Laws.Bits128
import Derived.WalkSmall
namespace Go.Proofs.YtplhlhjakapaaaaDoor
open Go Go.RowKit

/-- The sum of n digits to the base B. -/
def digs (B : Nat) : Nat → Nat → Nat
  | 0, _ => 0
  | n + 1, x => x % B + digs B n (x / B)
/-- 2 ^ s - 1 at every second digit of s bits. -/
def evm (s : Nat) : Nat → Nat
  | 0 => 0
  | n + 1 => (2 ^ s - 1) + 2 ^ (2 * s) * evm s n
/-- Neighbours added. -/
def nbs (s : Nat) : Nat → Nat → Nat
  | 0, _ => 0
  | n + 1, x => (x % 2 ^ s + x / 2 ^ s % 2 ^ s) + 2 ^ (2 * s) * nbs s n (x / 2 ^ (2 * s))

theorem and_blk (t a c m n : Nat) (ha : a < 2 ^ t) (hm : m < 2 ^ t) : (a + 2 ^ t * c) &&& (m + 2 ^ t * n) = (a &&& m) + 2 ^ t * (c &&& n) := by
  apply Nat.eq_of_testBit_eq
  intro i
  have h1 := Nat.testBit_two_pow_mul_add c ha i
  have h2 := Nat.testBit_two_pow_mul_add n hm i
  have h3 := Nat.testBit_two_pow_mul_add (c &&& n) (Nat.lt_of_le_of_lt (Nat.and_le_left (n := a) (m := m)) ha) i
  rw [Nat.testBit_and, Nat.add_comm a, Nat.add_comm m, Nat.add_comm (a &&& m), h1, h2, h3]
  split <;> simp

theorem and_evm (s n : Nat) : ∀ x, x &&& evm s (n + 1) = x % 2 ^ s + 2 ^ (2 * s) * (x / 2 ^ (2 * s) &&& evm s n) := by
  intro x
  have hb : x % 2 ^ (2 * s) < 2 ^ (2 * s) := Nat.mod_lt _ (Nat.two_pow_pos _)
  have hle : 2 ^ s ≤ 2 ^ (2 * s) := Nat.pow_le_pow_right (by omega) (by omega)
  have hp := Nat.two_pow_pos s
  have h := and_blk (2 * s) (x % 2 ^ (2 * s)) (x / 2 ^ (2 * s)) (2 ^ s - 1) (evm s n) hb (by omega)
  have he : x % 2 ^ (2 * s) + 2 ^ (2 * s) * (x / 2 ^ (2 * s)) = x := Nat.mod_add_div x _
  rw [he] at h
  show x &&& ((2 ^ s - 1) + 2 ^ (2 * s) * evm s n) = _
  rw [h, Nat.and_two_pow_sub_one_eq_mod]
  congr 1
  exact Nat.mod_mod_of_dvd x (Nat.pow_dvd_pow 2 (by omega))

theorem nbs_eq (s : Nat) : ∀ n x, (x / 2 ^ s &&& evm s n) + (x &&& evm s n) = nbs s n x
  | 0, x => by simp [evm, nbs]
  | n + 1, x => by
    rw [and_evm, and_evm, nbs, ← nbs_eq s n (x / 2 ^ (2 * s)), Nat.mul_add]
    have e : x / 2 ^ s / 2 ^ (2 * s) = x / 2 ^ (2 * s) / 2 ^ s := by rw [Nat.div_div_eq_div_mul, Nat.div_div_eq_div_mul, Nat.mul_comm]
    rw [e]
    omega

theorem digs_nbs (s : Nat) (hs : 1 ≤ s) : ∀ n x, digs (2 ^ (2 * s)) n (nbs s n x) = digs (2 ^ s) (2 * n) x
  | 0, x => rfl
  | n + 1, x => by
    have ha : x % 2 ^ s < 2 ^ s := Nat.mod_lt _ (Nat.two_pow_pos _)
    have hb : x / 2 ^ s % 2 ^ s < 2 ^ s := Nat.mod_lt _ (Nat.two_pow_pos _)
    have h2 : 2 ≤ 2 ^ s := Nat.le_trans (show 2 ≤ 2 ^ 1 by decide) (Nat.pow_le_pow_right (by omega) hs)
    have hq : 2 ^ (2 * s) = 2 ^ s * 2 ^ s := by rw [← Nat.pow_add]; congr 1; omega
    have hlt : x % 2 ^ s + x / 2 ^ s % 2 ^ s < 2 ^ (2 * s) := by
      have : 2 * 2 ^ s ≤ 2 ^ s * 2 ^ s := Nat.mul_le_mul_right _ h2
      omega
    rw [nbs, digs, Nat.add_mul_mod_self_left, Nat.mod_eq_of_lt hlt, Nat.add_mul_div_left _ _ (Nat.two_pow_pos _), Nat.div_eq_of_lt hlt, Nat.zero_add, digs_nbs s hs n]
    rw [show 2 * (n + 1) = 2 * n + 1 + 1 by omega, digs, digs, Nat.add_assoc]
    congr 2
    rw [Nat.div_div_eq_div_mul, ← hq]

/-- No digit of n is above c. -/
def dle (B c : Nat) : Nat → Nat → Prop
  | 0, _ => True
  | n + 1, x => x % B ≤ c ∧ dle B c n (x / B)

theorem dle_nbs (s c : Nat) (hc : ∀ x, x % 2 ^ s ≤ c) (hlt : 2 * c < 2 ^ (2 * s)) : ∀ n x, dle (2 ^ (2 * s)) (2 * c) n (nbs s n x)
  | 0, _ => trivial
  | n + 1, x => by
    have h1 := hc x
    have h2 := hc (x / 2 ^ s)
    have hl : x % 2 ^ s + x / 2 ^ s % 2 ^ s < 2 ^ (2 * s) := by omega
    rw [nbs, dle, Nat.add_mul_mod_self_left, Nat.mod_eq_of_lt hl, Nat.add_mul_div_left _ _ (Nat.two_pow_pos _), Nat.div_eq_of_lt hl, Nat.zero_add]
    exact ⟨by omega, dle_nbs s c hc hlt n _⟩
theorem dle_nbs2 (s c : Nat) (hlt : 2 * c < 2 ^ (2 * s)) : ∀ n x, dle (2 ^ s) c (2 * n) x → dle (2 ^ (2 * s)) (2 * c) n (nbs s n x)
  | 0, _, _ => trivial
  | n + 1, x, h => by
    rw [show 2 * (n + 1) = 2 * n + 1 + 1 by omega, dle, dle] at h
    obtain ⟨h1, h2, h3⟩ := h
    have hq : 2 ^ (2 * s) = 2 ^ s * 2 ^ s := by rw [← Nat.pow_add]; congr 1; omega
    have hl : x % 2 ^ s + x / 2 ^ s % 2 ^ s < 2 ^ (2 * s) := by omega
    rw [nbs, dle, Nat.add_mul_mod_self_left, Nat.mod_eq_of_lt hl, Nat.add_mul_div_left _ _ (Nat.two_pow_pos _), Nat.div_eq_of_lt hl, Nat.zero_add]
    rw [Nat.div_div_eq_div_mul, ← hq] at h3
    exact ⟨by omega, dle_nbs2 s c hlt n _ h3⟩

/-- Neighbours added first, then taken: no digit carries. -/
theorem add_and : ∀ n x, dle 16 4 (2 * n + 1) x → (x / 16 + x) &&& evm 4 n = nbs 4 n x
  | 0, x, _ => by simp [evm, nbs]
  | n + 1, x, h => by
    rw [show 2 * (n + 1) + 1 = (2 * n + 1) + 1 + 1 by omega, dle, dle] at h
    obtain ⟨h1, h2, h3⟩ := h
    have h4 : x / 16 / 16 % 16 ≤ 4 := by
      rw [dle] at h3; exact h3.1
    have ih := add_and n (x / 16 / 16) h3
    rw [and_evm, nbs]
    have e256 : x / 2 ^ (2 * 4) = x / 16 / 16 := by rw [Nat.div_div_eq_div_mul]
    have es : (x / 16 + x) / 2 ^ (2 * 4) = x / 16 / 16 / 16 + x / 16 / 16 := by
      simp only [show (2 : Nat) ^ (2 * 4) = 256 by decide]
      omega
    have em : (x / 16 + x) % 2 ^ 4 = x % 2 ^ 4 + x / 2 ^ 4 % 2 ^ 4 := by
      simp only [show (2 : Nat) ^ 4 = 16 by decide]
      omega
    rw [es, em, e256, ih]

/-- The bits 1 of sixty-four, counted. -/
theorem pop_last (z : Nat) (hz : dle 256 8 8 z) (hl : z < 18446744073709551616) :
    (((z + z / 256) + (z + z / 256) / 65536) + ((z + z / 256) + (z + z / 256) / 65536) / 4294967296) % 128 = digs 256 8 z ∧
    z + z / 256 < 18446744073709551616 ∧ (z + z / 256) + (z + z / 256) / 65536 < 18446744073709551616 ∧ ((z + z / 256) + (z + z / 256) / 65536) + ((z + z / 256) + (z + z / 256) / 65536) / 4294967296 < 18446744073709551616 := by
  simp only [dle, digs] at hz ⊢
  obtain ⟨h0, h1, h2, h3, h4, h5, h6, h7, _⟩ := hz
  have e1 : z = 256 * (z / 256) + z % 256 := by omega
  generalize z % 256 = a0 at *
  generalize z / 256 = z1 at *
  have e2 : z1 = 256 * (z1 / 256) + z1 % 256 := by omega
  generalize z1 % 256 = a1 at *
  generalize z1 / 256 = z2 at *
  have e3 : z2 = 256 * (z2 / 256) + z2 % 256 := by omega
  generalize z2 % 256 = a2 at *
  generalize z2 / 256 = z3 at *
  have e4 : z3 = 256 * (z3 / 256) + z3 % 256 := by omega
  generalize z3 % 256 = a3 at *
  generalize z3 / 256 = z4 at *
  have e5 : z4 = 256 * (z4 / 256) + z4 % 256 := by omega
  generalize z4 % 256 = a4 at *
  generalize z4 / 256 = z5 at *
  have e6 : z5 = 256 * (z5 / 256) + z5 % 256 := by omega
  generalize z5 % 256 = a5 at *
  generalize z5 / 256 = z6 at *
  have e7 : z6 = 256 * (z6 / 256) + z6 % 256 := by omega
  generalize z6 % 256 = a6 at *
  generalize z6 / 256 = z7 at *
  have e8 : z7 < 256 := by omega
  have e9 : z7 % 256 = z7 := Nat.mod_eq_of_lt e8
  rw [e9] at h7 ⊢
  subst e7 e6 e5 e4 e3 e2 e1
  clear e9 e8 hl
  have f1 : 256 * (256 * (256 * (256 * (256 * (256 * (256 * z7 + a6) + a5) + a4) + a3) + a2) + a1) + a0 + (256 * (256 * (256 * (256 * (256 * (256 * z7 + a6) + a5) + a4) + a3) + a2) + a1) = (a0 + a1) + 256 * (a1 + a2) + 65536 * ((a2 + a3) + 256 * (a3 + a4) + 65536 * ((a4 + a5) + 256 * (a5 + a6) + 65536 * ((a6 + z7) + 256 * z7))) := by omega
  rw [f1]
  have f2 : ((a0 + a1) + 256 * (a1 + a2) + 65536 * ((a2 + a3) + 256 * (a3 + a4) + 65536 * ((a4 + a5) + 256 * (a5 + a6) + 65536 * ((a6 + z7) + 256 * z7)))) / 65536 = (a2 + a3) + 256 * (a3 + a4) + 65536 * ((a4 + a5) + 256 * (a5 + a6) + 65536 * ((a6 + z7) + 256 * z7)) := by omega
  rw [f2]
  have f3 : ((a0 + a1) + 256 * (a1 + a2) + 65536 * ((a2 + a3) + 256 * (a3 + a4) + 65536 * ((a4 + a5) + 256 * (a5 + a6) + 65536 * ((a6 + z7) + 256 * z7)))) + ((a2 + a3) + 256 * (a3 + a4) + 65536 * ((a4 + a5) + 256 * (a5 + a6) + 65536 * ((a6 + z7) + 256 * z7))) = ((a0 + a1 + a2 + a3) + 256 * (a1 + a2 + a3 + a4) + 65536 * ((a2 + a3 + a4 + a5) + 256 * (a3 + a4 + a5 + a6))) + 4294967296 * ((a4 + a5 + a6 + z7) + 256 * (a5 + a6 + z7) + 65536 * ((a6 + z7) + 256 * z7)) := by omega
  rw [f3]
  have f4 : (((a0 + a1 + a2 + a3) + 256 * (a1 + a2 + a3 + a4) + 65536 * ((a2 + a3 + a4 + a5) + 256 * (a3 + a4 + a5 + a6))) + 4294967296 * ((a4 + a5 + a6 + z7) + 256 * (a5 + a6 + z7) + 65536 * ((a6 + z7) + 256 * z7))) / 4294967296 = (a4 + a5 + a6 + z7) + 256 * (a5 + a6 + z7) + 65536 * ((a6 + z7) + 256 * z7) := by omega
  rw [f4]
  clear f1 f2 f3 f4
  refine ⟨?_, ?_, ?_, ?_⟩ <;> omega

theorem nbs_lt (s : Nat) (hs : 1 ≤ s) : ∀ n x, nbs s n x < 2 ^ (2 * s * n)
  | 0, x => by simp [nbs]
  | n + 1, x => by
    have ih := nbs_lt s hs n (x / 2 ^ (2 * s))
    have ha : x % 2 ^ s < 2 ^ s := Nat.mod_lt _ (Nat.two_pow_pos _)
    have hb : x / 2 ^ s % 2 ^ s < 2 ^ s := Nat.mod_lt _ (Nat.two_pow_pos _)
    have h2 : 2 ≤ 2 ^ s := Nat.le_trans (show 2 ≤ 2 ^ 1 by decide) (Nat.pow_le_pow_right (by omega) hs)
    have hq : 2 ^ (2 * s) = 2 ^ s * 2 ^ s := by rw [← Nat.pow_add]; congr 1; omega
    have hlt : x % 2 ^ s + x / 2 ^ s % 2 ^ s < 2 ^ (2 * s) := by
      have : 2 * 2 ^ s ≤ 2 ^ s * 2 ^ s := Nat.mul_le_mul_right _ h2
      omega
    have h3 : 2 ^ (2 * s) * (nbs s n (x / 2 ^ (2 * s)) + 1) ≤ 2 ^ (2 * s) * 2 ^ (2 * s * n) := Nat.mul_le_mul_left _ ih
    rw [Nat.mul_add, ← Nat.pow_add, show 2 * s + 2 * s * n = 2 * s * (n + 1) by rw [Nat.mul_add]; omega] at h3
    rw [nbs]
    omega

theorem dle_more (B c : Nat) : ∀ n x, dle B c n x → x / B ^ n % B ≤ c → dle B c (n + 1) x
  | 0, x, _, h => by simp only [Nat.pow_zero, Nat.div_one] at h; exact ⟨h, trivial⟩
  | n + 1, x, h, h2 => by
    refine ⟨h.1, dle_more B c n (x / B) h.2 ?_⟩
    rw [Nat.div_div_eq_div_mul, ← Nat.pow_succ']
    exact h2

theorem dle_get (B c : Nat) : ∀ n x, dle B c n x → ∀ i, i < n → x / B ^ i % B ≤ c
  | 0, _, _, _, h => absurd h (by omega)
  | n + 1, x, h, 0, _ => by simp only [Nat.pow_zero, Nat.div_one]; exact h.1
  | n + 1, x, h, i + 1, hi => by
    rw [Nat.pow_succ', ← Nat.div_div_eq_div_mul]
    exact dle_get B c n (x / B) h.2 i (by omega)

/-- How math/bits counts them. -/
theorem pop_way (x : Nat) :
    ∃ y1 y2 y3 : Nat, (x / 2 &&& 6148914691236517205) + (x &&& 6148914691236517205) = y1 ∧ y1 < 18446744073709551616 ∧
      (y1 / 4 &&& 3689348814741910323) + (y1 &&& 3689348814741910323) = y2 ∧ y2 < 5764607523034234880 ∧
      (y2 / 16 + y2) &&& 1085102592571150095 = y3 ∧ y3 < 18446744073709551616 ∧
      (((y3 + y3 / 256) + (y3 + y3 / 256) / 65536) + ((y3 + y3 / 256) + (y3 + y3 / 256) / 65536) / 4294967296) % 128 = digs 2 64 x ∧
      y3 + y3 / 256 < 18446744073709551616 ∧ (y3 + y3 / 256) + (y3 + y3 / 256) / 65536 < 18446744073709551616 ∧ ((y3 + y3 / 256) + (y3 + y3 / 256) / 65536) + ((y3 + y3 / 256) + (y3 + y3 / 256) / 65536) / 4294967296 < 18446744073709551616 := by
  have m0 : evm 1 32 = 6148914691236517205 := by decide
  have m1 : evm 2 16 = 3689348814741910323 := by decide
  have m2 : evm 4 8 = 1085102592571150095 := by decide
  have d1 : dle 4 2 32 (nbs 1 32 x) := dle_nbs 1 1 (fun x => by omega) (by decide) 32 x
  have d2 : dle 16 4 16 (nbs 2 16 (nbs 1 32 x)) := dle_nbs2 2 2 (by decide) 16 _ d1
  have d3 : dle 256 8 8 (nbs 4 8 (nbs 2 16 (nbs 1 32 x))) := dle_nbs2 4 4 (by decide) 8 _ d2
  have l1 := nbs_lt 1 (by decide) 32 x
  have l2 := nbs_lt 2 (by decide) 16 (nbs 1 32 x)
  have l3 := nbs_lt 4 (by decide) 8 (nbs 2 16 (nbs 1 32 x))
  have q1 := digs_nbs 1 (by decide) 32 x
  have q2 := digs_nbs 2 (by decide) 16 (nbs 1 32 x)
  have q3 := digs_nbs 4 (by decide) 8 (nbs 2 16 (nbs 1 32 x))
  have e1 := nbs_eq 1 32 x
  have e2 := nbs_eq 2 16 (nbs 1 32 x)
  rw [m0] at e1
  rw [m1] at e2
  have t2 : nbs 2 16 (nbs 1 32 x) < 5764607523034234880 := by
    have h := dle_get 16 4 16 _ d2 15 (by decide)
    have l2' : nbs 2 16 (nbs 1 32 x) < 18446744073709551616 := by simpa using l2
    have e15 : (16 : Nat) ^ 15 = 1152921504606846976 := by decide
    rw [e15] at h
    omega
  have e3 := add_and 8 (nbs 2 16 (nbs 1 32 x)) (dle_more 16 4 16 _ d2 (by
    have : nbs 2 16 (nbs 1 32 x) / 16 ^ 16 = 0 := Nat.div_eq_of_lt (by simpa using l2)
    rw [this]; decide))
  rw [m2] at e3
  have hl := pop_last (nbs 4 8 (nbs 2 16 (nbs 1 32 x))) d3 (by simpa using l3)
  refine ⟨_, _, _, e1, by simpa using l1, e2, t2, e3, by simpa using l3, ?_, hl.2⟩
  rw [hl.1]
  exact q3.trans (q2.trans q1)

theorem and127 (y D : Nat) (h : y % 128 = D) : bits BinOp.and IntKind.i64 (wrap64 (y : Int)) 127 = (D : Int) := by
  rw [i64_and127]
  unfold wrap64
  omega

set_option maxHeartbeats 2000000 in
set_option maxRecDepth 100000 in
theorem ones_any (x : Nat) (hx : x < 18446744073709551616) (w : World) :
    Calls Tryd.prog 97 #[.int .u64 (x : Int)] w fun e w' => e = .returned (.int .i64 (digs 2 64 x : Int)) ∧ w' = w := by
  obtain ⟨y1, y2, y3, h1, l1, h2, l2, h3, l3, h4, l4, l5, l6⟩ := pop_way x
  have hw : ∀ n : Nat, n < 18446744073709551616 → IntKind.u64.wrap (n : Int) = (n : Int) := fun n hn => by
    rw [show IntKind.u64.wrap (n : Int) = (n : Int) % 18446744073709551616 from rfl]
    omega
  have e1 : IntKind.u64.wrap (bits BinOp.and IntKind.u64 ((x : Int) / 2) 6148914691236517205 + bits BinOp.and IntKind.u64 (x : Int) 6148914691236517205) = (y1 : Int) := by
    have a1 := bits_and_u64_nat (x / 2) 6148914691236517205 (by omega) (by decide)
    have a2 := bits_and_u64_nat x 6148914691236517205 hx (by decide)
    rw [show (x : Int) / 2 = ((x / 2 : Nat) : Int) by omega]
    rw [show (6148914691236517205 : Int) = ((6148914691236517205 : Nat) : Int) by rfl, a1, a2, ← Int.natCast_add, h1, hw _ l1]
  have e2 : IntKind.u64.wrap (bits BinOp.and IntKind.u64 ((y1 : Int) / 4) 3689348814741910323 + bits BinOp.and IntKind.u64 (y1 : Int) 3689348814741910323) = (y2 : Int) := by
    have a1 := bits_and_u64_nat (y1 / 4) 3689348814741910323 (by omega) (by decide)
    have a2 := bits_and_u64_nat y1 3689348814741910323 l1 (by decide)
    rw [show (y1 : Int) / 4 = ((y1 / 4 : Nat) : Int) by omega]
    rw [show (3689348814741910323 : Int) = ((3689348814741910323 : Nat) : Int) by rfl, a1, a2, ← Int.natCast_add, h2, hw _ (by omega)]
  have e3 : bits BinOp.and IntKind.u64 (IntKind.u64.wrap ((y2 : Int) / 16 + (y2 : Int))) 1085102592571150095 = (y3 : Int) := by
    have a1 := bits_and_u64_nat (y2 / 16 + y2) 1085102592571150095 (by omega) (by decide)
    rw [show (y2 : Int) / 16 + (y2 : Int) = ((y2 / 16 + y2 : Nat) : Int) by omega, hw _ (by omega)]
    rw [show (1085102592571150095 : Int) = ((1085102592571150095 : Nat) : Int) by rfl, a1, h3]
  generalize e4' : y3 + y3 / 256 = y4 at h4 l4 l5 l6
  generalize e5' : y4 + y4 / 65536 = y5 at h4 l5 l6
  generalize e6' : y5 + y5 / 4294967296 = y6 at h4 l6
  have e4 : IntKind.u64.wrap ((y3 : Int) + (y3 : Int) / 256) = (y4 : Int) := by
    rw [show (y3 : Int) + (y3 : Int) / 256 = (y4 : Int) by omega, hw _ l4]
  have e5 : IntKind.u64.wrap ((y4 : Int) + (y4 : Int) / 65536) = (y5 : Int) := by
    rw [show (y4 : Int) + (y4 : Int) / 65536 = (y5 : Int) by omega, hw _ l5]
  have e6 : IntKind.u64.wrap ((y5 : Int) + (y5 : Int) / 4294967296) = (y6 : Int) := by
    rw [show (y5 : Int) + (y5 : Int) / 4294967296 = (y6 : Int) by omega, hw _ l6]
  have e7 : bits BinOp.and IntKind.i64 (wrap64 (y6 : Int)) 127 = (digs 2 64 x : Int) := and127 y6 _ h4
  clear h1 l1 h2 l2 h3 l3 h4 l4 l5 l6 hw e4' e5' e6' hx
  generalize digs 2 64 x = D at *
  go_enter Tryd.func97, Tryd.ntmps97
  go_wp2
  go_ret
  exact ⟨rfl, rfl⟩
end Go.Proofs.YtplhlhjakapaaaaDoor
