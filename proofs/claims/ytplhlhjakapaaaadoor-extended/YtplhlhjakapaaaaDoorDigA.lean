/-
  The hash as plain Lean: words of 32 bits, rounds, blocks. My own; imports nothing of the dump.
-/
import Derived.Test.YtplhlhjakapaaaaDoorProg
import Derived.Laws.BitsAllLaws
import Derived.WalkKit
import Derived.WalkLawsBesides
import Derived.KernelRfl
import Derived.RegionTactic
import Derived.ChangeAlike
import Derived.BigRegion
import Derived.Deep.QuietTactic
import Derived.BigQuiet
import Derived.Outline
import Derived.Laws.Rows
import Derived.Laws.Tables
import Derived.Laws.CopyOwn
import Derived.Deep.RegionLaw
namespace Go.Proofs.YtplhlhjakapaaaaDoor
open Go

/-- A word as a value, a byte as a value. -/
abbrev uw (x : BitVec 32) : Value := .int .u32 (x.toNat : Int)
abbrev ub (x : UInt8) : Value := .int .u8 (x.toNat : Int)

theorem ofInt_toNat32 (x : BitVec 32) : BitVec.ofInt 32 (x.toNat : Int) = x := by
  rw [BitVec.ofInt_natCast, BitVec.ofNat_toNat, BitVec.setWidth_eq]

theorem wrap32_toNat (x : BitVec 32) : IntKind.u32.wrap (x.toNat : Int) = (x.toNat : Int) := by
  rw [IntKind.wrap_u32']
  have := x.isLt
  omega

theorem bv_xor (x y : BitVec 32) : bits .xor .u32 (x.toNat : Int) (y.toNat : Int) = ((x ^^^ y).toNat : Int) := by
  show IntKind.u32.wrap ((BitVec.ofInt 32 (x.toNat : Int) ^^^ BitVec.ofInt 32 (y.toNat : Int)).toNat : Int) = _
  rw [ofInt_toNat32, ofInt_toNat32, wrap32_toNat]
theorem bv_and (x y : BitVec 32) : bits .and .u32 (x.toNat : Int) (y.toNat : Int) = ((x &&& y).toNat : Int) := by
  show IntKind.u32.wrap ((BitVec.ofInt 32 (x.toNat : Int) &&& BitVec.ofInt 32 (y.toNat : Int)).toNat : Int) = _
  rw [ofInt_toNat32, ofInt_toNat32, wrap32_toNat]
theorem bv_or (x y : BitVec 32) : bits .or .u32 (x.toNat : Int) (y.toNat : Int) = ((x ||| y).toNat : Int) := by
  show IntKind.u32.wrap ((BitVec.ofInt 32 (x.toNat : Int) ||| BitVec.ofInt 32 (y.toNat : Int)).toNat : Int) = _
  rw [ofInt_toNat32, ofInt_toNat32, wrap32_toNat]
theorem bv_add (x y : BitVec 32) : IntKind.u32.wrap ((x.toNat : Int) + (y.toNat : Int)) = ((x + y).toNat : Int) := by
  rw [IntKind.wrap_u32', BitVec.toNat_add]
  omega
theorem bv_shl (x : BitVec 32) (n : Nat) : IntKind.u32.wrap ((x.toNat : Int) * 2 ^ n) = ((x <<< n).toNat : Int) := by
  rw [IntKind.wrap_u32', BitVec.toNat_shiftLeft, Nat.shiftLeft_eq]
  simp
theorem bv_shr (x : BitVec 32) (n : Nat) : (x.toNat : Int) / 2 ^ n = ((x >>> n).toNat : Int) := by
  rw [BitVec.toNat_ushiftRight, Nat.shiftRight_eq_div_pow]
  simp

/-- Turned to the right. -/
def rr (n : Nat) (x : BitVec 32) : BitVec 32 := (x >>> n) ||| (x <<< (32 - n))
def sm0 (x : BitVec 32) : BitVec 32 := (rr 7 x ^^^ rr 18 x) ^^^ (x >>> 3)
def sm1 (x : BitVec 32) : BitVec 32 := (rr 17 x ^^^ rr 19 x) ^^^ (x >>> 10)
def bg0 (x : BitVec 32) : BitVec 32 := (rr 2 x ^^^ rr 13 x) ^^^ rr 22 x
def bg1 (x : BitVec 32) : BitVec 32 := (rr 6 x ^^^ rr 11 x) ^^^ rr 25 x
def cho (e f g : BitVec 32) : BitVec 32 := (e &&& f) ^^^ (~~~e &&& g)
def mst (a b c : BitVec 32) : BitVec 32 := ((a &&& b) ^^^ (a &&& c)) ^^^ (b &&& c)

/-- One word more of the sixty-four, of those that are there. -/
def nextW (l : List (BitVec 32)) : BitVec 32 :=
  ((l.getD (l.length - 16) 0 + sm0 (l.getD (l.length - 15) 0)) + l.getD (l.length - 7) 0) + sm1 (l.getD (l.length - 2) 0)
def growW (l : List (BitVec 32)) : Nat → List (BitVec 32)
  | 0 => l
  | n + 1 => growW l n ++ [nextW (growW l n)]
theorem length_growW (l : List (BitVec 32)) (n : Nat) : (growW l n).length = l.length + n := by
  induction n with
  | zero => rfl
  | succ n ih => simp [growW, ih]; omega

/-- A word of four bytes. -/
def wordOf (a b c d : UInt8) : BitVec 32 := (((BitVec.ofNat 32 a.toNat <<< 24) ||| (BitVec.ofNat 32 b.toNat <<< 16)) ||| (BitVec.ofNat 32 c.toNat <<< 8)) ||| BitVec.ofNat 32 d.toNat
/-- The first k words of a block. -/
def headW (blk : List UInt8) : Nat → List (BitVec 32)
  | 0 => []
  | k + 1 => headW blk k ++ [wordOf (blk.getD (4 * k) 0) (blk.getD (4 * k + 1) 0) (blk.getD (4 * k + 2) 0) (blk.getD (4 * k + 3) 0)]
theorem length_headW (blk : List UInt8) (k : Nat) : (headW blk k).length = k := by
  induction k with
  | zero => rfl
  | succ n ih => simp [headW, ih]
def allW (blk : List UInt8) : List (BitVec 32) := growW (headW blk 16) 48
theorem length_allW (blk : List UInt8) : (allW blk).length = 64 := by simp [allW, length_growW, length_headW]

/-- What the rounds turn: eight words. -/
structure Eight where
  (a b c d e f g h : BitVec 32)
def Eight.list (s : Eight) : List (BitVec 32) := [s.a, s.b, s.c, s.d, s.e, s.f, s.g, s.h]
def Eight.one (s : Eight) (k w : BitVec 32) : BitVec 32 := (((s.h + bg1 s.e) + cho s.e s.f s.g) + k) + w
def Eight.two (s : Eight) : BitVec 32 := bg0 s.a + mst s.a s.b s.c
def Eight.step (s : Eight) (k w : BitVec 32) : Eight := ⟨s.one k w + s.two, s.a, s.b, s.c, s.d + s.one k w, s.e, s.f, s.g⟩
def Eight.steps (s : Eight) (ks ws : List (BitVec 32)) : Nat → Eight
  | 0 => s
  | n + 1 => (Eight.steps s ks ws n).step (ks.getD n 0) (ws.getD n 0)
def Eight.plus (s t : Eight) : Eight := ⟨s.a + t.a, s.b + t.b, s.c + t.c, s.d + t.d, s.e + t.e, s.f + t.f, s.g + t.g, s.h + t.h⟩
/-- A block more. -/
def Eight.mix (ks : List (BitVec 32)) (s : Eight) (blk : List UInt8) : Eight := s.plus (s.steps ks (allW blk) 64)
/-- The words of the rounds. -/
def KS : List (BitVec 32) := [1116352408, 1899447441, 3049323471, 3921009573, 961987163, 1508970993, 2453635748, 2870763221, 3624381080, 310598401, 607225278, 1426881987, 1925078388, 2162078206, 2614888103, 3248222580, 3835390401, 4022224774, 264347078, 604807628, 770255983, 1249150122, 1555081692, 1996064986, 2554220882, 2821834349, 2952996808, 3210313671, 3336571891, 3584528711, 113926993, 338241895, 666307205, 773529912, 1294757372, 1396182291, 1695183700, 1986661051, 2177026350, 2456956037, 2730485921, 2820302411, 3259730800, 3345764771, 3516065817, 3600352804, 4094571909, 275423344, 430227734, 506948616, 659060556, 883997877, 958139571, 1322822218, 1537002063, 1747873779, 1955562222, 2024104815, 2227730452, 2361852424, 2428436474, 2756734187, 3204031479, 3329325298]
/-- The words that it begins with. -/
def H0 : Eight := ⟨1779033703, 3144134277, 1013904242, 2773480762, 1359893119, 2600822924, 528734635, 1541459225⟩
end Go.Proofs.YtplhlhjakapaaaaDoor

/-
  math/bits.RotateLeft32 at the ten counts that the program hands it: a word turned to the right.
-/
namespace Go.Proofs.YtplhlhjakapaaaaDoor
open Go

theorem ret_int {k : IntKind} {a b : Int} (h : a = b) : Ending.returned (.int k a) = .returned (.int k b) := by rw [h]
theorem rr_or (x : BitVec 32) (n : Nat) (p q : Int) (hp : p = 2 ^ (32 - n)) (hq : q = 2 ^ n) : bits .or .u32 ((x.toNat : Int) * p % 4294967296) ((x.toNat : Int) / q) = ((rr n x).toNat : Int) := by
  subst hp; subst hq
  rw [← IntKind.wrap_u32', bv_shl, bv_shr, bv_or, rr, BitVec.or_comm]

theorem rot2 (x : BitVec 32) (w : World) :
    Calls Tryd.prog 135 #[.int .u32 (x.toNat : Int), .int .i64 (-2)] w fun e w' => e = .returned (.int .u32 ((rr 2 x).toNat : Int)) ∧ w' = w := by
  have hb : bits BinOp.and IntKind.u64 (IntKind.u64.wrap (-2)) 31 = 30 := by decide
  go_enter Tryd.func135, Tryd.ntmps135
  go_wp2
  go_ret
  exact ⟨ret_int (rr_or x 2 _ _ (by decide) (by decide)), rfl⟩

theorem rot6 (x : BitVec 32) (w : World) :
    Calls Tryd.prog 135 #[.int .u32 (x.toNat : Int), .int .i64 (-6)] w fun e w' => e = .returned (.int .u32 ((rr 6 x).toNat : Int)) ∧ w' = w := by
  have hb : bits BinOp.and IntKind.u64 (IntKind.u64.wrap (-6)) 31 = 26 := by decide
  go_enter Tryd.func135, Tryd.ntmps135
  go_wp2
  go_ret
  exact ⟨ret_int (rr_or x 6 _ _ (by decide) (by decide)), rfl⟩

theorem rot7 (x : BitVec 32) (w : World) :
    Calls Tryd.prog 135 #[.int .u32 (x.toNat : Int), .int .i64 (-7)] w fun e w' => e = .returned (.int .u32 ((rr 7 x).toNat : Int)) ∧ w' = w := by
  have hb : bits BinOp.and IntKind.u64 (IntKind.u64.wrap (-7)) 31 = 25 := by decide
  go_enter Tryd.func135, Tryd.ntmps135
  go_wp2
  go_ret
  exact ⟨ret_int (rr_or x 7 _ _ (by decide) (by decide)), rfl⟩

theorem rot11 (x : BitVec 32) (w : World) :
    Calls Tryd.prog 135 #[.int .u32 (x.toNat : Int), .int .i64 (-11)] w fun e w' => e = .returned (.int .u32 ((rr 11 x).toNat : Int)) ∧ w' = w := by
  have hb : bits BinOp.and IntKind.u64 (IntKind.u64.wrap (-11)) 31 = 21 := by decide
  go_enter Tryd.func135, Tryd.ntmps135
  go_wp2
  go_ret
  exact ⟨ret_int (rr_or x 11 _ _ (by decide) (by decide)), rfl⟩

theorem rot13 (x : BitVec 32) (w : World) :
    Calls Tryd.prog 135 #[.int .u32 (x.toNat : Int), .int .i64 (-13)] w fun e w' => e = .returned (.int .u32 ((rr 13 x).toNat : Int)) ∧ w' = w := by
  have hb : bits BinOp.and IntKind.u64 (IntKind.u64.wrap (-13)) 31 = 19 := by decide
  go_enter Tryd.func135, Tryd.ntmps135
  go_wp2
  go_ret
  exact ⟨ret_int (rr_or x 13 _ _ (by decide) (by decide)), rfl⟩

theorem rot17 (x : BitVec 32) (w : World) :
    Calls Tryd.prog 135 #[.int .u32 (x.toNat : Int), .int .i64 (-17)] w fun e w' => e = .returned (.int .u32 ((rr 17 x).toNat : Int)) ∧ w' = w := by
  have hb : bits BinOp.and IntKind.u64 (IntKind.u64.wrap (-17)) 31 = 15 := by decide
  go_enter Tryd.func135, Tryd.ntmps135
  go_wp2
  go_ret
  exact ⟨ret_int (rr_or x 17 _ _ (by decide) (by decide)), rfl⟩

theorem rot18 (x : BitVec 32) (w : World) :
    Calls Tryd.prog 135 #[.int .u32 (x.toNat : Int), .int .i64 (-18)] w fun e w' => e = .returned (.int .u32 ((rr 18 x).toNat : Int)) ∧ w' = w := by
  have hb : bits BinOp.and IntKind.u64 (IntKind.u64.wrap (-18)) 31 = 14 := by decide
  go_enter Tryd.func135, Tryd.ntmps135
  go_wp2
  go_ret
  exact ⟨ret_int (rr_or x 18 _ _ (by decide) (by decide)), rfl⟩

theorem rot19 (x : BitVec 32) (w : World) :
    Calls Tryd.prog 135 #[.int .u32 (x.toNat : Int), .int .i64 (-19)] w fun e w' => e = .returned (.int .u32 ((rr 19 x).toNat : Int)) ∧ w' = w := by
  have hb : bits BinOp.and IntKind.u64 (IntKind.u64.wrap (-19)) 31 = 13 := by decide
  go_enter Tryd.func135, Tryd.ntmps135
  go_wp2
  go_ret
  exact ⟨ret_int (rr_or x 19 _ _ (by decide) (by decide)), rfl⟩

theorem rot22 (x : BitVec 32) (w : World) :
    Calls Tryd.prog 135 #[.int .u32 (x.toNat : Int), .int .i64 (-22)] w fun e w' => e = .returned (.int .u32 ((rr 22 x).toNat : Int)) ∧ w' = w := by
  have hb : bits BinOp.and IntKind.u64 (IntKind.u64.wrap (-22)) 31 = 10 := by decide
  go_enter Tryd.func135, Tryd.ntmps135
  go_wp2
  go_ret
  exact ⟨ret_int (rr_or x 22 _ _ (by decide) (by decide)), rfl⟩

theorem rot25 (x : BitVec 32) (w : World) :
    Calls Tryd.prog 135 #[.int .u32 (x.toNat : Int), .int .i64 (-25)] w fun e w' => e = .returned (.int .u32 ((rr 25 x).toNat : Int)) ∧ w' = w := by
  have hb : bits BinOp.and IntKind.u64 (IntKind.u64.wrap (-25)) 31 = 7 := by decide
  go_enter Tryd.func135, Tryd.ntmps135
  go_wp2
  go_ret
  exact ⟨ret_int (rr_or x 25 _ _ (by decide) (by decide)), rfl⟩
end Go.Proofs.YtplhlhjakapaaaaDoor

namespace Go.Proofs.YtplhlhjakapaaaaDoor
open Go Go.RowKit

def hrow (s : Eight) (blk : List UInt8) (n : Int) : List Value := s.list.map uw ++ (blk.map ub ++ [.int .u64 n])
def wrow (l : List (BitVec 32)) : List Value := l.map uw ++ List.replicate (64 - l.length) (uw 0)

theorem hrow_byte (s : Eight) (blk : List UInt8) (n : Int) (j : Nat) (hj : j < blk.length) : (hrow s blk n)[8 + j]? = some (ub (blk.getD j 0)) := by
  have h8 : (s.list.map uw).length = 8 := by simp [Eight.list]
  rw [hrow, List.getElem?_append_right (by omega), h8, show 8 + j - 8 = j by omega, List.getElem?_append_left (by simpa using hj), List.getElem?_map, List.getElem?_eq_getElem hj]
  simp [hj]

theorem cell_byte {w : World} {g : Nat} {t : TypeId} {s : Eight} {blk : List UInt8} {n : Int} (hg : w.heap[g]? = some (.cells (hrow s blk n).toArray t (0, 0))) (j : Nat) (hj : j < blk.length) :
    w.cell? ⟨g, 8 + j, none⟩ = some (ub (blk.getD j 0)) := by
  rw [cell_of_row w g _ _ t _ hg, List.getElem?_toArray, hrow_byte _ _ _ _ hj]

theorem byte_word (b : UInt8) : (b.toNat : Int) % 4294967296 = ((BitVec.ofNat 32 b.toNat).toNat : Int) := by
  rw [BitVec.toNat_ofNat]; have := b.toNat_lt; omega
theorem shl_num (x : BitVec 32) (n : Nat) (q : Int) (hq : q = 2 ^ n) : (x.toNat : Int) * q % 4294967296 = ((x <<< n).toNat : Int) := by
  subst hq; rw [← IntKind.wrap_u32', bv_shl]
theorem word_bits (b0 b1 b2 b3 : UInt8) :
    bits BinOp.or IntKind.u32 (bits BinOp.or IntKind.u32 (bits BinOp.or IntKind.u32 ((b0.toNat : Int) % 4294967296 * 16777216 % 4294967296) ((b1.toNat : Int) % 4294967296 * 65536 % 4294967296)) ((b2.toNat : Int) % 4294967296 * 256 % 4294967296)) ((b3.toNat : Int) % 4294967296) = ((wordOf b0 b1 b2 b3).toNat : Int) := by
  rw [byte_word, byte_word, byte_word, byte_word, shl_num _ 24 _ (by decide), shl_num _ 16 _ (by decide), shl_num _ 8 _ (by decide), bv_or, bv_or, bv_or, wordOf]
theorem shr_num (x : BitVec 32) (n : Nat) (q : Int) (hq : q = 2 ^ n) : (x.toNat : Int) / q = ((x >>> n).toNat : Int) := by
  subst hq; exact bv_shr x n
theorem sum4 (a b c d : BitVec 32) : ((a.toNat : Int) + b.toNat + c.toNat + d.toNat) % 4294967296 = ((((a + b) + c) + d).toNat : Int) := by
  simp only [BitVec.toNat_add]; omega
theorem sm0_bits (x : BitVec 32) : bits BinOp.xor IntKind.u32 (bits BinOp.xor IntKind.u32 ((rr 7 x).toNat : Int) ((rr 18 x).toNat : Int)) ((x.toNat : Int) / 8) = ((sm0 x).toNat : Int) := by
  rw [shr_num x 3 8 (by decide), bv_xor, bv_xor, sm0]
theorem sm1_bits (x : BitVec 32) : bits BinOp.xor IntKind.u32 (bits BinOp.xor IntKind.u32 ((rr 17 x).toNat : Int) ((rr 19 x).toNat : Int)) ((x.toNat : Int) / 1024) = ((sm1 x).toNat : Int) := by
  rw [shr_num x 10 1024 (by decide), bv_xor, bv_xor, sm1]
theorem length_wrow (l : List (BitVec 32)) (h : l.length ≤ 64) : (wrow l).length = 64 := by simp [wrow]; omega
theorem wrow_set (l : List (BitVec 32)) (x : BitVec 32) (h : l.length < 64) : (wrow l).set l.length (uw x) = wrow (l ++ [x]) := by
  have e : 64 - l.length = (64 - (l.length + 1)) + 1 := by omega
  simp only [wrow, List.map_append, List.length_append, List.length_singleton, e, List.replicate_succ, List.map_cons, List.map_nil]
  rw [List.set_append_right _ _ (by simp)]
  simp
theorem wrow_at (l : List (BitVec 32)) (j : Nat) (h : j < l.length) : (wrow l)[j]? = some (uw (l.getD j 0)) := by
  simp [wrow, List.getElem?_append, h]
theorem wrow_zero (l : List (BitVec 32)) (h : l.length < 64) : (wrow l)[l.length]? = some (uw 0) := by
  rw [wrow, List.getElem?_append_right (by simp), List.length_map, Nat.sub_self, List.getElem?_replicate, if_pos (by omega)]
theorem row_store {w : World} {g : Nat} {t : TypeId} {l : List (BitVec 32)} (x : BitVec 32) (hg : w.heap[g]? = some (.cells (wrow l).toArray t (0, 0))) (h : l.length < 64) :
    (w.setCell ⟨g, l.length, none⟩ (uw x)).heap[g]? = some (.cells (wrow (l ++ [x])).toArray t (0, 0)) := by
  rw [heap_setCell_same _ _ _ _ _ _ hg, List.setIfInBounds_toArray, wrow_set _ _ h]

theorem info166 (c : List Value) (h : c.length = 64) : (Tryd.prog.info? 199).map (·.size) = some c.toArray.size := by
  rw [List.size_toArray, h]; kernel_rfl
theorem wrow_one (l : List (BitVec 32)) : (wrow l).toArray.all (·.oneCell') = true := by
  rw [Array.all_eq_true_iff_forall_mem]
  intro v hv
  simp only [wrow, List.mem_toArray, List.mem_append, List.mem_map, List.mem_replicate] at hv
  rcases hv with ⟨x, _, rfl⟩ | ⟨_, rfl⟩ <;> rfl
theorem wrow_full (l : List (BitVec 32)) (h : l.length = 64) : wrow l = l.map uw := by simp [wrow, h]
theorem al102 : Tryd.prog.arrayLen 120 = 64 := by simp [Program.arrayLen, Tryd.underlying120]
theorem slice_block (g k : Nat) (hlt : k < 16) (W : World) :
    (Instr.sliceAt 120 (.pointer (some ⟨g, 8, none⟩)) (some (.int .i64 (4 * (k : Int)))) (some (.int .i64 (4 * (k : Int) + 4))) none).run Tryd.prog W = .ok (.slice (some ⟨g, 8 + 4 * k, none⟩) 4 (64 - 4 * k)) W := by
  rw [run_sliceAt_array_lh W 120 ⟨g, 8, none⟩ (by simp [Program.arrayLen, Program.elem, Tryd.underlying120]) .i64 .i64 _ _ (by omega) (by omega) (by rw [al102]; omega), al102]
  have h1 : ((4 : Int) * (k : Int)).toNat = 4 * k := by omega
  have h2 : ((4 : Int) * (k : Int) + 4).toNat = 4 * k + 4 := by omega
  have h3 : ¬ 64 = 4 * k := by omega
  rw [h1, h2]
  have h4 : 4 * k + 4 - 4 * k = 4 := by omega
  simp [go_sem, Program.elem, Tryd.underlying120, h3, h4, Addr.add]

set_option maxRecDepth 100000 in
theorem words_any (g : Nat) (t : TypeId) (s : Eight) (blk : List UInt8) (n : Int) (hblk : blk.length = 64) (w : World)
    (hg : w.heap[g]? = some (.cells (hrow s blk n).toArray t (0, 0))) :
    Calls Tryd.prog 134 #[.pointer (some ⟨g, 0, none⟩)] w fun e w' => e = .returned (.agg ((allW blk).map uw).toArray) ∧ w.grownBy w' none := by
  have hgs : g < w.heap.size := (Array.getElem?_eq_some_iff.1 hg).1
  go_enter Tryd.func134, Tryd.ntmps134
  go_wp2
  go_loopw [9] (fun i wr => ∃ k : Nat, k ≤ 16 ∧ i = .int .i64 k ∧ wr.heap[w.heap.size + 1]? = some (.cells (wrow (headW blk k)).toArray 199 (0, 0)) ∧ wr.heap[w.heap.size]? = some (.cells (wrow []).toArray 199 (0, 0)) ∧ Below w.heap.size w wr)
    (fun i _ => 16 - (intOf i).toNat)
  case atStart =>
    refine ⟨0, by omega, rfl, ?_, ?_, ?_⟩
    · exact heap_alloc2_new _ _ _
    · exact heap_alloc2_old _ _ _
    · exact ((Below.refl _ _).alloc (Nat.le_refl _) _).alloc (by simp) _
  case round =>
    obtain ⟨k, hk, rfl, hrow1, hrow0, hb⟩ := hrel
    by_cases hlt : k < 16
    · have hgr : wr.heap[g]? = some (.cells (hrow s blk n).toArray t (0, 0)) := (hb.block g hgs).trans hg
      have c0 : wr.cell? ⟨g, 8 + 4 * k, none⟩ = some (ub (blk.getD (4 * k) 0)) := cell_byte hgr (4 * k) (by omega)
      have c1 : wr.cell? ⟨g, 8 + 4 * k + 1, none⟩ = some (ub (blk.getD (4 * k + 1) 0)) := cell_byte hgr (4 * k + 1) (by omega)
      have c2 : wr.cell? ⟨g, 8 + 4 * k + 2, none⟩ = some (ub (blk.getD (4 * k + 2) 0)) := cell_byte hgr (4 * k + 2) (by omega)
      have c3 : wr.cell? ⟨g, 8 + 4 * k + 3, none⟩ = some (ub (blk.getD (4 * k + 3) 0)) := cell_byte hgr (4 * k + 3) (by omega)
      have cw : wr.cell? ⟨w.heap.size + 1, k, none⟩ = some (uw 0) := by
        rw [cell_of_row wr _ _ _ _ _ hrow1, List.getElem?_toArray]
        have := wrow_zero (headW blk k) (by rw [length_headW]; omega)
        rwa [length_headW] at this
      have fw : wr.frozen? ⟨w.heap.size + 1, k, none⟩ = false := frozen_of_row wr _ _ _ _ hrow1
      generalize e0 : blk.getD (4 * k) 0 = b0 at c0
      have E0 : Hid (blk.getD (4 * k) 0 = b0) := e0
      clear e0
      generalize e1 : blk.getD (4 * k + 1) 0 = b1 at c1
      have E1 : Hid (blk.getD (4 * k + 1) 0 = b1) := e1
      clear e1
      generalize e2 : blk.getD (4 * k + 2) 0 = b2 at c2
      have E2 : Hid (blk.getD (4 * k + 2) 0 = b2) := e2
      clear e2
      generalize e3 : blk.getD (4 * k + 3) 0 = b3 at c3
      have E3 : Hid (blk.getD (4 * k + 3) 0 = b3) := e3
      clear e3
      clear hgr
      have hsl := slice_block g k hlt
      go_wp2
      go_region
      have hw1 : wordOf b0 b1 b2 b3 = wordOf (blk.getD (4 * k) 0) (blk.getD (4 * k + 1) 0) (blk.getD (4 * k + 2) 0) (blk.getD (4 * k + 3) 0) := by rw [E0.out, E1.out, E2.out, E3.out]
      rw [word_bits, hw1]
      clear hw1
      have hS := row_store (wordOf (blk.getD (4 * k) 0) (blk.getD (4 * k + 1) 0) (blk.getD (4 * k + 2) 0) (blk.getD (4 * k + 3) 0)) hrow1 (by rw [length_headW]; omega)
      rw [length_headW] at hS
      go_wp2
      go_roundw
      case rel => exact ⟨k + 1, by omega, by go_num, hS, (heap_setCell_other _ _ _ _ (by simp)).trans hrow0, (hb.setCell (by simp) _).drew⟩
      case measure => simp [intOf]; omega
    · have hk16 : k = 16 := by omega
      rw [hk16] at hrow1
      clear hk16
      have hge : (decide ((k : Int) < 16)) = false := by simp; omega
      go_wp2
      go_loopw [6] (fun i wq => ∃ k : Nat, 16 ≤ k ∧ k ≤ 64 ∧ i = .int .i64 (k : Int) ∧ wq.heap[w.heap.size + 1]? = some (.cells (wrow (growW (headW blk 16) (k - 16))).toArray 199 (0, 0)) ∧ wq.heap[w.heap.size]? = some (.cells (wrow []).toArray 199 (0, 0)) ∧ Below w.heap.size w wq)
        (fun i _ => 64 - (intOf i).toNat)
      case atStart => exact ⟨16, by omega, by omega, rfl, hrow1, hrow0, hb⟩
      case round =>
        clear hrow1 hrow0 hb hlt hk hge
        obtain ⟨k, hk1, hk, rfl, hrow1, hrow0, hb⟩ := hrel
        by_cases hlt : k < 64
        · have hl := length_growW (headW blk 16) (k - 16)
          rw [length_headW] at hl
          generalize hL : growW (headW blk 16) (k - 16) = L at hrow1 hl
          have HL : Hid (growW (headW blk 16) (k - 16) = L) := hL
          clear hL
          have HLk : Hid (L.length = k) := (by omega : L.length = k)
          have cc : ∀ d : Nat, 0 < d → d ≤ 16 → wr.cell? ⟨w.heap.size + 1, k - d, none⟩ = some (uw (L.getD (L.length - d) 0)) := fun d h0 h1 => by
            rw [cell_of_row wr _ _ _ _ _ hrow1, List.getElem?_toArray, wrow_at _ _ (by have := HLk.out; omega), HLk.out]
          clear hl
          have c15 := cc 15 (by omega) (by omega)
          have c2 := cc 2 (by omega) (by omega)
          have c16 := cc 16 (by omega) (by omega)
          have c7 := cc 7 (by omega) (by omega)
          clear cc
          have t15 : ((k : Int) - 15).toNat = k - 15 := by omega
          have t2 : ((k : Int) - 2).toNat = k - 2 := by omega
          have t16 : ((k : Int) - 16).toNat = k - 16 := by omega
          have t7 : ((k : Int) - 7).toNat = k - 7 := by omega
          generalize e15 : L.getD (L.length - 15) 0 = x15 at c15
          generalize e2 : L.getD (L.length - 2) 0 = x2 at c2
          generalize e16 : L.getD (L.length - 16) 0 = x16 at c16
          generalize e7 : L.getD (L.length - 7) 0 = x7 at c7
          have E15 : Hid (L.getD (L.length - 15) 0 = x15) := e15
          have E2 : Hid (L.getD (L.length - 2) 0 = x2) := e2
          have E16 : Hid (L.getD (L.length - 16) 0 = x16) := e16
          have E7 : Hid (L.getD (L.length - 7) 0 = x7) := e7
          clear e15 e2 e16 e7
          have b15 : (15 : Int) ≤ (k : Int) := by omega
          have d15 : (k : Int) - 15 < 64 := by omega
          have d2 : (k : Int) - 2 < 64 := by omega
          go_wp2
          go_quiet (fail)
          have fw : wr.frozen? ⟨w.heap.size + 1, k, none⟩ = false := frozen_of_row wr _ _ _ _ hrow1
          have cw : wr.cell? ⟨w.heap.size + 1, k, none⟩ = some (uw 0) := by
            rw [cell_of_row wr _ _ _ _ _ hrow1, List.getElem?_toArray]
            have := wrow_zero L (by rw [HLk.out]; omega)
            rwa [HLk.out] at this
          have d16 : (k : Int) - 16 < 64 := by omega
          have d7 : (k : Int) - 7 < 64 := by omega
          have d0 : (k : Int) < 64 := by omega
          go_wp2_with fail
          refine (rot7 x15 _).mono ?_
          rintro e w' ⟨rfl, rfl⟩
          go_wp2_with fail
          refine (rot18 x15 _).mono ?_
          rintro e w' ⟨rfl, rfl⟩
          go_wp2_with fail
          refine (rot17 x2 _).mono ?_
          rintro e w' ⟨rfl, rfl⟩
          go_wp2_with fail
          refine (rot19 x2 _).mono ?_
          rintro e w' ⟨rfl, rfl⟩
          go_wp2_with fail
          go_region
          rw [sm0_bits, sm1_bits, sum4]
          have hS := row_store (w := wr.drewN (nq + 1)) (nextW L) hrow1 (by rw [HLk.out]; omega)
          rw [HLk.out] at hS
          have hN : x16 + sm0 x15 + x7 + sm1 x2 = nextW L := by rw [nextW, E15.out, E2.out, E16.out, E7.out]
          rw [hN]
          have hG : growW (headW blk 16) (k + 1 - 16) = L ++ [nextW L] := by
            rw [show k + 1 - 16 = (k - 16) + 1 by omega, growW, HL.out]
          have HG : Hid (growW (headW blk 16) (k + 1 - 16) = L ++ [nextW L]) := hG
          clear hG hN
          go_wp2
          go_roundw
          case rel => exact ⟨k + 1, by omega, by omega, by go_num, by rw [HG.out]; exact hS, (heap_setCell_other _ _ _ _ (by simp)).trans hrow0, ⟨hb.os, hb.tape, hb.output, by simpa using hb.size, fun j hj => (heap_setCell_other _ _ _ _ (by simp; omega)).trans (hb.block j hj)⟩⟩
          case measure => simp [intOf]; omega
        · have hk64 : k = 64 := by omega
          subst hk64
          clear hlt hk hk1
          have hA : growW (headW blk 16) (64 - 16) = allW blk := rfl
          rw [hA] at hrow1
          clear hA
          have hl := length_allW blk
          have i1 := info166 (wrow (allW blk)) (length_wrow _ (by omega))
          have o1 : (wrow []).toArray.size = (wrow (allW blk)).toArray.size := by rw [List.size_toArray, List.size_toArray, length_wrow _ (by simp), length_wrow _ (by omega)]
          have HI : Hid _ := i1
          have HO : Hid _ := o1
          clear i1 o1
          go_wp2_with (first
            | (refine wpList_load_row rfl 199 _ rfl (w.heap.size + 1) rfl 199 _ (0, 0) _ hrow1 Tryd.underlying199 rfl HI.out ?_)
            | (refine wpList_store_row rfl 199 _ _ rfl w.heap.size _ rfl rfl 199 _ hrow0 HI.out HO.out (wrow_one _) ?_))
          refine bodyPost_ret (v := .agg (wrow (allW blk)).toArray) (results_cell_row Tryd.results134 _ _ w.heap.size 199 _ (0, 0) _ rfl (setRow_heap wr _ _ _ 199 _ hrow0) Tryd.underlying199 rfl HI.out) rfl ⟨by rw [wrow_full _ hl], ?_⟩
          exact ⟨hb.os, hb.tape, hb.output, by rw [size_setRow]; exact hb.size, fun j hj _ => (setRow_other wr _ j _ (by omega)).trans (hb.block j hj)⟩
end Go.Proofs.YtplhlhjakapaaaaDoor

namespace Go.Proofs.YtplhlhjakapaaaaDoor
open Go Go.RowKit

/-- The table lies where the program has it. -/
def Tab (w : World) : Prop := ∀ j, j < 64 → w.cell? ⟨1, j, none⟩ = some (uw (KS.getD j 0))

theorem hrow_word (s : Eight) (blk : List UInt8) (n : Int) (j : Nat) (hj : j < 8) : (hrow s blk n)[j]? = some (uw (s.list.getD j 0)) := by
  rw [hrow, List.getElem?_append_left (by simp [Eight.list]; omega), List.getElem?_map, List.getElem?_eq_getElem (by simp [Eight.list]; omega)]
  simp [Eight.list, hj]
theorem cell_word {w : World} {g : Nat} {t : TypeId} {s : Eight} {blk : List UInt8} {n : Int} (hg : w.heap[g]? = some (.cells (hrow s blk n).toArray t (0, 0))) (j : Nat) (hj : j < 8) :
    w.cell? ⟨g, j, none⟩ = some (uw (s.list.getD j 0)) := by
  rw [cell_of_row w g _ _ t _ hg, List.getElem?_toArray, hrow_word _ _ _ _ hj]

theorem cells8 {w : World} {g : Nat} {t : TypeId} {s : Eight} {blk : List UInt8} {n : Int} (hg : w.heap[g]? = some (.cells (hrow s blk n).toArray t (0, 0))) :
    w.cell? ⟨g, 0, none⟩ = some (uw s.a) ∧ w.cell? ⟨g, 1, none⟩ = some (uw s.b) ∧ w.cell? ⟨g, 2, none⟩ = some (uw s.c) ∧ w.cell? ⟨g, 3, none⟩ = some (uw s.d) ∧
    w.cell? ⟨g, 4, none⟩ = some (uw s.e) ∧ w.cell? ⟨g, 5, none⟩ = some (uw s.f) ∧ w.cell? ⟨g, 6, none⟩ = some (uw s.g) ∧ w.cell? ⟨g, 7, none⟩ = some (uw s.h) :=
  ⟨cell_word hg 0 (by decide), cell_word hg 1 (by decide), cell_word hg 2 (by decide), cell_word hg 3 (by decide), cell_word hg 4 (by decide), cell_word hg 5 (by decide), cell_word hg 6 (by decide), cell_word hg 7 (by decide)⟩
theorem not_bits (x : BitVec 32) : bits .xor .u32 4294967295 (x.toNat : Int) = ((~~~x).toNat : Int) := by
  have h : (4294967295 : Int) = ((BitVec.allOnes 32).toNat : Int) := by decide
  rw [h, bv_xor, BitVec.allOnes_xor]
def nt (x : BitVec 32) : BitVec 32 := ~~~x
theorem unary_not32 (x : BitVec 32) : Op.unary .xor (.int .u32 (x.toNat : Int)) = pure (.int .u32 ((nt x).toNat : Int)) := by
  rw [unary_xor, intBits_xor, nt, ← not_bits]
  rfl
theorem bg1_bits (x : BitVec 32) : bits BinOp.xor IntKind.u32 (bits BinOp.xor IntKind.u32 ((rr 6 x).toNat : Int) ((rr 11 x).toNat : Int)) ((rr 25 x).toNat : Int) = ((bg1 x).toNat : Int) := by
  rw [bv_xor, bv_xor, bg1]
theorem bg0_bits (x : BitVec 32) : bits BinOp.xor IntKind.u32 (bits BinOp.xor IntKind.u32 ((rr 2 x).toNat : Int) ((rr 13 x).toNat : Int)) ((rr 22 x).toNat : Int) = ((bg0 x).toNat : Int) := by
  rw [bv_xor, bv_xor, bg0]
theorem cho_bits (e f g : BitVec 32) : bits BinOp.xor IntKind.u32 (bits BinOp.and IntKind.u32 (e.toNat : Int) (f.toNat : Int)) (bits BinOp.and IntKind.u32 ((nt e).toNat : Int) (g.toNat : Int)) = ((cho e f g).toNat : Int) := by
  rw [bv_and, bv_and, bv_xor, cho, nt]
theorem mst_bits (a b c : BitVec 32) : bits BinOp.xor IntKind.u32 (bits BinOp.xor IntKind.u32 (bits BinOp.and IntKind.u32 (a.toNat : Int) (b.toNat : Int)) (bits BinOp.and IntKind.u32 (a.toNat : Int) (c.toNat : Int))) (bits BinOp.and IntKind.u32 (b.toNat : Int) (c.toNat : Int)) = ((mst a b c).toNat : Int) := by
  rw [bv_and, bv_and, bv_and, bv_xor, bv_xor, mst]
theorem step_a_bits (T : Eight) (k v : BitVec 32) : Value.int IntKind.u32 ((((T.h.toNat : Int) + (bg1 T.e).toNat + (cho T.e T.f T.g).toNat + k.toNat + v.toNat) % 4294967296 + ((bg0 T.a).toNat + (mst T.a T.b T.c).toNat : Int) % 4294967296) % 4294967296) = uw (T.step k v).a := by
  show Value.int _ _ = Value.int _ _
  congr 1
  simp only [Eight.step, Eight.one, Eight.two, BitVec.toNat_add]
  omega
theorem step_e_bits (T : Eight) (k v : BitVec 32) : Value.int IntKind.u32 (((T.d.toNat : Int) + ((T.h.toNat : Int) + (bg1 T.e).toNat + (cho T.e T.f T.g).toNat + k.toNat + v.toNat) % 4294967296) % 4294967296) = uw (T.step k v).e := by
  show Value.int _ _ = Value.int _ _
  congr 1
  simp only [Eight.step, Eight.one, BitVec.toNat_add]
  omega
/-- The words when the first k have been added up. -/
def plusTo (s T : Eight) (k : Nat) : List (BitVec 32) := (s.plus T).list.take k ++ s.list.drop k
def hrowL (l : List (BitVec 32)) (blk : List UInt8) (n : Int) : List Value := l.map uw ++ (blk.map ub ++ [.int .u64 n])
theorem plusTo_at (s T : Eight) (k : Nat) (hk : k < 8) (blk : List UInt8) (n : Int) : (hrowL (plusTo s T k) blk n)[k]? = some (uw (s.list.getD k 0)) := by
  match k, hk with
  | 0, _ | 1, _ | 2, _ | 3, _ | 4, _ | 5, _ | 6, _ | 7, _ => rfl
theorem plusTo_set (s T : Eight) (k : Nat) (hk : k < 8) (blk : List UInt8) (n : Int) : (hrowL (plusTo s T k) blk n).set k (uw (s.list.getD k 0 + T.list.getD k 0)) = hrowL (plusTo s T (k + 1)) blk n := by
  match k, hk with
  | 0, _ | 1, _ | 2, _ | 3, _ | 4, _ | 5, _ | 6, _ | 7, _ => rfl
theorem index8 (T : Eight) (k : Nat) (hk : k < 8) (W : World) :
    (Instr.index 119 (.agg #[uw T.a, uw T.b, uw T.c, uw T.d, uw T.e, uw T.f, uw T.g, uw T.h]) (.int .i64 (k : Int))).run Tryd.prog W = .ok (uw (T.list.getD k 0)) W := by
  obtain rfl | rfl | rfl | rfl | rfl | rfl | rfl | rfl : k = 0 ∨ k = 1 ∨ k = 2 ∨ k = 3 ∨ k = 4 ∨ k = 5 ∨ k = 6 ∨ k = 7 := by omega
  all_goals kernel_rfl
theorem row_plus {w : World} {g : Nat} {t : TypeId} {s T : Eight} {k : Nat} {blk : List UInt8} {n : Int} (hk : k < 8) (hg : w.heap[g]? = some (.cells (hrowL (plusTo s T k) blk n).toArray t (0, 0))) :
    (w.setCell ⟨g, k, none⟩ (uw (s.list.getD k 0 + T.list.getD k 0))).heap[g]? = some (.cells (hrowL (plusTo s T (k + 1)) blk n).toArray t (0, 0)) := by
  rw [heap_setCell_same _ _ _ _ _ _ hg, List.setIfInBounds_toArray, plusTo_set _ _ _ hk]
theorem sum2 (a b : BitVec 32) : ((a.toNat : Int) + b.toNat) % 4294967296 = ((a + b).toNat : Int) := by
  simp only [BitVec.toNat_add]; omega
theorem store_new {P : Program} {ops : Array Oper} {rest : List Oper} {o : Oper} {a : Act} {w : World} {Q : Exit → Act → World → Prop} (hgd : o.guard = none) (ty : TypeId) (x y : Operand) (ho : o.op = .store ty x y)
    (cells old : Array Value) (t : TypeId) (hx : a.eval x = .pointer (some ⟨w.heap.size, 0, none⟩)) (hy : a.eval y = .agg cells)
    (hi : (P.info? ty).map (·.size) = some cells.size) (hold : old.size = cells.size) (h1 : cells.all (·.oneCell') = true)
    (h : ∀ W, W.heap[w.heap.size]? = some (.cells cells t (0, 0)) → W.heap.size = w.heap.size + 1 → w.grownBy W none → wpList P ops Q rest (a.put o.dst undef) W) :
    wpList P ops Q (o :: rest) a (w.alloc (.cells old t)) := by
  refine wpList_store_row hgd ty x y ho w.heap.size cells hx hy t old (heap_alloc_new _ _) hi hold h1 (h _ ?_ ?_ ?_)
  · exact setRow_heap _ _ _ _ t _ (heap_alloc_new _ _)
  · simp
  · exact ⟨rfl, rfl, rfl, by simp, fun k hk _ => (setRow_other _ _ k _ (by omega)).trans (Below.heap_alloc _ _ _ hk)⟩

set_option maxHeartbeats 1600000 in
set_option maxRecDepth 100000 in
theorem mix_any (g : Nat) (t : TypeId) (s : Eight) (blk : List UInt8) (n : Int) (hblk : blk.length = 64) (w : World) (hg1 : 1 < g) (hT : Tab w)
    (hg : w.heap[g]? = some (.cells (hrow s blk n).toArray t (0, 0))) :
    Calls Tryd.prog 102 #[.pointer (some ⟨g, 0, none⟩)] w fun e w' => e = .returned (.tuple #[]) ∧ w'.heap[g]? = some (.cells (hrow (s.mix KS blk) blk n).toArray t (0, 0)) ∧ w.grownBy w' (some g) := by
  have hgs : g < w.heap.size := (Array.getElem?_eq_some_iff.1 hg).1
  have HT : Hid (Tab w) := hT
  clear hT
  go_enter Tryd.func102, Tryd.ntmps102
  go_wp2_with fail
  refine (words_any g t s blk n hblk w hg).mono ?_
  rintro e w1 ⟨rfl, hG1⟩
  have hl := length_allW blk
  have HW : Hid ((allW blk).length = 64) := hl
  generalize eW : allW blk = ws at hl HW ⊢
  have EW : Hid (allW blk = ws) := eW
  clear eW hl
  have hI : (Tryd.prog.info? 199).map (·.size) = some (ws.map uw).toArray.size := info166 _ (by simp [HW.out])
  have HI : Hid _ := hI
  have HO : ∀ A : Array Value, A.size = 64 → A.size = (ws.map uw).toArray.size := fun A h => by simp [HW.out, h]
  have HN : (ws.map uw).toArray.all (·.oneCell') = true := by
    rw [← wrow_full _ HW.out]; exact wrow_one _
  have HO' : Hid _ := HO
  have HN' : Hid _ := HN
  clear hI HO HN
  have hgw1 : w1.heap[g]? = some (.cells (hrow s blk n).toArray t (0, 0)) := (hG1.block g hgs (by simp)).trans hg
  have HG1 : Hid _ := hgw1
  have hgs1 : g < w1.heap.size := by have := hG1.size; omega
  clear hgw1
  go_wp2_with (first | (refine store_new rfl 199 _ _ rfl _ _ _ rfl rfl HI.out ?h2 HN'.out ?_; rotate_left; intro W2 hW2 hs2 hG2; have hgw2 := (hG2.block g hgs1 (by simp)).trans HG1.out; obtain ⟨c0, c1, c2, c3, c4, c5, c6, c7⟩ := cells8 hgw2))
  case h2 => exact HO'.out _ rfl
  clear c0 c1 c2 c3 c4 c5 c6 c7
  go_quiet (fail)
  have hG3 : w.grownBy (W2.alloc (Obj.cells #[uw s.a, uw s.b, uw s.c, uw s.d, uw s.e, uw s.f, uw s.g, uw s.h] 119)) none :=
    ⟨hG2.os.trans hG1.os, hG2.tape.trans hG1.tape, hG2.output.trans hG1.output, by have := hG1.size; simp; omega, fun k hk _ => by
      have := hG1.size
      rw [Below.heap_alloc _ _ _ (by omega), hG2.block k (by omega) (by simp), hG1.block k hk (by simp)]⟩
  have hgw3 : (W2.alloc (Obj.cells #[uw s.a, uw s.b, uw s.c, uw s.d, uw s.e, uw s.f, uw s.g, uw s.h] 119)).heap[g]? = some (.cells (hrow s blk n).toArray t (0, 0)) := (Below.heap_alloc _ _ _ (by omega)).trans hgw2
  have hW3 : (W2.alloc (Obj.cells #[uw s.a, uw s.b, uw s.c, uw s.d, uw s.e, uw s.f, uw s.g, uw s.h] 119)).heap[w1.heap.size]? = some (.cells (ws.map uw).toArray 199 (0, 0)) := (Below.heap_alloc _ _ _ (by omega)).trans hW2
  have hT3 : Hid (Tab (W2.alloc (Obj.cells #[uw s.a, uw s.b, uw s.c, uw s.d, uw s.e, uw s.f, uw s.g, uw s.h] 119))) := fun j hj =>
    (World.cell?_of_block (w := w) (hG3.block 1 (by omega) (by simp))).trans (HT.out j hj)
  clear hgw2 hW2 hG2
  generalize W2.alloc (Obj.cells #[uw s.a, uw s.b, uw s.c, uw s.d, uw s.e, uw s.f, uw s.g, uw s.h] 119) = W3 at hG3 hgw3 hW3 hT3 ⊢
  go_wp2
  go_loopw [4, 5, 6, 7, 8, 9, 10, 11, 42] (fun a b c d e f g h i wr => ∃ k : Nat, k ≤ 64 ∧ i = .int .i64 k ∧ (∃ q, wr = W3.drewN q) ∧
      ∃ T : Eight, Hid (s.steps KS ws k = T) ∧ a = uw T.a ∧ b = uw T.b ∧ c = uw T.c ∧ d = uw T.d ∧ e = uw T.e ∧ f = uw T.f ∧ g = uw T.g ∧ h = uw T.h)
    (fun _ _ _ _ _ _ _ _ i _ => 64 - (intOf i).toNat)
  case atStart => exact ⟨0, by omega, rfl, ⟨_, rfl⟩, s, rfl, rfl, rfl, rfl, rfl, rfl, rfl, rfl, rfl⟩
  case round =>
    obtain ⟨k, hk, rfl, ⟨q, rfl⟩, T, HTk, rfl, rfl, rfl, rfl, rfl, rfl, rfl, rfl⟩ := hrel
    by_cases hlt : k < 64
    · obtain ⟨ta, tb, tc, td, te, tf, tg, th⟩ := T
      have cT : W3.cell? ⟨1, k, none⟩ = some (uw (KS.getD k 0)) := hT3.out k hlt
      have cW : W3.cell? ⟨w1.heap.size, k, none⟩ = some (uw (ws.getD k 0)) := by
        rw [cell_of_row W3 _ _ _ _ _ hW3, List.getElem?_toArray, List.getElem?_map, List.getElem?_eq_getElem (by rw [HW.out]; omega)]
        have := HW.out
        simp [this, hlt]
      generalize eK : KS.getD k 0 = kk at cT
      generalize eV : ws.getD k 0 = vv at cW
      have EK : Hid (KS.getD k 0 = kk) := eK
      have EV : Hid (ws.getD k 0 = vv) := eV
      clear eK eV
      have d0 : (k : Int) < 64 := by omega
      have hnot := unary_not32 te
      have hb1 := bg1_bits te
      have hch := cho_bits te tf tg
      have hb0 := bg0_bits ta
      have hmst := mst_bits ta tb tc
      go_wp2_with fail
      refine (rot6 te _).mono ?_
      rintro e w' ⟨rfl, rfl⟩
      go_wp2_with fail
      refine (rot11 te _).mono ?_
      rintro e w' ⟨rfl, rfl⟩
      go_wp2_with fail
      refine (rot25 te _).mono ?_
      rintro e w' ⟨rfl, rfl⟩
      go_wp2_with fail
      go_quiet (fail)
      go_wp2_with fail
      refine (rot2 ta _).mono ?_
      rintro e w' ⟨rfl, rfl⟩
      go_wp2_with fail
      refine (rot13 ta _).mono ?_
      rintro e w' ⟨rfl, rfl⟩
      go_wp2_with fail
      refine (rot22 ta _).mono ?_
      rintro e w' ⟨rfl, rfl⟩
      go_wp2_with fail
      refine ⟨⟨k + 1, by omega, by go_num, ⟨_, rfl⟩, (Eight.mk ta tb tc td te tf tg th).step kk vv, ?_, step_a_bits ⟨ta, tb, tc, td, te, tf, tg, th⟩ kk vv, rfl, rfl, rfl, step_e_bits ⟨ta, tb, tc, td, te, tf, tg, th⟩ kk vv, rfl, rfl, rfl⟩, by simp [intOf]; omega⟩
      show s.steps KS ws (k + 1) = _
      rw [Eight.steps, HTk.out, EK.out, EV.out]
    · have hk64 : k = 64 := by omega
      rw [hk64] at HTk
      clear hk64
      have hge : decide ((k : Int) < 64) = false := by simp; omega
      clear hlt hk
      go_wp2
      go_loopw [118] (fun i wr => ∃ k : Nat, k ≤ 8 ∧ i = .int .i64 k ∧ wr.heap[g]? = some (.cells (hrowL (plusTo s T k) blk n).toArray t (0, 0)) ∧ w.grownBy wr (some g))
        (fun i _ => 8 - (intOf i).toNat)
      case atStart => exact ⟨0, by omega, rfl, hgw3, ⟨hG3.os, hG3.tape, hG3.output, hG3.size, fun j hj _ => hG3.block j hj (by simp)⟩⟩
      case round =>
        clear hgw3 hW3 hT3 hG3 hge
        obtain ⟨k, hk, rfl, hrow, hGr⟩ := hrel
        by_cases hlt : k < 8
        · have hix := index8 T k hlt
          have cg : wr.cell? ⟨g, k, none⟩ = some (uw (s.list.getD k 0)) := by rw [cell_of_row wr _ _ _ _ _ hrow, List.getElem?_toArray, plusTo_at _ _ _ hlt]
          have fg : wr.frozen? ⟨g, k, none⟩ = false := frozen_of_row wr _ _ _ _ hrow
          have hS := row_plus (w := wr) hlt hrow
          have HS : Hid _ := hS
          clear hS
          generalize eS : s.list.getD k 0 = sk at cg HS
          generalize eT : T.list.getD k 0 = tk at hix HS
          clear eS eT
          have d0 : (k : Int) < 8 := by omega
          go_wp2_with fail
          go_region
          rw [sum2]
          go_wp2
          go_roundw
          case rel => exact ⟨k + 1, by omega, by go_num, HS.out, ⟨hGr.os, hGr.tape, hGr.output, by simpa using hGr.size, fun j hj hne => (heap_setCell_other _ _ _ _ (by simpa using hne)).trans (hGr.block j hj hne)⟩⟩
          case measure => simp [intOf]; omega
        · have hk8 : k = 8 := by omega
          rw [hk8] at hrow
          clear hk8
          have hge : decide ((k : Int) < 8) = false := by simp; omega
          clear hlt hk
          go_wp2
          go_end0
          refine ⟨rfl, ?_, hGr⟩
          have hM : s.mix KS blk = s.plus T := by rw [Eight.mix, EW.out, HTk.out]
          rw [hM]
          exact hrow
end Go.Proofs.YtplhlhjakapaaaaDoor

/-
  What a hasher has taken in: the message, its full blocks mixed, the rest waiting. Plain Lean, my own.
-/
namespace Go.Proofs.YtplhlhjakapaaaaDoor
open Go

/-- The first n blocks of a message, mixed. -/
def mixN (s : Eight) (M : List UInt8) : Nat → Eight
  | 0 => s
  | n + 1 => (mixN s M n).mix KS ((M.drop (64 * n)).take 64)
theorem mixN_append (s : Eight) (M X : List UInt8) (n : Nat) (h : 64 * n ≤ M.length) : mixN s (M ++ X) n = mixN s M n := by
  induction n with
  | zero => rfl
  | succ n ih =>
    rw [mixN, mixN, ih (by omega), List.drop_append_of_le_length (by omega), List.take_append_of_le_length (by simp; omega)]

/-- s, blk: what a hasher holds that has taken in M. -/
structure Rep (M : List UInt8) (s : Eight) (blk : List UInt8) : Prop where
  len : blk.length = 64
  state : s = mixN H0 M (M.length / 64)
  wait : blk.take (M.length % 64) = M.drop (64 * (M.length / 64))

theorem rep_new : Rep [] H0 (List.replicate 64 0) := ⟨by simp, rfl, rfl⟩

theorem splice_take (blk cs : List UInt8) (off : Nat) (h : off + cs.length ≤ blk.length) : (splice blk off cs).take (off + cs.length) = blk.take off ++ cs := by
  have h1 : (blk.take off).length = off := by simp; omega
  rw [splice, List.take_append, h1, List.take_of_length_le (by omega), show off + cs.length - off = cs.length by omega, List.take_left']
  rfl

theorem Rep.chunk {M : List UInt8} {s : Eight} {blk : List UInt8} (h : Rep M s blk) (cs : List UInt8) (hc : M.length % 64 + cs.length < 64) :
    Rep (M ++ cs) s (splice blk (M.length % 64) cs) := by
  have hd : (M.length + cs.length) / 64 = M.length / 64 := by omega
  have hm : (M.length + cs.length) % 64 = M.length % 64 + cs.length := by omega
  refine ⟨?_, ?_, ?_⟩
  · rw [length_splice _ _ _ (by rw [h.len]; omega), h.len]
  · rw [List.length_append, hd, mixN_append _ _ _ _ (by omega)]; exact h.state
  · rw [List.length_append, hd, hm, splice_take _ _ _ (by rw [h.len]; omega), h.wait, List.drop_append_of_le_length (by omega)]

theorem Rep.full {M : List UInt8} {s : Eight} {blk : List UInt8} (h : Rep M s blk) (cs : List UInt8) (hc : M.length % 64 + cs.length = 64) :
    Rep (M ++ cs) (s.mix KS (splice blk (M.length % 64) cs)) (splice blk (M.length % 64) cs) := by
  have hl : (splice blk (M.length % 64) cs).length = 64 := by rw [length_splice _ _ _ (by rw [h.len]; omega), h.len]
  have hd : (M.length + cs.length) / 64 = M.length / 64 + 1 := by omega
  have hm : (M.length + cs.length) % 64 = 0 := by omega
  have ht := splice_take blk cs (M.length % 64) (by rw [h.len]; omega)
  rw [hc, List.take_of_length_le (by omega), h.wait] at ht
  refine ⟨hl, ?_, ?_⟩
  · rw [List.length_append, hd, mixN, mixN_append _ _ _ _ (by omega), ← h.state, List.drop_append_of_le_length (by omega), ← ht, List.take_of_length_le (by omega)]
  · rw [List.length_append, hm, hd, List.take_zero, List.drop_of_length_le (by simp; omega)]
end Go.Proofs.YtplhlhjakapaaaaDoor

namespace Go.Proofs.YtplhlhjakapaaaaDoor
open Go Go.RowKit

/-- 'copy' into a row that is known whole, in a region that draws: the row spliced, all else as it was. -/
theorem step_copy_grow {P : Program} {ops : Array Oper} {o : Oper} {a : Act} {w : World} {K : Act → World → Prop} {Q : Exit → Act → World → Prop} {E : Prop} (hgd : o.guard = none) (d s : Operand) (dT sT : TypeId)
    (ho : o.op = .call { callee := .builtin .copy, args := #[d, s], argTypes := #[dT, sT] }) (elem : TypeId) (hu : P.underlying dT = some (.slice elem)) (hsz : (P.info? elem).map (·.size) = some 1)
    (ad : Addr) (dLen dCap sLen sCap : Nat) (g off : Nat) (hd : a.eval d = .slice (some ⟨g, off, none⟩) dLen dCap) (hs : a.eval s = .slice (some ad) sLen sCap)
    (cur : List Value) (t : TypeId) (hg : w.heap[g]? = some (.cells cur.toArray t (0, 0))) (cs : List Value) (hn : cs.length = Nat.min sLen dLen)
    (hsrc : ∀ j v, cs[j]? = some v → w.cell? (ad.add j) = some v)
    (hfit : off + cs.length ≤ cur.length) (h1 : ∀ v ∈ cs, v.oneCell' = true)
    (h : ∀ w', w'.heap[g]? = some (.cells (splice cur off cs).toArray t (0, 0)) → w.grownBy w' (some g) → w'.heap.size = w.heap.size → K (a.put o.dst (goInt cs.length)) w') :
    if Region.wanted o (yielded ops a.tmps) = true then Oper.wp P o a w K Q else E := by
  have hw : Region.wanted o (yielded ops a.tmps) = true := by simp [Region.wanted, hgd]
  rw [if_pos hw]
  have hrun := run_copy_row (P := P) w dT sT o.type elem g off dLen dCap ad sLen sCap cur.toArray t cs hu hsz hg hn hsrc (by simpa using hfit) h1
  unfold Oper.wp
  simp [execOp, ho, resolve, invoke, builtin, hd, hs, hrun, Result.andThen]
  exact h _ (by simpa [splice] using setRow_heap w g _ _ t _ hg) ⟨rfl, rfl, rfl, by simp, fun k _ hne => setRow_other w g k _ (by simpa using hne)⟩ (by simp)

/-- A hasher that has taken in M lies in block g. -/
def HasherIs (w : World) (g : Nat) (M : List UInt8) : Prop :=
  ∃ s blk, w.heap[g]? = some (.cells (hrow s blk (M.length : Int)).toArray 122 (0, 0)) ∧ Rep M s blk

theorem hrow_splice (s : Eight) (blk : List UInt8) (n : Int) (off : Nat) (cs : List UInt8) (h : off + cs.length ≤ blk.length) :
    splice (hrow s blk n) (8 + off) (cs.map ub) = hrow s (splice blk off cs) n := by
  have h8 : (s.list.map uw).length = 8 := by simp [Eight.list]
  have e : 8 + off + cs.length = (s.list.map uw).length + (off + cs.length) := by omega
  rw [splice, hrow, List.take_append, h8, List.take_of_length_le (by omega), show 8 + off - 8 = off by omega, List.length_map, e, List.drop_append,
    List.drop_of_length_le (l := s.list.map uw) (by omega), List.take_append_of_le_length (by simp; omega), Nat.add_sub_cancel_left, List.drop_append_of_le_length (by simp; omega)]
  simp [hrow, splice]

theorem slice_rest (g c : Nat) (hc : c < 64) (W : World) :
    (Instr.sliceAt 120 (.pointer (some ⟨g, 8, none⟩)) (some (.int .u64 (c : Int))) none none).run Tryd.prog W = .ok (.slice (some ⟨g, 8 + c, none⟩) (64 - c) (64 - c)) W := by
  rw [run_sliceAt_array_l W 120 ⟨g, 8, none⟩ (by simp [Program.arrayLen, Program.elem, Tryd.underlying120]) .u64 _ (by omega) (by rw [al102]; omega), al102]
  have h3 : ¬ 64 = c := by omega
  simp [go_sem, Program.elem, Tryd.underlying120, h3, Addr.add]

theorem hrow_size (s : Eight) (blk : List UInt8) (n : Int) (h : blk.length = 64) : (hrow s blk n)[72]? = some (.int .u64 n) := by
  have h8 : (s.list.map uw).length = 8 := by simp [Eight.list]
  rw [hrow, List.getElem?_append_right (by omega), h8, List.getElem?_append_right (by simp [h])]
  simp [h]
theorem hrow_set (s : Eight) (blk : List UInt8) (n n' : Int) (h : blk.length = 64) : (hrow s blk n).set 72 (.int .u64 n') = hrow s blk n' := by
  have h8 : (s.list.map uw).length = 8 := by simp [Eight.list]
  rw [hrow, List.set_append_right _ _ (by omega), h8, List.set_append_right _ _ (by simp [h])]
  simp [h, hrow]
theorem length_hrow (s : Eight) (blk : List UInt8) (n : Int) (h : blk.length = 64) : (hrow s blk n).length = 73 := by
  simp [hrow, Eight.list, h]
theorem slice_on (sb so L cap m : Nat) (hm : m ≤ L) :
    ∃ p, (∀ W : World, (Instr.slice 27 (.slice (some ⟨sb, so, none⟩) L cap) (some (.int .i64 (m : Int))) none none).run Tryd.prog W = .ok (.slice p (L - m) (cap - m)) W) ∧ (m < cap → p = some ⟨sb, so + m, none⟩) := by
  refine ⟨if cap = m then some ⟨sb, so, none⟩ else some ⟨sb, so + m, none⟩, fun W => ?_, fun h => by rw [if_neg (by omega)]⟩
  rw [run_slice_l W 27 (some ⟨sb, so, none⟩) L cap (by simp [Program.elem, Tryd.underlying27]) .i64 _ (by omega) (by omega)]
  by_cases hc : cap = m <;> simp [go_sem, Program.elem, Tryd.underlying27, hc, Addr.add]

set_option maxHeartbeats 1000000 in
set_option maxRecDepth 100000 in
theorem write_any (g : Nat) (M bs : List UInt8) (sp : Option Addr) (cap : Nat) (w : World) (hg1 : 1 < g) (hT : Tab w) (hH : HasherIs w g M)
    (hlen : M.length + bs.length < 1152921504606846976) (hcap : bs.length ≤ cap)
    (hsp : 0 < bs.length → ∃ sb so, sp = some ⟨sb, so, none⟩ ∧ sb ≠ g ∧ sb < w.heap.size ∧ ∀ j, j < bs.length → w.cell? ⟨sb, so + j, none⟩ = some (ub (bs.getD j 0))) :
    Calls Tryd.prog 80 #[.pointer (some ⟨g, 0, none⟩), .slice sp bs.length cap] w fun e w' => e = .returned (.tuple #[]) ∧ HasherIs w' g (M ++ bs) ∧ w.grownBy w' (some g) := by
  have hgw : g < w.heap.size := by
    obtain ⟨_, _, h, _⟩ := hH
    exact (Array.getElem?_eq_some_iff.1 h).1
  have HT : Hid (Tab w) := hT
  have HH : Hid (HasherIs w g M) := hH
  have HSP : Hid _ := hsp
  clear hT hH hsp
  go_enter Tryd.func80, Tryd.ntmps80
  go_wp2
  go_loopw [1] (fun v wr => ∃ k p, k ≤ bs.length ∧ v = .slice p (bs.length - k) (cap - k) ∧ HasherIs wr g (M ++ bs.take k) ∧ w.grownBy wr (some g) ∧
      (k < bs.length → ∃ sb so, p = some ⟨sb, so, none⟩ ∧ sb ≠ g ∧ sb < w.heap.size ∧ ∀ j, j < bs.length - k → w.cell? ⟨sb, so + j, none⟩ = some (ub (bs.getD (k + j) 0))))
    (fun v _ => match v with | .slice _ n _ => n | _ => 0)
  case atStart =>
    refine ⟨0, sp, by omega, rfl, by simpa using HH.out, ⟨rfl, rfl, rfl, Nat.le_refl _, fun _ _ _ => rfl⟩, ?_⟩
    simpa using HSP.out
  case round =>
    obtain ⟨k, p, hk, rfl, hHr, hGr, hp⟩ := hrel
    by_cases hlt : k < bs.length
    · obtain ⟨sb, so, rfl, hne, hsb, hsrc⟩ := hp hlt
      obtain ⟨s, blk, hrowr, hrep⟩ := hHr
      have hc0 : wr.cell? ⟨g, 72, none⟩ = some (.int .u64 ((M ++ bs.take k).length : Int)) := by rw [cell_of_row wr _ _ _ _ _ hrowr, List.getElem?_toArray, hrow_size _ _ _ hrep.len]
      have hcl : (M ++ bs.take k).length + (bs.length - k) < 1152921504606846976 := by simp; omega
      have hR : ∃ R : List UInt8, R.length = bs.length - k ∧ bs.drop k = R := ⟨_, by simp, rfl⟩
      obtain ⟨R, hRl, hR⟩ := hR
      have HR : Hid (bs.drop k = R) := hR
      clear hR
      generalize eN : M ++ bs.take k = N at hc0 hcl hrowr hrep
      have EN : Hid (M ++ bs.take k = N) := eN
      clear eN hp
      have hfit : N.length % 64 < 64 := by omega
      generalize eC : N.length % 64 = c at hfit
      have hm : ∃ m : Nat, m = Nat.min (bs.length - k) (64 - c) := ⟨_, rfl⟩
      obtain ⟨m, hm⟩ := hm
      have hm0 : 0 < m := by rw [hm]; exact Nat.lt_min.2 ⟨by omega, by omega⟩
      have hm1 : m ≤ bs.length - k := by rw [hm]; exact Nat.min_le_left _ _
      have hm2 : c + m ≤ 64 := by have : m ≤ 64 - c := by rw [hm]; exact Nat.min_le_right _ _
                                  omega
      have HM : Hid (m = Nat.min (bs.length - k) (64 - c)) := hm
      have EC : Hid (N.length % 64 = c) := eC
      have hcI : (N.length : Int).tmod 64 = (c : Int) := by rw [Int.tmod_eq_emod_of_nonneg (by omega)]; omega
      clear hm eC
      have hsl := slice_rest g c hfit
      have hcs : ((R.take m).map ub).length = m := by simp; omega
      have HCS : Hid (((R.take m).map ub).length = Nat.min (bs.length - k) (64 - c)) := hcs.trans HM.out
      have HSRC : Hid (∀ j v, ((R.take m).map ub)[j]? = some v → wr.cell? ((⟨sb, so, none⟩ : Addr).add j) = some v) := fun j v hv => by
        have hj : j < m := by rw [← hcs]; exact (List.getElem?_eq_some_iff.1 hv).1
        have hRj : R.getD j 0 = bs.getD (k + j) 0 := by rw [← HR.out]; simp
        have e1 : wr.cell? ⟨sb, so + j, none⟩ = w.cell? ⟨sb, so + j, none⟩ := World.cell?_of_block (w := w) (hGr.block sb hsb (by simpa using hne))
        have e2 : (⟨sb, so, none⟩ : Addr).add j = ⟨sb, so + j, none⟩ := by unfold Addr.add; split <;> simp_all
        rw [e2, e1, hsrc j (by omega), ← hRj, ← hv]
        simp [hj, show j < R.length by omega]
      have HFIT : Hid (8 + c + ((R.take m).map ub).length ≤ (hrow s blk (N.length : Int)).length) := by
        show _ ≤ _
        rw [hcs, length_hrow _ _ _ hrep.len]; omega
      have HONE : Hid (∀ v ∈ (R.take m).map ub, v.oneCell' = true) := fun v hv => by
        obtain ⟨x, _, rfl⟩ := List.mem_map.1 hv; rfl
      have HSPL : Hid (splice (hrow s blk (N.length : Int)) (8 + c) ((R.take m).map ub) = hrow s (splice blk c (R.take m)) (N.length : Int)) :=
        hrow_splice _ _ _ _ _ (by rw [hrep.len]; simp; omega)
      have HCSm : Hid (((R.take m).map ub).length = m) := hcs
      have HCh : Hid (Rep (N ++ R.take m) (if c + m = 64 then s.mix KS (splice blk c (R.take m)) else s) (splice blk c (R.take m))) := by
        have hl : (R.take m).length = m := by simp; omega
        show Rep _ _ _
        by_cases h64 : c + m = 64
        · rw [if_pos h64, ← EC.out]; exact hrep.full _ (by rw [EC.out, hl]; exact h64)
        · rw [if_neg h64, ← EC.out]; exact hrep.chunk _ (by rw [EC.out, hl]; omega)
      have hbl : (splice blk c (R.take m)).length = 64 := by rw [length_splice _ _ _ (by rw [hrep.len]; simp; omega), hrep.len]
      have HSRC0 : Hid _ := hsrc
      clear hcs hsrc hRl hrep
      go_wp2
      go_region_law (refine step_copy_grow rfl _ _ 27 27 rfl 5 Tryd.underlying27 (by kernel_rfl) ⟨sb, so, none⟩ _ _ _ _ g (8 + c) rfl rfl _ 122 hrowr ((R.take m).map ub) HCS.out HSRC.out HFIT.out HONE.out ?_; intro w4 hw4 hG4 hs4; rw [HSPL.out] at hw4; rw [HCSm.out])
      have hgn : g < w4.heap.size := (Array.getElem?_eq_some_iff.1 hw4).1
      have hc4 : w4.cell? ⟨g, 72, none⟩ = some (.int .u64 (N.length : Int)) := by rw [cell_of_row w4 _ _ _ _ _ hw4, List.getElem?_toArray, hrow_size _ _ _ hbl]
      have hf4 : w4.frozen? ⟨g, 72, none⟩ = false := frozen_of_row w4 _ _ _ _ hw4
      have hS5 : (w4.setCell ⟨g, 72, none⟩ (.int .u64 ((N.length : Int) + (m : Int)))).heap[g]? = some (.cells (hrow s (splice blk c (R.take m)) ((N.length : Int) + (m : Int))).toArray 122 (0, 0)) := by
        rw [heap_setCell_same _ _ _ _ _ _ hw4, List.setIfInBounds_toArray, hrow_set _ _ _ _ hbl]
      have hG5 : w.grownBy (w4.setCell ⟨g, 72, none⟩ (.int .u64 ((N.length : Int) + (m : Int)))) (some g) :=
        ⟨hG4.os.trans hGr.os, hG4.tape.trans hGr.tape, hG4.output.trans hGr.output, by have := hGr.size; have := hG4.size; simp at *; omega, fun j hj hne' =>
          (heap_setCell_other _ _ _ _ (by simpa using hne')).trans ((hG4.block j (by have := hGr.size; simp; omega) hne').trans (hGr.block j hj hne'))⟩
      have hT5 : Tab (w4.setCell ⟨g, 72, none⟩ (.int .u64 ((N.length : Int) + (m : Int)))) := fun j hj =>
        (World.cell?_of_block (w := w) (hG5.block 1 (by have := hGr.size; have := hG4.size; simp at *; omega) (by simp; omega))).trans (HT.out j hj)
      have HS5 : Hid _ := hS5
      have HG5 : Hid _ := hG5
      have HT5 : Hid _ := hT5
      obtain ⟨p', hon, hp'⟩ := slice_on sb so (bs.length - k) (cap - k) m hm1
      have HP : Hid _ := hp'
      have HC : Hid (c + m = 64 ↔ (N.length + m) % 64 = 0) := by show _ ↔ _; have := EC.out; omega
      clear hw4 hG4 hs4 hrowr hc0 hS5 hG5 hT5 hp' hsl hGr
      have hkm : bs.length - k - m = bs.length - (k + m) := by omega
      have hkc : cap - k - m = cap - (k + m) := by omega
      have HMsg : Hid (N ++ R.take m = M ++ bs.take (k + m)) := by
        show _ = _
        rw [← EN.out, ← HR.out, List.append_assoc, List.take_add]
      have HLn : Hid (((N ++ R.take m).length : Int) = (N.length : Int) + (m : Int)) := by
        have := HCSm.out
        show _ = _
        simp at this ⊢; omega
      have HNext : Hid (k + m < bs.length → ∃ sb' so', p' = some ⟨sb', so', none⟩ ∧ sb' ≠ g ∧ sb' < w.heap.size ∧ ∀ j, j < bs.length - (k + m) → w.cell? ⟨sb', so' + j, none⟩ = some (ub (bs.getD (k + m + j) 0))) := fun h =>
        ⟨sb, so + m, HP.out (by omega), hne, hsb, fun j hj => by
          have := HSRC0.out (m + j) (by omega)
          rw [show so + m + j = so + (m + j) by omega, show k + m + j = k + (m + j) by omega]
          exact this⟩
      have HK1 : Hid (bs.length - k - m = bs.length - (k + m)) := hkm
      have HK2 : Hid (cap - k - m = cap - (k + m)) := hkc
      clear hkm hkc
      by_cases h64 : c + m = 64
      · have htest : (((N.length : Int) + (m : Int)) % 64 == 0) = true := by
          have := HC.out.1 h64
          rw [beq_iff_eq]; omega
        have HCh' : Hid (Rep (N ++ R.take m) (s.mix KS (splice blk c (R.take m))) (splice blk c (R.take m))) := by
          have := HCh.out; rw [if_pos h64] at this; exact this
        clear h64 HCh hcI
        go_wp2_with fail
        refine (mix_any g 122 s (splice blk c (R.take m)) _ hbl _ hg1 HT5.out HS5.out).mono ?_
        rintro e w6 ⟨rfl, hrow6, hG6⟩
        have hH6 : HasherIs w6 g (M ++ bs.take (k + m)) := by
          rw [← HMsg.out]
          exact ⟨_, _, by rw [HLn.out]; exact hrow6, HCh'.out⟩
        have HH6 : Hid _ := hH6
        have hG7 : w.grownBy w6 (some g) := by
          have h5 := HG5.out
          exact ⟨hG6.os.trans h5.os, hG6.tape.trans h5.tape, hG6.output.trans h5.output, Nat.le_trans h5.size hG6.size, fun j hj hne' => (hG6.block j (Nat.lt_of_lt_of_le hj h5.size) hne').trans (h5.block j hj hne')⟩
        have HG7 : Hid _ := hG7
        clear hrow6 hG6 hH6 hG7
        go_wp2_with fail
        exact ⟨⟨k + m, p', by omega, by rw [HK1.out, HK2.out], HH6.out, HG7.out, HNext.out⟩, by simp; omega⟩
      · have htest : (((N.length : Int) + (m : Int)) % 64 == 0) = false := by
          have : ¬ (N.length + m) % 64 = 0 := fun h => h64 (HC.out.2 h)
          rw [beq_eq_false_iff_ne]; omega
        have HCh' : Hid (Rep (N ++ R.take m) s (splice blk c (R.take m))) := by
          have := HCh.out; rw [if_neg h64] at this; exact this
        clear h64 HCh hcI
        go_wp2_with fail
        refine ⟨⟨k + m, p', by omega, by rw [HK1.out, HK2.out], ?_, HG5.out, HNext.out⟩, by simp; omega⟩
        rw [← HMsg.out]
        exact ⟨_, _, by rw [HLn.out]; exact HS5.out, HCh'.out⟩
    · have hke : k = bs.length := by omega
      have hHe : HasherIs wr g (M ++ bs) := by rw [hke, List.take_length] at hHr; exact hHr
      have hge : decide (0 < bs.length - k) = false := by simp; omega
      have HHe : Hid _ := hHe
      have HGe : Hid _ := hGr
      clear hHe hHr hGr hp hlt hke
      go_wp2
      go_end0
      exact ⟨rfl, HHe.out, HGe.out⟩
end Go.Proofs.YtplhlhjakapaaaaDoor

namespace Go.Proofs.YtplhlhjakapaaaaDoor
open Go Go.RowKit

def bt (x : BitVec 32) (n : Nat) : UInt8 := UInt8.ofNat (x.toNat / n)
def btL (x : BitVec 32) : List UInt8 := [bt x 16777216, bt x 65536, bt x 256, bt x 1]
def toldL (s : Eight) : List UInt8 := s.list.flatMap btL
def toldK (s : Eight) (k : Nat) : List UInt8 := (s.list.take k).flatMap btL
theorem length_toldK (s : Eight) (k : Nat) (hk : k ≤ 8) : (toldK s k).length = 4 * k := by
  obtain rfl | rfl | rfl | rfl | rfl | rfl | rfl | rfl | rfl : k = 0 ∨ k = 1 ∨ k = 2 ∨ k = 3 ∨ k = 4 ∨ k = 5 ∨ k = 6 ∨ k = 7 ∨ k = 8 := by omega
  all_goals rfl
theorem toldK_succ (s : Eight) (k : Nat) (hk : k < 8) : toldK s (k + 1) = (((toldK s k ++ [bt (s.list.getD k 0) 16777216]) ++ [bt (s.list.getD k 0) 65536]) ++ [bt (s.list.getD k 0) 256]) ++ [bt (s.list.getD k 0) 1] := by
  obtain rfl | rfl | rfl | rfl | rfl | rfl | rfl | rfl : k = 0 ∨ k = 1 ∨ k = 2 ∨ k = 3 ∨ k = 4 ∨ k = 5 ∨ k = 6 ∨ k = 7 := by omega
  all_goals rfl
theorem bt_val (x : BitVec 32) (n : Nat) : ((x.toNat : Int) / (n : Int)) % 256 = ((bt x n).toNat : Int) := by
  simp [bt]

theorem bt24_val (x : BitVec 32) : (x.toNat : Int) / 16777216 = ((bt x 16777216).toNat : Int) := by
  rw [← bt_val]; have := x.isLt; omega
theorem bt16_val (x : BitVec 32) : (x.toNat : Int) / 65536 % 256 = ((bt x 65536).toNat : Int) := by rw [← bt_val]; rfl
theorem bt8_val (x : BitVec 32) : (x.toNat : Int) / 256 % 256 = ((bt x 256).toNat : Int) := by rw [← bt_val]; rfl
theorem bt0_val (x : BitVec 32) : (x.toNat : Int) % 256 = ((bt x 1).toNat : Int) := by rw [← bt_val]; omega
def brow (n : Nat) (l : List UInt8) : List Value := l.map ub ++ List.replicate (n - l.length) (ub 0)
theorem length_brow (n : Nat) (l : List UInt8) (h : l.length ≤ n) : (brow n l).length = n := by simp [brow]; omega
theorem brow_set (n : Nat) (l : List UInt8) (x : UInt8) (h : l.length < n) : (brow n l).set l.length (ub x) = brow n (l ++ [x]) := by
  have e : n - l.length = (n - (l.length + 1)) + 1 := by omega
  simp only [brow, List.map_append, List.length_append, List.length_singleton, e, List.replicate_succ, List.map_cons, List.map_nil]
  rw [List.set_append_right _ _ (by simp)]
  simp
theorem brow_zero (n : Nat) (l : List UInt8) (j : Nat) (h : l.length ≤ j) (hj : j < n) : (brow n l)[j]? = some (ub 0) := by
  rw [brow, List.getElem?_append_right (by simpa using h), List.length_map, List.getElem?_replicate, if_pos (by omega)]
theorem brow_full (n : Nat) (l : List UInt8) (h : l.length = n) : brow n l = l.map ub := by simp [brow, h]
theorem brow_one (n : Nat) (l : List UInt8) : (brow n l).toArray.all (·.oneCell') = true := by
  rw [Array.all_eq_true_iff_forall_mem]
  intro v hv
  simp only [brow, List.mem_toArray, List.mem_append, List.mem_map, List.mem_replicate] at hv
  rcases hv with ⟨x, _, rfl⟩ | ⟨_, rfl⟩ <;> rfl
theorem brow_store {w : World} {g n : Nat} {t : TypeId} {l : List UInt8} (x : UInt8) (hg : w.heap[g]? = some (.cells (brow n l).toArray t (0, 0))) (h : l.length < n) :
    (w.setCell ⟨g, l.length, none⟩ (ub x)).heap[g]? = some (.cells (brow n (l ++ [x])).toArray t (0, 0)) := by
  rw [heap_setCell_same _ _ _ _ _ _ hg, List.setIfInBounds_toArray, brow_set _ _ _ h]
theorem brow_store' {w : World} {g n : Nat} {t : TypeId} {l : List UInt8} (x : UInt8) (j : Nat) (hj : j = l.length) (hg : w.heap[g]? = some (.cells (brow n l).toArray t (0, 0))) (h : l.length < n) :
    (w.setCell ⟨g, j, none⟩ (ub x)).heap[g]? = some (.cells (brow n (l ++ [x])).toArray t (0, 0)) := by
  subst hj; exact brow_store x hg h
theorem info25 (c : List Value) (h : c.length = 32) : (Tryd.prog.info? 25).map (·.size) = some c.toArray.size := by
  rw [List.size_toArray, h]; kernel_rfl

set_option maxHeartbeats 1000000 in
set_option maxRecDepth 100000 in
theorem told_any (g : Nat) (t : TypeId) (s : Eight) (blk : List UInt8) (n : Int) (w : World)
    (hg : w.heap[g]? = some (.cells (hrow s blk n).toArray t (0, 0))) :
    Calls Tryd.prog 103 #[.pointer (some ⟨g, 0, none⟩)] w fun e w' => e = .returned (.agg ((toldL s).map ub).toArray) ∧ w.grownBy w' none := by
  have hgs : g < w.heap.size := (Array.getElem?_eq_some_iff.1 hg).1
  obtain ⟨c0, c1, c2, c3, c4, c5, c6, c7⟩ := cells8 hg
  have HG : Hid _ := hg
  clear hg
  go_enter Tryd.func103, Tryd.ntmps103
  go_wp2
  go_loopw [10] (fun i wr => ∃ k : Nat, k ≤ 8 ∧ i = .int .i64 k ∧ wr.heap[w.heap.size + 1]? = some (.cells (brow 32 (toldK s k)).toArray 25 (0, 0)) ∧ wr.heap[w.heap.size]? = some (.cells (brow 32 []).toArray 25 (0, 0)) ∧ Below w.heap.size w wr)
    (fun i _ => 8 - (intOf i).toNat)
  case atStart =>
    refine ⟨0, by omega, rfl, ?_, ?_, ?_⟩
    · exact heap_alloc2_new _ _ _
    · exact heap_alloc2_old _ _ _
    · exact ((Below.refl _ _).alloc (Nat.le_refl _) _).alloc (by simp) _
  case round =>
    clear c0 c1 c2 c3 c4 c5 c6 c7
    obtain ⟨k, hk, rfl, hrow1, hrow0, hb⟩ := hrel
    by_cases hlt : k < 8
    · have hix := index8 s k hlt
      have HL := length_toldK s k hk
      have HK := toldK_succ s k hlt
      have hcc : ∀ j, j < 4 → wr.cell? ⟨w.heap.size + 1, 4 * k + j, none⟩ = some (ub 0) := fun j hj => by
        rw [cell_of_row wr _ _ _ _ _ hrow1, List.getElem?_toArray, brow_zero _ _ _ (by omega) (by omega)]
      have hff : ∀ j, wr.frozen? ⟨w.heap.size + 1, j, none⟩ = false := fun j => frozen_of_row wr _ _ _ _ hrow1
      have d0 := hcc 0 (by omega)
      have d1 := hcc 1 (by omega)
      have d2 := hcc 2 (by omega)
      have d3 := hcc 3 (by omega)
      simp only [Nat.add_zero] at d0
      have t0 : ((4 : Int) * (k : Int)).toNat = 4 * k := by omega
      have t1 : ((4 : Int) * (k : Int) + 1).toNat = 4 * k + 1 := by omega
      have t2 : ((4 : Int) * (k : Int) + 2).toNat = 4 * k + 2 := by omega
      have t3 : ((4 : Int) * (k : Int) + 3).toNat = 4 * k + 3 := by omega
      clear hcc
      generalize eX : s.list.getD k 0 = x at hix HK
      clear eX
      have HL' : Hid _ := HL
      have HK' : Hid _ := HK
      clear HL HK
      go_wp2
      rw [bt24_val, bt16_val, bt8_val, bt0_val]
      have hl := HL'.out
      refine ⟨⟨k + 1, by omega, by go_num, ?_, ?_, ?_⟩, by simp [intOf]; omega⟩
      · rw [HK'.out]
        refine brow_store' _ _ ?_ (brow_store' _ _ ?_ (brow_store' _ _ ?_ (brow_store' _ _ ?_ hrow1 ?_) ?_) ?_) ?_
        all_goals simp [hl]
        all_goals omega
      · rw [heap_setCell_other _ _ _ _ (by simp), heap_setCell_other _ _ _ _ (by simp), heap_setCell_other _ _ _ _ (by simp), heap_setCell_other _ _ _ _ (by simp)]
        exact hrow0
      · exact (((hb.setCell (by simp) _).setCell (by simp) _).setCell (by simp) _).setCell (by simp) _
    · have hk8 : k = 8 := by omega
      have hT : toldK s 8 = toldL s := rfl
      rw [hk8, hT] at hrow1
      have hl : (toldL s).length = 32 := rfl
      have hge : decide ((k : Int) < 8) = false := by simp; omega
      have HI : Hid _ := info25 (brow 32 (toldL s)) (length_brow _ _ (by omega))
      have HO : Hid ((brow 32 []).toArray.size = (brow 32 (toldL s)).toArray.size) := by
        show _ = _
        rw [List.size_toArray, List.size_toArray, length_brow _ _ (by simp), length_brow _ _ (by omega)]
      have Hl : Hid _ := hl
      clear hk8 hT hlt hk hl
      go_wp2_with (first
        | (refine wpList_load_row rfl 25 _ rfl (w.heap.size + 1) rfl 25 _ (0, 0) _ hrow1 Tryd.underlying25 rfl HI.out ?_)
        | (refine wpList_store_row rfl 25 _ _ rfl w.heap.size _ rfl rfl 25 _ hrow0 HI.out HO.out (brow_one _ _) ?_))
      refine bodyPost_ret (v := .agg (brow 32 (toldL s)).toArray) (results_cell_row Tryd.results103 _ _ w.heap.size 25 _ (0, 0) _ rfl (setRow_heap wr _ _ _ 25 _ hrow0) Tryd.underlying25 rfl HI.out) rfl ⟨by rw [brow_full _ _ Hl.out], ?_⟩
      exact ⟨hb.os, hb.tape, hb.output, by rw [size_setRow]; exact hb.size, fun j hj _ => (setRow_other wr _ j _ (by omega)).trans (hb.block j hj)⟩
end Go.Proofs.YtplhlhjakapaaaaDoor

namespace Go.Proofs.YtplhlhjakapaaaaDoor
open Go Go.RowKit

set_option maxHeartbeats 1000000 in
set_option maxRecDepth 100000 in
theorem begin_any (w : World) :
    Calls Tryd.prog 79 #[] w fun e w' => e = .returned (.agg (hrow H0 (List.replicate 64 0) 0).toArray) ∧ w.grownBy w' none := by
  go_enter Tryd.func79, Tryd.ntmps79
  go_wp2_with (refine store_new rfl 122 _ _ rfl _ _ _ rfl rfl ?hi ?ho ?h1 ?_; rotate_left 3; intro W hW hs hG)
  case hi => kernel_rfl
  case ho => kernel_rfl
  case h1 => kernel_rfl
  refine bodyPost_ret (v := .agg (hrow H0 (List.replicate 64 0) 0).toArray) (results_cell_row Tryd.results79 _ _ w.heap.size 122 _ (0, 0) _ rfl (hW.trans (by kernel_rfl)) Tryd.underlying122 rfl (by kernel_rfl)) rfl ⟨rfl, hG⟩

/-- Where the length begins in the tail. -/
def atOf (n : Nat) : Nat := 1 + (119 - n % 64) % 64
theorem atOf_le (n : Nat) : 1 ≤ atOf n ∧ atOf n ≤ 64 := by unfold atOf; omega
theorem atOf_val (n : Nat) : IntKind.u64.wrap (1 + (IntKind.u64.wrap (55 - (n : Int))).tmod 64) = (atOf n : Int) := by
  rw [IntKind.wrap_u64, IntKind.wrap_u64, Int.tmod_eq_emod_of_nonneg (by omega), atOf]
  omega
def lenB (n k : Nat) : UInt8 := UInt8.ofNat (8 * n / 2 ^ (56 - 8 * k))
def lenL (n : Nat) : Nat → List UInt8
  | 0 => []
  | k + 1 => lenL n k ++ [lenB n k]
def padL (n : Nat) : List UInt8 := (128 :: List.replicate (atOf n - 1) 0) ++ lenL n 8

theorem length_lenL (n k : Nat) : (lenL n k).length = k := by
  induction k with
  | zero => rfl
  | succ k ih => simp [lenL, ih]
theorem length_padL (n : Nat) : (padL n).length = atOf n + 8 := by
  have := (atOf_le n).1
  simp [padL, length_lenL]; omega
theorem brow_pad (A : Nat) (h1 : 1 ≤ A) (h2 : A ≤ 64) : brow 72 ((128 :: List.replicate (A - 1) 0) ++ []) = ub 128 :: List.replicate 71 (ub 0) := by
  rw [List.append_nil, brow]
  simp only [List.map_cons, List.map_replicate, List.length_cons, List.length_replicate, List.cons_append, List.replicate_append_replicate]
  congr 2
  omega
theorem zero131 : Tryd.zeroCells152.setIfInBounds 0 (Value.int IntKind.u8 128) = (ub 128 :: List.replicate 71 (ub 0)).toArray := by kernel_rfl
theorem lenB_val (n k : Nat) : (n : Int) * 8 / 2 ^ (56 - 8 * k) % 256 = ((lenB n k).toNat : Int) := by
  have e : ((2 : Int) ^ (56 - 8 * k)) = ((2 ^ (56 - 8 * k) : Nat) : Int) := by simp
  have e2 : (n : Int) * 8 = ((8 * n : Nat) : Int) := by simp; omega
  rw [e, e2, lenB, ← Int.natCast_ediv]
  simp
theorem al131 : Tryd.prog.arrayLen 152 = 72 := by simp [Program.arrayLen, Tryd.underlying152]
theorem slice_tail (b A : Nat) (h : A + 8 ≤ 72) (W : World) :
    (Instr.sliceAt 152 (.pointer (some ⟨b, 0, none⟩)) none (some (.int .u64 ((A : Int) + 8))) none).run Tryd.prog W = .ok (.slice (some ⟨b, 0, none⟩) (A + 8) 72) W := by
  rw [run_sliceAt_array_h W 152 ⟨b, 0, none⟩ (by simp [Program.arrayLen, Program.elem, Tryd.underlying152]) .u64 _ (by omega) (by rw [al131]; omega), al131]
  have h3 : ((A : Int) + 8).toNat = A + 8 := by omega
  simp [go_sem, Program.elem, Tryd.underlying152, h3, Addr.add]

set_option maxHeartbeats 1000000 in
set_option maxRecDepth 100000 in
theorem finish_any (g : Nat) (M : List UInt8) (w : World) (hg1 : 1 < g) (hT : Tab w) (hH : HasherIs w g M)
    (hlen : M.length < 1152921504606846000) :
    Calls Tryd.prog 81 #[.pointer (some ⟨g, 0, none⟩)] w fun e w' => ∃ s blk, Rep (M ++ padL M.length) s blk ∧ e = .returned (.agg ((toldL s).map ub).toArray) ∧ w.grownBy w' (some g) := by
  have hgw : g < w.heap.size := by
    obtain ⟨_, _, h, _⟩ := hH
    exact (Array.getElem?_eq_some_iff.1 h).1
  have HT : Hid (Tab w) := hT
  have HH : Hid (HasherIs w g M) := hH
  have hc0 : w.cell? ⟨g, 72, none⟩ = some (.int .u64 (M.length : Int)) := by
    obtain ⟨s, blk, h, hrep⟩ := hH
    rw [cell_of_row w _ _ _ _ _ h, List.getElem?_toArray, hrow_size _ _ _ hrep.len]
  clear hT hH
  generalize eN : M.length = n at hc0 hlen
  have EN : Hid (M.length = n) := eN
  clear eN
  have hat := atOf_val n
  obtain ⟨ha1, ha2⟩ := atOf_le n
  generalize eA : atOf n = A at hat ha1 ha2
  have EA : Hid (atOf n = A) := eA
  clear eA
  go_enter Tryd.func81, Tryd.ntmps81
  go_wp2
  go_loopw [20] (fun i wr => ∃ k : Nat, k ≤ 8 ∧ i = .int .u64 k ∧ wr.heap[w.heap.size + 1]? = some (.cells (brow 72 ((128 :: List.replicate (A - 1) 0) ++ lenL n k)).toArray 152 (0, 0)) ∧ wr.heap[w.heap.size]? = some (.cells (brow 32 []).toArray 25 (0, 0)) ∧ Below w.heap.size w wr)
    (fun i _ => 8 - (intOf i).toNat)
  case atStart =>
    refine ⟨0, by omega, rfl, ?_, ?_, ?_⟩
    · refine (heap_alloc2_new _ _ _).trans ?_
      rw [zero131, show lenL n 0 = [] from rfl, brow_pad A ha1 ha2]
    · exact heap_alloc2_old _ _ _
    · exact ((Below.refl _ _).alloc (Nat.le_refl _) _).alloc (by simp) _
  case round =>
    obtain ⟨k, hk, rfl, hrow1, hrow0, hb⟩ := hrel
    by_cases hlt : k < 8
    · have hl : ((128 :: List.replicate (A - 1) (0 : UInt8)) ++ lenL n k).length = A + k := by simp [length_lenL]; omega
      have cw : wr.cell? ⟨w.heap.size + 1, A + k, none⟩ = some (ub 0) := by
        rw [cell_of_row wr _ _ _ _ _ hrow1, List.getElem?_toArray, brow_zero _ _ _ (by omega) (by omega)]
      have fw : wr.frozen? ⟨w.heap.size + 1, A + k, none⟩ = false := frozen_of_row wr _ _ _ _ hrow1
      have HS : Hid _ := brow_store' (lenB n k) (A + k) hl.symm hrow1 (by omega)
      clear hl
      go_wp2
      rw [lenB_val]
      refine ⟨⟨k + 1, by omega, by go_num, ?_, (heap_setCell_other _ _ _ _ (by simp)).trans hrow0, hb.setCell (by simp) _⟩, by simp [intOf]; omega⟩
      rw [lenL, ← List.append_assoc]
      exact HS.out
    · have hk8 : k = 8 := by omega
      rw [hk8] at hrow1
      have hge : decide ((k : Int) < 8) = false := by simp; omega
      have hP : (128 :: List.replicate (A - 1) (0 : UInt8)) ++ lenL n 8 = padL n := by rw [padL, EA.out]
      rw [hP] at hrow1
      have hpl := length_padL n
      rw [EA.out] at hpl
      have hsl := slice_tail (w.heap.size + 1) A (by omega)
      have hbs : w.heap.size + 1 < wr.heap.size := (Array.getElem?_eq_some_iff.1 hrow1).1
      have hTr : Tab wr := fun j hj => (hb.cell (p := ⟨1, j, none⟩) (by simp; omega)).trans (HT.out j hj)
      have hHr : HasherIs wr g M := by
        obtain ⟨s, blk, h, hrep⟩ := HH.out
        exact ⟨s, blk, (hb.block g hgw).trans h, hrep⟩
      have hW := write_any g M (padL n) (some ⟨w.heap.size + 1, 0, none⟩) 72 wr hg1 hTr hHr (by rw [EN.out, hpl]; omega) (by omega)
        (fun _ => ⟨w.heap.size + 1, 0, rfl, by omega, hbs, fun j hj => by
          rw [cell_of_row wr _ _ _ _ _ hrow1, List.getElem?_toArray, Nat.zero_add, brow, List.getElem?_append_left (by simpa using hj), List.getElem?_map, List.getElem?_eq_getElem hj]
          simp [hj]⟩)
      rw [hpl] at hW
      clear hk8 hP hlt hk hTr hHr
      go_wp2_with fail
      refine hW.mono ?_
      rintro e w2 ⟨rfl, ⟨s, blk, hrow2, hrep⟩, hG2⟩
      have hrow0' : w2.heap[w.heap.size]? = some (.cells (brow 32 []).toArray 25 (0, 0)) := (hG2.block w.heap.size (by omega) (by simp; omega)).trans hrow0
      have hgw2 : g < w2.heap.size := (Array.getElem?_eq_some_iff.1 hrow2).1
      have HG2 : Hid _ := hG2
      clear hG2
      go_wp2_with fail
      refine (told_any g 122 s blk _ w2 hrow2).mono ?_
      rintro e w3 ⟨rfl, hG3⟩
      have hs2 : w.heap.size < w2.heap.size := by have := HG2.out.size; omega
      have hrow3 : w3.heap[w.heap.size]? = some (.cells (brow 32 []).toArray 25 (0, 0)) := (hG3.block w.heap.size hs2 (by simp)).trans hrow0'
      have hl : (toldL s).length = 32 := rfl
      have HI : Hid ((Tryd.prog.info? 25).map (·.size) = some ((toldL s).map ub).toArray.size) := info25 _ (by simp [hl])
      have HO : Hid ((brow 32 []).toArray.size = ((toldL s).map ub).toArray.size) := by
        show _ = _
        rw [List.size_toArray, List.size_toArray, length_brow _ _ (by simp)]; simp [hl]
      have HN : Hid (((toldL s).map ub).toArray.all (·.oneCell') = true) := by
        show _ = _
        rw [← brow_full _ _ hl]; exact brow_one _ _
      clear hl
      go_wp2_with (refine wpList_store_row rfl 25 _ _ rfl w.heap.size _ rfl rfl 25 _ hrow3 HI.out HO.out HN.out ?_)
      refine bodyPost_ret (v := .agg ((toldL s).map ub).toArray) (results_cell_row Tryd.results81 _ _ w.heap.size 25 _ (0, 0) _ rfl (setRow_heap w3 _ _ _ 25 _ hrow3) Tryd.underlying25 rfl HI.out) rfl ⟨s, blk, hrep, rfl, ?_⟩
      have h2 := HG2.out
      exact ⟨hG3.os.trans (h2.os.trans hb.os), hG3.tape.trans (h2.tape.trans hb.tape), hG3.output.trans (h2.output.trans hb.output),
        by have a := hb.size; have b := h2.size; have c := hG3.size; rw [size_setRow]; omega,
        fun j hj hne => by
          have a := hb.size
          have b := h2.size
          rw [setRow_other w3 _ j _ (by omega), hG3.block j (by omega) (by simp), h2.block j (by omega) hne, hb.block j hj]⟩
end Go.Proofs.YtplhlhjakapaaaaDoor

namespace Go.Proofs.YtplhlhjakapaaaaDoor
open Go Go.RowKit

/-- The hash of bytes. -/
def sha (bs : List UInt8) : List UInt8 := toldL (mixN H0 (bs ++ padL bs.length) ((bs ++ padL bs.length).length / 64))
theorem length_sha (bs : List UInt8) : (sha bs).length = 32 := rfl
/-- Bytes that a slice holds. -/
def SliceIs (w : World) (v : Value) (bs : List UInt8) : Prop :=
  ∃ sp cap, v = .slice sp bs.length cap ∧ bs.length ≤ cap ∧ (0 < bs.length → ∃ sb so, sp = some ⟨sb, so, none⟩ ∧ sb < w.heap.size ∧ ∀ j, j < bs.length → w.cell? ⟨sb, so + j, none⟩ = some (ub (bs.getD j 0)))

theorem gr_refl (a : World) : a.grownBy a none := ⟨rfl, rfl, rfl, Nat.le_refl _, fun _ _ _ => rfl⟩
theorem gr_trans {a b c : World} (h : a.grownBy b none) (k : b.grownBy c none) : a.grownBy c none :=
  ⟨k.os.trans h.os, k.tape.trans h.tape, k.output.trans h.output, Nat.le_trans h.size k.size, fun j hj hn => (k.block j (Nat.lt_of_lt_of_le hj h.size) hn).trans (h.block j hj hn)⟩
theorem gr_some {a b c : World} {g : Nat} (h : a.grownBy b none) (k : b.grownBy c (some g)) (hg : a.heap.size ≤ g) : a.grownBy c none :=
  ⟨k.os.trans h.os, k.tape.trans h.tape, k.output.trans h.output, Nat.le_trans h.size k.size, fun j hj _ => (k.block j (Nat.lt_of_lt_of_le hj h.size) (by simp; omega)).trans (h.block j hj (by simp))⟩
theorem gr_alloc (w : World) (o : Obj) : w.grownBy (w.alloc o) none := ⟨rfl, rfl, rfl, by simp, fun j hj _ => Below.heap_alloc _ _ _ hj⟩
theorem gr_row {a b : World} (h : a.grownBy b none) (g : Nat) (cs : Array Value) (hg : a.heap.size ≤ g) : a.grownBy (b.setRow g cs) none :=
  ⟨h.os, h.tape, h.output, by rw [size_setRow]; exact h.size, fun j hj _ => (setRow_other b _ j _ (by omega)).trans (h.block j hj (by simp))⟩
theorem gr_below {a b : World} (h : a.grownBy b none) : Below a.heap.size a b := ⟨h.os, h.tape, h.output, h.size, fun j hj => h.block j hj (by simp)⟩
theorem gr_drew {a b : World} (h : a.grownBy b none) : a.grownBy b.drew none := ⟨h.os, h.tape, h.output, h.size, h.block⟩
theorem gr_cell {a b : World} (h : a.grownBy b none) {p : Addr} (hp : p.block < a.heap.size) : b.cell? p = a.cell? p := World.cell?_of_block (w := a) (h.block p.block hp (by simp))
theorem Tab.gr {a b : World} (ht : Tab a) (h : a.grownBy b none) (h1 : 1 < a.heap.size) : Tab b := fun j hj => (gr_cell h (p := ⟨1, j, none⟩) h1).trans (ht j hj)
theorem zero104 : Tryd.zeroCells122.size = (hrow H0 (List.replicate 64 0) 0).toArray.size := by kernel_rfl
theorem hasher_new : Rep [] H0 (List.replicate 64 0) := rep_new
theorem info104 : (Tryd.prog.info? 122).map (·.size) = some (hrow H0 (List.replicate 64 0) 0).toArray.size := by kernel_rfl
theorem one104 : (hrow H0 (List.replicate 64 0) 0).toArray.all (·.oneCell') = true := by kernel_rfl

set_option maxHeartbeats 1000000 in
set_option maxRecDepth 100000 in
theorem sum_any (bs : List UInt8) (v : Value) (w : World) (hw : 1 < w.heap.size) (hT : Tab w) (hv : SliceIs w v bs) (hlen : bs.length < 1152921504606846000) :
    Calls Tryd.prog 57 #[v] w fun e w' => e = .returned (.agg ((sha bs).map ub).toArray) ∧ w.grownBy w' none := by
  obtain ⟨sp, cap, rfl, hcap, hsp⟩ := hv
  have HT : Hid (Tab w) := hT
  have HSP : Hid _ := hsp
  clear hT hsp
  go_enter Tryd.func57, Tryd.ntmps57
  go_wp2_with fail
  refine (begin_any _).mono ?_
  rintro e w1 ⟨rfl, hG1⟩
  generalize eR : hrow H0 (List.replicate 64 0) 0 = R0
  have ER : Hid (hrow H0 (List.replicate 64 0) 0 = R0) := eR
  have HI : Hid ((Tryd.prog.info? 122).map (·.size) = some R0.toArray.size) := by rw [← eR]; exact info104
  have H1 : Hid (R0.toArray.all (·.oneCell') = true) := by rw [← eR]; exact one104
  have H2 : Hid (Tryd.zeroCells122.size = R0.toArray.size) := by rw [← eR]; exact zero104
  clear eR
  go_wp2_with (refine store_new rfl 122 _ _ rfl _ _ _ rfl rfl HI.out H2.out H1.out ?_; intro W2 hW2 hs2 hG2)
  have hA := gr_alloc w (Obj.cells (brow 32 []).toArray 25)
  have hG01 : w.grownBy w1 none := gr_trans hA hG1
  have hG02 : w.grownBy W2 none := gr_trans hG01 hG2
  have hs1 : w.heap.size + 1 ≤ w1.heap.size := by have := hG1.size; simpa using this
  have hrow0 : W2.heap[w.heap.size]? = some (.cells (brow 32 []).toArray 25 (0, 0)) :=
    (hG2.block _ (by omega) (by simp)).trans ((hG1.block _ (by simp) (by simp)).trans (heap_alloc_new _ _))
  have hH : HasherIs W2 w1.heap.size [] := ⟨H0, List.replicate 64 0, by rw [hW2, ← ER.out]; rfl, rep_new⟩
  have hT2 : Tab W2 := HT.out.gr hG02 hw
  have hwr := write_any w1.heap.size [] bs sp cap W2 (by omega) hT2 hH (by simp; omega) hcap (fun h0 => by
    obtain ⟨sb, so, h1, h2, h3⟩ := HSP.out h0
    exact ⟨sb, so, h1, by omega, by omega, fun j hj => (gr_cell hG02 (p := ⟨sb, so + j, none⟩) h2).trans (h3 j hj)⟩)
  refine hwr.mono ?_
  rintro e w3 ⟨rfl, hH3, hG3⟩
  clear hwr
  have hG03 : w.grownBy w3 none := gr_some hG02 hG3 (by omega)
  have hT3 : Tab w3 := HT.out.gr hG03 hw
  have hrow3 : w3.heap[w.heap.size]? = some (.cells (brow 32 []).toArray 25 (0, 0)) := (hG3.block _ (by omega) (by simp; omega)).trans hrow0
  have hs3 : w.heap.size < w3.heap.size := (Array.getElem?_eq_some_iff.1 hrow3).1
  clear hW2 hrow0 hH hT2
  have hfi := finish_any w1.heap.size bs w3 (by omega) hT3 hH3 hlen
  have HT3 : Hid _ := hT3
  have HH3 : Hid _ := hH3
  clear hT3 hH3
  go_wp2_with fail
  refine hfi.mono ?_
  rintro e w4 ⟨s, blk, hrep, rfl, hG4⟩
  clear hfi
  have hsha : toldL s = sha bs := by rw [sha, hrep.state]
  rw [hsha]
  clear hsha
  have hG04 : w.grownBy w4 none := gr_some hG03 hG4 (by omega)
  have hrow4 : w4.heap[w.heap.size]? = some (.cells (brow 32 []).toArray 25 (0, 0)) := (hG4.block _ hs3 (by simp; omega)).trans hrow3
  have hl := length_sha bs
  have HI : Hid ((Tryd.prog.info? 25).map (·.size) = some ((sha bs).map ub).toArray.size) := info25 _ (by simp [hl])
  have HO : Hid ((brow 32 []).toArray.size = ((sha bs).map ub).toArray.size) := by
    show _ = _
    rw [List.size_toArray, List.size_toArray, length_brow _ _ (by simp)]; simp [hl]
  have HN : Hid (((sha bs).map ub).toArray.all (·.oneCell') = true) := by
    show _ = _
    rw [← brow_full _ _ hl]; exact brow_one _ _
  clear hl
  go_wp2_with (refine wpList_store_row rfl 25 _ _ rfl w.heap.size _ rfl rfl 25 _ hrow4 HI.out HO.out HN.out ?_)
  exact bodyPost_ret (v := .agg ((sha bs).map ub).toArray) (results_cell_row Tryd.results57 _ _ w.heap.size 25 _ (0, 0) _ rfl (setRow_heap w4 _ _ _ 25 _ hrow4) Tryd.underlying25 rfl HI.out) rfl ⟨rfl, gr_row hG04 _ _ (Nat.le_refl _)⟩
end Go.Proofs.YtplhlhjakapaaaaDoor

/-
  Numbers as digits to the base 2^32. Plain Lean, my own.
-/
namespace Go.Proofs.YtplhlhjakapaaaaDoor
open Go

def val : List Nat → Nat
  | [] => 0
  | d :: ds => d + 4294967296 * val ds
theorem val_set (V : List Nat) (i d : Nat) (h : i < V.length) : val (V.set i d) + V.getD i 0 * 4294967296 ^ i = val V + d * 4294967296 ^ i := by
  induction V generalizing i with
  | nil => simp at h
  | cons a l ih =>
    cases i with
    | zero => simp [val]; omega
    | succ i =>
      have := ih i (by simpa using h)
      simp only [List.set_cons_succ, val, List.getD_cons_succ, Nat.pow_succ]
      have e1 : l.getD i 0 * (4294967296 ^ i * 4294967296) = 4294967296 * (l.getD i 0 * 4294967296 ^ i) := by
        rw [Nat.mul_comm (4294967296 ^ i), ← Nat.mul_assoc, Nat.mul_comm (l.getD i 0), Nat.mul_assoc]
      have e2 : d * (4294967296 ^ i * 4294967296) = 4294967296 * (d * 4294967296 ^ i) := by
        rw [Nat.mul_comm (4294967296 ^ i), ← Nat.mul_assoc, Nat.mul_comm d, Nat.mul_assoc]
      rw [e1, e2]
      omega
theorem val_append (A C : List Nat) : val (A ++ C) = val A + 4294967296 ^ A.length * val C := by
  induction A with
  | nil => simp [val]
  | cons a l ih =>
    simp only [List.cons_append, val, ih, List.length_cons, Nat.pow_succ, Nat.mul_add]
    rw [← Nat.mul_assoc, Nat.mul_comm 4294967296 (4294967296 ^ l.length)]
    omega
theorem val_lt (V : List Nat) (h : ∀ d ∈ V, d < 4294967296) : val V < 4294967296 ^ V.length := by
  induction V with
  | nil => simp [val]
  | cons a l ih =>
    have h1 := h a (by simp)
    have h2 := ih (fun d hd => h d (by simp [hd]))
    simp only [val, List.length_cons, Nat.pow_succ]
    rw [Nat.mul_comm _ 4294967296]
    have : 4294967296 * (val l + 1) ≤ 4294967296 * 4294967296 ^ l.length := Nat.mul_le_mul_left _ h2
    omega
theorem val_zero (n : Nat) : val (List.replicate n 0) = 0 := by
  induction n with
  | zero => rfl
  | succ n ih => simp [List.replicate_succ, val, ih]

/-- A step of 'add'. -/
theorem add_step (V : List Nat) (i x : Nat) (hi : i < V.length) :
    val (V.set i ((V.getD i 0 + x % 4294967296) % 4294967296)) + (x / 4294967296 + (V.getD i 0 + x % 4294967296) / 4294967296) * 4294967296 ^ (i + 1) = val V + x * 4294967296 ^ i := by
  have h := val_set V i ((V.getD i 0 + x % 4294967296) % 4294967296) hi
  rw [Nat.pow_succ]
  generalize V.getD i 0 = a at *
  generalize 4294967296 ^ i = P at *
  generalize val (V.set i ((a + x % 4294967296) % 4294967296)) = X at *
  have key : (x / 4294967296 + (a + x % 4294967296) / 4294967296) * (P * 4294967296) + (a + x % 4294967296) % 4294967296 * P = x * P + a * P := by
    have e : x + a = (x / 4294967296 + (a + x % 4294967296) / 4294967296) * 4294967296 + (a + x % 4294967296) % 4294967296 := by omega
    rw [← Nat.add_mul x a P, e, Nat.add_mul _ _ P, Nat.mul_assoc _ 4294967296 P, Nat.mul_comm 4294967296 P]
  omega
theorem add_in (V : List Nat) (i x : Nat) (hx : 0 < x) (h : val V + x * 4294967296 ^ i < 4294967296 ^ V.length) : i < V.length := by
  rcases Nat.lt_or_ge i V.length with h1 | h1
  · exact h1
  · have : 4294967296 ^ V.length ≤ 4294967296 ^ i := Nat.pow_le_pow_right (by decide) h1
    have : 1 * 4294967296 ^ i ≤ x * 4294967296 ^ i := Nat.mul_le_mul_right _ hx
    omega
end Go.Proofs.YtplhlhjakapaaaaDoor
