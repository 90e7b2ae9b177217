/-
  The hash as plain Lean: words of 32 bits, rounds, blocks. My own; imports nothing of the dump.
-/
import Derived.Laws.BitsAllLaws
namespace Go.Proofs.YtjgmmdgcknnlpaaDoor
open Go

/-- A word as a value, a byte as a value. -/
abbrev uw (x : BitVec 32) : Value := .int .u32 (x.toNat : Int)
abbrev ub (x : UInt8) : Value := .int .u8 (x.toNat : Int)

theorem ofInt_toNat32 (x : BitVec 32) : BitVec.ofInt 32 (x.toNat : Int) = x := by
  rw [BitVec.ofInt_natCast, BitVec.ofNat_toNat, BitVec.setWidth_eq]

theorem wrap32_toNat (x : BitVec 32) : IntKind.u32.wrap (x.toNat : Int) = (x.toNat : Int) := by
  rw [IntKind.wrap_u32']
  have := x.isLt
  omega

theorem bv_xor (x y : BitVec 32) : bits .xor .u32 (x.toNat : Int) (y.toNat : Int) = ((x ^^^ y).toNat : Int) := by
  show IntKind.u32.wrap ((BitVec.ofInt 32 (x.toNat : Int) ^^^ BitVec.ofInt 32 (y.toNat : Int)).toNat : Int) = _
  rw [ofInt_toNat32, ofInt_toNat32, wrap32_toNat]
theorem bv_and (x y : BitVec 32) : bits .and .u32 (x.toNat : Int) (y.toNat : Int) = ((x &&& y).toNat : Int) := by
  show IntKind.u32.wrap ((BitVec.ofInt 32 (x.toNat : Int) &&& BitVec.ofInt 32 (y.toNat : Int)).toNat : Int) = _
  rw [ofInt_toNat32, ofInt_toNat32, wrap32_toNat]
theorem bv_or (x y : BitVec 32) : bits .or .u32 (x.toNat : Int) (y.toNat : Int) = ((x ||| y).toNat : Int) := by
  show IntKind.u32.wrap ((BitVec.ofInt 32 (x.toNat : Int) ||| BitVec.ofInt 32 (y.toNat : Int)).toNat : Int) = _
  rw [ofInt_toNat32, ofInt_toNat32, wrap32_toNat]
theorem bv_add (x y : BitVec 32) : IntKind.u32.wrap ((x.toNat : Int) + (y.toNat : Int)) = ((x + y).toNat : Int) := by
  rw [IntKind.wrap_u32', BitVec.toNat_add]
  omega
theorem bv_shl (x : BitVec 32) (n : Nat) : IntKind.u32.wrap ((x.toNat : Int) * 2 ^ n) = ((x <<< n).toNat : Int) := by
  rw [IntKind.wrap_u32', BitVec.toNat_shiftLeft, Nat.shiftLeft_eq]
  simp
theorem bv_shr (x : BitVec 32) (n : Nat) : (x.toNat : Int) / 2 ^ n = ((x >>> n).toNat : Int) := by
  rw [BitVec.toNat_ushiftRight, Nat.shiftRight_eq_div_pow]
  simp

/-- Turned to the right. -/
def rr (n : Nat) (x : BitVec 32) : BitVec 32 := (x >>> n) ||| (x <<< (32 - n))
def sm0 (x : BitVec 32) : BitVec 32 := (rr 7 x ^^^ rr 18 x) ^^^ (x >>> 3)
def sm1 (x : BitVec 32) : BitVec 32 := (rr 17 x ^^^ rr 19 x) ^^^ (x >>> 10)
def bg0 (x : BitVec 32) : BitVec 32 := (rr 2 x ^^^ rr 13 x) ^^^ rr 22 x
def bg1 (x : BitVec 32) : BitVec 32 := (rr 6 x ^^^ rr 11 x) ^^^ rr 25 x
def cho (e f g : BitVec 32) : BitVec 32 := (e &&& f) ^^^ (~~~e &&& g)
def mst (a b c : BitVec 32) : BitVec 32 := ((a &&& b) ^^^ (a &&& c)) ^^^ (b &&& c)

/-- One word more of the sixty-four, of those that are there. -/
def nextW (l : List (BitVec 32)) : BitVec 32 :=
  ((l.getD (l.length - 16) 0 + sm0 (l.getD (l.length - 15) 0)) + l.getD (l.length - 7) 0) + sm1 (l.getD (l.length - 2) 0)
def growW (l : List (BitVec 32)) : Nat → List (BitVec 32)
  | 0 => l
  | n + 1 => growW l n ++ [nextW (growW l n)]
theorem length_growW (l : List (BitVec 32)) (n : Nat) : (growW l n).length = l.length + n := by
  induction n with
  | zero => rfl
  | succ n ih => simp [growW, ih]; omega

/-- A word of four bytes. -/
def wordOf (a b c d : UInt8) : BitVec 32 := (((BitVec.ofNat 32 a.toNat <<< 24) ||| (BitVec.ofNat 32 b.toNat <<< 16)) ||| (BitVec.ofNat 32 c.toNat <<< 8)) ||| BitVec.ofNat 32 d.toNat
/-- The first k words of a block. -/
def headW (blk : List UInt8) : Nat → List (BitVec 32)
  | 0 => []
  | k + 1 => headW blk k ++ [wordOf (blk.getD (4 * k) 0) (blk.getD (4 * k + 1) 0) (blk.getD (4 * k + 2) 0) (blk.getD (4 * k + 3) 0)]
theorem length_headW (blk : List UInt8) (k : Nat) : (headW blk k).length = k := by
  induction k with
  | zero => rfl
  | succ n ih => simp [headW, ih]
def allW (blk : List UInt8) : List (BitVec 32) := growW (headW blk 16) 48
theorem length_allW (blk : List UInt8) : (allW blk).length = 64 := by simp [allW, length_growW, length_headW]

/-- What the rounds turn: eight words. -/
structure Eight where
  (a b c d e f g h : BitVec 32)
def Eight.list (s : Eight) : List (BitVec 32) := [s.a, s.b, s.c, s.d, s.e, s.f, s.g, s.h]
def Eight.one (s : Eight) (k w : BitVec 32) : BitVec 32 := (((s.h + bg1 s.e) + cho s.e s.f s.g) + k) + w
def Eight.two (s : Eight) : BitVec 32 := bg0 s.a + mst s.a s.b s.c
def Eight.step (s : Eight) (k w : BitVec 32) : Eight := ⟨s.one k w + s.two, s.a, s.b, s.c, s.d + s.one k w, s.e, s.f, s.g⟩
def Eight.steps (s : Eight) (ks ws : List (BitVec 32)) : Nat → Eight
  | 0 => s
  | n + 1 => (Eight.steps s ks ws n).step (ks.getD n 0) (ws.getD n 0)
def Eight.plus (s t : Eight) : Eight := ⟨s.a + t.a, s.b + t.b, s.c + t.c, s.d + t.d, s.e + t.e, s.f + t.f, s.g + t.g, s.h + t.h⟩
/-- A block more. -/
def Eight.mix (ks : List (BitVec 32)) (s : Eight) (blk : List UInt8) : Eight := s.plus (s.steps ks (allW blk) 64)
/-- The words of the rounds. -/
def KS : List (BitVec 32) := [1116352408, 1899447441, 3049323471, 3921009573, 961987163, 1508970993, 2453635748, 2870763221, 3624381080, 310598401, 607225278, 1426881987, 1925078388, 2162078206, 2614888103, 3248222580, 3835390401, 4022224774, 264347078, 604807628, 770255983, 1249150122, 1555081692, 1996064986, 2554220882, 2821834349, 2952996808, 3210313671, 3336571891, 3584528711, 113926993, 338241895, 666307205, 773529912, 1294757372, 1396182291, 1695183700, 1986661051, 2177026350, 2456956037, 2730485921, 2820302411, 3259730800, 3345764771, 3516065817, 3600352804, 4094571909, 275423344, 430227734, 506948616, 659060556, 883997877, 958139571, 1322822218, 1537002063, 1747873779, 1955562222, 2024104815, 2227730452, 2361852424, 2428436474, 2756734187, 3204031479, 3329325298]
/-- The words that it begins with. -/
def H0 : Eight := ⟨1779033703, 3144134277, 1013904242, 2773480762, 1359893119, 2600822924, 528734635, 1541459225⟩
end Go.Proofs.YtjgmmdgcknnlpaaDoor
