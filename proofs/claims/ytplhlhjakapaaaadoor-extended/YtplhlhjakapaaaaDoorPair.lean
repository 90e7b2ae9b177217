/-
  Two hashes in a struct; tree.extend's small cases.
-/
import Derived.Test.YtplhlhjakapaaaaDoorOwn
namespace Go.Proofs.YtplhlhjakapaaaaDoor
open Go Go.RowKit

def pairC (f a : List UInt8) : Array Value := ((f ++ a).map ub).toArray

set_option maxRecDepth 100000 in
theorem built_pair (F A : List UInt8) (hF : F.length = 32) (hA : A.length = 32) : Tryd.prog.built 144 [(0, .agg (F.map ub).toArray), (1, .agg (A.map ub).toArray)] = some (pairC F A) := by
  match F, hF, A, hA with
  | [a0, a1, a2, a3, a4, a5, a6, a7, a8, a9, a10, a11, a12, a13, a14, a15, a16, a17, a18, a19, a20, a21, a22, a23, a24, a25, a26, a27, a28, a29, a30, a31], _, [b0, b1, b2, b3, b4, b5, b6, b7, b8, b9, b10, b11, b12, b13, b14, b15, b16, b17, b18, b19, b20, b21, b22, b23, b24, b25, b26, b27, b28, b29, b30, b31], _ =>
    show _ = _
    kernel_rfl
def z32 : List UInt8 := List.replicate 32 0
theorem built_zero : Tryd.prog.built 144 [] = some (pairC z32 z32) := by
  show _ = _
  kernel_rfl
theorem info126 : (Tryd.prog.info? 144).map (·.size) = some 64 := by kernel_rfl
theorem und126 : ∃ fs, Tryd.prog.underlying 144 = some (.struct fs) := ⟨_, Tryd.underlying144⟩
theorem sum126 (F A : List UInt8) (hF : F.length = 32) (hA : A.length = 32) : Hid ((Tryd.prog.info? 144).map (·.size) = some (pairC F A).size) ∧ Hid ((brow 64 []).toArray.size = (pairC F A).size) ∧ Hid ((pairC F A).all (·.oneCell') = true) := by
  have hl : (F ++ A).length = 64 := by simp [hF, hA]
  have hs : (pairC F A).size = 64 := by unfold pairC; simp [hF, hA]
  refine ⟨?_, ?_, ?_⟩
  · show _ = _
    rw [hs, info126]
  · show _ = _
    rw [hs, List.size_toArray, length_brow _ _ (by simp)]
  · show _ = _
    unfold pairC
    rw [← brow_full _ _ hl]; exact brow_one _ _

theorem wpList_pair {ops : Array Oper} {rest : List Oper} {o : Oper} {a : Act} {w : World} {Q : Exit → Act → World → Prop} (hg : o.guard = none) (x y : Operand) (ho : o.op = .build 144 #[(0, x), (1, y)]) (F A : Value) (hx : a.eval x = F) (hy : a.eval y = A) (P : Array Value) (hP : Tryd.prog.built 144 [(0, F), (1, A)] = some P)
    (h : wpList Tryd.prog ops Q rest (a.put o.dst (.agg P)) w) : wpList Tryd.prog ops Q (o :: rest) a w :=
  wpList_buildTo hg 144 _ ho _ rfl P (by simpa [hx, hy] using hP) h
theorem wpList_pair0 {ops : Array Oper} {rest : List Oper} {o : Oper} {a : Act} {w : World} {Q : Exit → Act → World → Prop} (hg : o.guard = none) (ho : o.op = .build 144 #[]) (P : Array Value) (hP : Tryd.prog.built 144 [] = some P)
    (h : wpList Tryd.prog ops Q rest (a.put o.dst (.agg P)) w) : wpList Tryd.prog ops Q (o :: rest) a w :=
  wpList_buildTo hg 144 _ ho _ rfl P (by simpa using hP) h
end Go.Proofs.YtplhlhjakapaaaaDoor
