/-
  Laws for the lists of a region's operations, guarded or not: a whole array loaded, two hashes compared.
-/
import Derived.Test.YtplhlhjakapaaaaDoorTake
import Derived.Test.YtplhlhjakapaaaaDoorEqH
namespace Go.Proofs.YtplhlhjakapaaaaDoor
open Go Go.RowKit

theorem wpList_load_g {P : Program} {ops : Array Oper} {rest : List Oper} {o : Oper} {a : Act} {w : World} {Q : Exit → Act → World → Prop} (hw : Region.wanted o (yielded ops a.tmps) = true) (ty : TypeId) (x : Operand) (ho : o.op = .load ty x)
    (g : Nat) (hx : a.eval x = .pointer (some ⟨g, 0, none⟩)) (t : TypeId) (cs : Array Value) (fr : Nat × Nat) (d : TypeDesc) (hg : w.heap[g]? = some (.cells cs t fr))
    (hu : P.underlying ty = some d) (hd : (match d with | .struct _ | .array _ _ => true | _ => false) = true) (hi : (P.info? ty).map (·.size) = some cs.size)
    (h : wpList P ops Q rest (a.put o.dst (.agg cs)) w) : wpList P ops Q (o :: rest) a w := by
  unfold wpList
  rw [if_pos hw]
  refine Or.inl ?_
  unfold Oper.wp execOp
  simp only [ho, hx, Instr.loadAt, Instr.sureAddr, Sem.run_bind, Sem.run_pure, Result.andThen_ok, run_loadVar_row w g t ty cs fr d hg hu hd hi]
  exact h

theorem guard25 : Tryd.prog.eqGuardType Tryd.prog.depth 25 = false := by kernel_rfl

theorem wpList_eq25 {ops : Array Oper} {rest : List Oper} {o : Oper} {a : Act} {w : World} {Q : Exit → Act → World → Prop} (hw : Region.wanted o (yielded ops a.tmps) = true) (x y : Operand) (tt : TypeId) (ho : o.op = .binOp .eql 25 x y tt)
    (p q : List UInt8) (X Y : Array Value) (hX : (p.map ub).toArray = X) (hY : (q.map ub).toArray = Y) (hp : p.length = 32) (hq : q.length = 32) (hx : a.eval x = .agg X) (hy : a.eval y = .agg Y)
    (h : wpList Tryd.prog ops Q rest (a.put o.dst (.bool (p == q))) w) : wpList Tryd.prog ops Q (o :: rest) a w := by
  unfold wpList
  rw [if_pos hw]
  refine Or.inl ?_
  unfold Oper.wp execOp
  subst hX; subst hY
  simp only [ho, hx, hy, Sem.run_bind, run_eqGuard_agg w .eql 25 x y _ _ guard25, Result.andThen_ok, run_eq25 w p q hp hq, Sem.run_pure]
  exact h

theorem wp_eq25 {o : Oper} {a : Act} {w : World} {K : Act → World → Prop} {Q : Exit → Act → World → Prop} (x y : Operand) (tt : TypeId) (ho : o.op = .binOp .eql 25 x y tt)
    (p q : List UInt8) (hp : p.length = 32) (hq : q.length = 32) (hx : a.eval x = .agg (p.map ub).toArray) (hy : a.eval y = .agg (q.map ub).toArray) (h : K (a.put o.dst (.bool (p == q))) w) : Oper.wp Tryd.prog o a w K Q := by
  unfold Oper.wp execOp
  simp only [ho, hx, hy, Sem.run_bind, run_eqGuard_agg w .eql 25 x y _ _ guard25, Result.andThen_ok, run_eq25 w p q hp hq, Sem.run_pure]
  exact h
end Go.Proofs.YtplhlhjakapaaaaDoor
