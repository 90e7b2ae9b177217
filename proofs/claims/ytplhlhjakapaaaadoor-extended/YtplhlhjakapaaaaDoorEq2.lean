/-
  Two pairs of hashes compared.
-/
import Derived.Test.YtplhlhjakapaaaaDoorPair
namespace Go.Proofs.YtplhlhjakapaaaaDoor
open Go Go.RowKit

theorem eqIn25 (w : World) (d : Nat) (a b : List UInt8) (ha : a.length = 32) (hb : b.length = 32) : (Op.equalIn (d + 2) 25 (.agg (a.map ub).toArray) (.agg (b.map ub).toArray)).run Tryd.prog w = .ok (a == b) w := by
  obtain ⟨i, hi⟩ := info5'
  have h1 := run_items w d a b (by omega) (List.range 32) (fun j hj => by rw [ha]; simpa using hj)
  have h2 := all_range a b (by omega)
  rw [ha] at h2
  rw [h2] at h1
  have h3 := run_equalIn_array w (d + 1) (a.map ub).toArray (b.map ub).toArray Tryd.underlying25 hi
  rw [cells5] at h3
  exact h3.trans h1

theorem part25 (w : World) (xs : Array Value) (off : Nat) : (part 25 xs off).run Tryd.prog w = .ok (.agg (xs.extract off (off + 32))) w := by
  obtain ⟨i, hi⟩ : ∃ i, Tryd.prog.info? 25 = some i := Option.isSome_iff_exists.1 (by kernel_rfl)
  have hc : Tryd.prog.cellsOf 25 = 32 := by kernel_rfl
  have h1 : (isAgg 25).run Tryd.prog w = .ok true w := by
    simp [isAgg, run_underlying Tryd.underlying25]
  simp only [part, Sem.run_bind, h1, Result.andThen_ok, if_true, run_sizeOf w hi, hc, Sem.run_pure]

theorem extract_first (f a : List UInt8) (hf : f.length = 32) : (pairC f a).extract 0 (0 + 32) = (f.map ub).toArray := by
  unfold pairC
  apply Array.ext'
  simp [hf]
theorem extract_second (f a : List UInt8) (hf : f.length = 32) (ha : a.length = 32) : (pairC f a).extract 32 (32 + 32) = (a.map ub).toArray := by
  unfold pairC
  apply Array.ext'
  simp [hf, ha, List.take_of_length_le]

theorem fields126 : ∃ f g : Field, (Tryd.prog.fieldsOf 144).toList = [f, g] ∧ f.name ≠ "_" ∧ g.name ≠ "_" ∧ f.type = 25 ∧ g.type = 25 ∧ f.offset = 0 ∧ g.offset = 32 := by
  have h : ((Tryd.prog.fieldsOf 144).toList.map fun f => (f.name, f.type, f.offset)) = [("first", 25, 0), ("all", 25, 32)] := by kernel_rfl
  have hlen : (Tryd.prog.fieldsOf 144).toList.length = 2 := by have := congrArg List.length h; simpa using this
  obtain ⟨f, g, hL⟩ : ∃ f g, (Tryd.prog.fieldsOf 144).toList = [f, g] := by
    match (Tryd.prog.fieldsOf 144).toList, hlen with
    | [f, g], _ => exact ⟨f, g, rfl⟩
  rw [hL] at h
  simp at h
  obtain ⟨⟨h1, h2, h3⟩, h4, h5, h6⟩ := h
  exact ⟨f, g, hL, by rw [h1]; decide, by rw [h4]; decide, h2, h5, h3, h6⟩

theorem run_eq126 (w : World) (f a g b : List UInt8) (hf : f.length = 32) (ha : a.length = 32) (hg : g.length = 32) (hb : b.length = 32) :
    (binOp .eql 144 (.agg (pairC f a)) (.agg (pairC g b))).run Tryd.prog w = .ok (.bool (f == g && a == b)) w := by
  obtain ⟨x, y, hL, n1, n2, t1, t2, o1, o2⟩ := fields126
  have h3 := run_equalIn_struct (P := Tryd.prog) w 9999 144 (pairC f a) (pairC g b) (by kernel_rfl) (by kernel_rfl)
  rw [hL] at h3
  have h4 : (Op.eqFields 9999 (pairC f a) (pairC g b) [x, y]).run Tryd.prog w = .ok (f == g && a == b) w := by
    have e1 := eqIn25 w 9997 f g hf hg
    have e2 := eqIn25 w 9997 a b ha hb
    simp only [Op.eqFields, n1, n2, ne_eq, not_false_eq_true, if_true, t1, t2, o1, o2, Sem.run_bind, part25, Result.andThen_ok, extract_first f a hf, extract_first g b hg, e1]
    cases f == g
    · simp
    · simp only [Bool.not_true, Bool.false_eq_true, if_false, Sem.run_bind, part25, Result.andThen_ok, extract_second f a hf ha, extract_second g b hg hb, e2, Bool.true_and]
      cases a == b <;> simp
  rw [run_eql_struct]
  exact (congrArg (fun r => r.andThen fun b w' => Result.ok (Value.bool b) w') (h3.trans h4)).trans rfl

theorem guard126 : Tryd.prog.eqGuardType Tryd.prog.depth 144 = false := by kernel_rfl

theorem wpList_eq126 {ops : Array Oper} {rest : List Oper} {o : Oper} {a : Act} {w : World} {Q : Exit → Act → World → Prop} (hw : Region.wanted o (yielded ops a.tmps) = true) (x y : Operand) (tt : TypeId) (ho : o.op = .binOp .eql 144 x y tt)
    (f p g q : List UInt8) (X Y : Array Value) (hX : pairC f p = X) (hY : pairC g q = Y) (hf : f.length = 32) (hp : p.length = 32) (hg : g.length = 32) (hq : q.length = 32) (hx : a.eval x = .agg X) (hy : a.eval y = .agg Y)
    (h : wpList Tryd.prog ops Q rest (a.put o.dst (.bool (f == g && p == q))) w) : wpList Tryd.prog ops Q (o :: rest) a w := by
  unfold wpList
  rw [if_pos hw]
  refine Or.inl ?_
  unfold Oper.wp execOp
  subst hX; subst hY
  simp only [ho, hx, hy, Sem.run_bind, run_eqGuard_agg w .eql 144 x y _ _ guard126, Result.andThen_ok, run_eq126 w f p g q hf hp hg hq, Sem.run_pure]
  exact h

theorem wpList_pair_g {ops : Array Oper} {rest : List Oper} {o : Oper} {a : Act} {w : World} {Q : Exit → Act → World → Prop} (hw : Region.wanted o (yielded ops a.tmps) = true) (x y : Operand) (ho : o.op = .build 144 #[(0, x), (1, y)]) (F A : Value) (hx : a.eval x = F) (hy : a.eval y = A) (P : Array Value) (hP : Tryd.prog.built 144 [(0, F), (1, A)] = some P)
    (h : wpList Tryd.prog ops Q rest (a.put o.dst (.agg P)) w) : wpList Tryd.prog ops Q (o :: rest) a w := by
  have e : Tryd.prog.built 144 (#[(0, x), (1, y)].map fun (i, x) => (i, a.eval x)).toList = some P := by simpa [hx, hy] using hP
  unfold wpList
  rw [if_pos hw]
  refine Or.inl (wp_build 144 _ ho (by rw [e]; rfl) ?_)
  rw [e]
  exact h
end Go.Proofs.YtplhlhjakapaaaaDoor
