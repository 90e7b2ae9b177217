/-
  A region's end of my own: two hashes stored into two variables, then an assignment.
-/
import Derived.Test.YtplhlhjakapaaaaDoorExt2
namespace Go.Proofs.YtplhlhjakapaaaaDoor
open Go Go.RowKit

/-- What two stores leave. -/
structure Two (w V : World) (B1 B2 : Nat) (x y : List UInt8) : Prop where
  one : V.heap[B1]? = some (.cells (x.map ub).toArray 25 (0, 0))
  two : V.heap[B2]? = some (.cells (y.map ub).toArray 25 (0, 0))
  gr : ∀ w0 : World, w0.grownBy w none → w0.heap.size ≤ B1 → w0.heap.size ≤ B2 → w0.grownBy V none
  other : ∀ k, k ≠ B1 → k ≠ B2 → V.heap[k]? = w.heap[k]?

theorem wp_assign {P : Program} {o : Oper} {a : Act} {w : World} {K : Act → World → Prop} {Q : Exit → Act → World → Prop} (x : Operand) (ho : o.op = .assign x) (h : K (a.put o.dst (a.eval x)) w) : Oper.wp P o a w K Q := by
  unfold Oper.wp execOp
  simp only [ho, Sem.run_pure]
  exact h

theorem wpAnyT_ss {md : Region.Mode} {ops : Array Oper} {Q : Exit → Act → World → Prop} {S : World → Prop} {n : Nat} {i j k : Nat} {oi oj ok : Oper} {listed : Array Bool} {a : Act} {w : World} {p1 q1 p2 q2 : Tmp} {z : Operand}
    (hi : ops[i]? = some oi) (hj : ops[j]? = some oj) (hk : ops[k]? = some ok)
    (hr : Region.ready md ops listed = [i]) (hri : Region.ready md ops (listed.setIfInBounds i true) = [j]) (hrj : Region.ready md ops ((listed.setIfInBounds i true).setIfInBounds j true) = [k]) (hrk : Region.ready md ops (((listed.setIfInBounds i true).setIfInBounds j true).setIfInBounds k true) = [])
    (gi : oi.guard = none) (gj : oj.guard = none) (gk : ok.guard = none)
    (hoi : oi.op = .store 25 (.tmp p1) (.tmp q1)) (hdi : oi.dst = none) (hoj : oj.op = .store 25 (.tmp p2) (.tmp q2)) (hdj : oj.dst = none) (hok : ok.op = .assign z) (d : Tmp) (hdk : ok.dst = some d) (zv : Value) (hz : a.eval z = zv)
    (B1 B2 : Nat) (x y : List UInt8) (hx : x.length = 32) (hy : y.length = 32) (hne : B1 ≠ B2)
    (e1 : a.eval (.tmp p1) = .pointer (some ⟨B1, 0, none⟩)) (v1 : a.eval (.tmp q1) = .agg (x.map ub).toArray) (e2 : a.eval (.tmp p2) = .pointer (some ⟨B2, 0, none⟩)) (v2 : a.eval (.tmp q2) = .agg (y.map ub).toArray)
    (h1 : w.heap[B1]? = some (.cells (brow 32 []).toArray 25 (0, 0))) (h2 : w.heap[B2]? = some (.cells (brow 32 []).toArray 25 (0, 0)))
    (hS : ∀ V : World, (∀ k, k ≠ B1 → k ≠ B2 → V.heap[k]? = w.heap[k]?) → S V)
    (hend : ∀ V, Two w V B1 B2 x y → Q .normal (a.put (some d) zv) V) :
    wpAnyT Tryd.prog md ops Q S k (n + 3) listed a w := by
  obtain ⟨HI1, HO1, HN1⟩ := sum25 x hx
  obtain ⟨HI2, HO2, HN2⟩ := sum25 y hy
  have wantedT : ∀ (o : Oper) (y : Nat → Option Bool), o.guard = none → Region.wanted o y = true := fun o y h => by simp [Region.wanted, h]
  refine wpAnyT_one hi hr (fun K hK => ?_)
  rw [if_pos (wantedT _ _ gi)]
  refine wp_store_row 25 _ _ hoi B1 (x.map ub).toArray e1 v1 25 _ h1 HI1.out HO1.out HN1.out ?_
  rw [hdi]
  have o1 : ∀ k, k ≠ B1 → (w.setRow B1 (x.map ub).toArray).heap[k]? = w.heap[k]? := fun k hk => setRow_other _ _ k _ hk
  have r1 := setRow_heap w B1 _ (x.map ub).toArray 25 _ h1
  have r2 : (w.setRow B1 (x.map ub).toArray).heap[B2]? = some (.cells (brow 32 []).toArray 25 (0, 0)) := (o1 B2 (Ne.symm hne)).trans h2
  refine hK.out _ _ (fun _ => hS _ (fun k hk _ => o1 k hk)) (fun _ => ?_)
  refine wpAnyT_one hj hri (fun K hK => ?_)
  rw [if_pos (wantedT _ _ gj)]
  refine wp_store_row 25 _ _ hoj B2 (y.map ub).toArray e2 v2 25 _ r2 HI2.out HO2.out HN2.out ?_
  rw [hdj]
  have o2 : ∀ k, k ≠ B2 → ((w.setRow B1 (x.map ub).toArray).setRow B2 (y.map ub).toArray).heap[k]? = (w.setRow B1 (x.map ub).toArray).heap[k]? := fun k hk => setRow_other _ _ k _ hk
  have hT : Two w ((w.setRow B1 (x.map ub).toArray).setRow B2 (y.map ub).toArray) B1 B2 x y :=
    ⟨(o2 B1 hne).trans r1, setRow_heap _ B2 _ (y.map ub).toArray 25 _ r2, fun w0 hG hb1 hb2 => gr_row (gr_row hG _ _ hb1) _ _ hb2, fun k hk1 hk2 => (o2 k hk2).trans (o1 k hk1)⟩
  refine hK.out _ _ (fun _ => hS _ hT.other) (fun _ => ?_)
  refine wpAnyT_one hk hrj (fun K hK => ?_)
  rw [if_pos (wantedT _ _ gk)]
  refine wp_assign z hok ?_
  rw [hdk, show ((a.put none undef).put none undef).eval z = zv from hz]
  refine hK.out _ _ (fun h => absurd rfl h) (fun _ => ?_)
  exact wpAnyT_done hrk (hend _ hT) _
end Go.Proofs.YtplhlhjakapaaaaDoor
