/-
  A region's end of my own: a call and the making of the variable that gets its answer, in either order; then the store.
-/
import Derived.Test.YtplhlhjakapaaaaDoorTake
import Derived.Test.YtplhlhjakapaaaaDoorTail
namespace Go.Proofs.YtplhlhjakapaaaaDoor
open Go Go.RowKit

theorem put_comm {a : Act} {p q : Tmp} {x y : Value} (h : p ≠ q) : (a.put (some p) x).put (some q) y = (a.put (some q) y).put (some p) x := by
  simp only [Act.put]
  rw [Array.setIfInBounds_comm _ _ h]

theorem set_none {a : Act} {x : Value} : a.put none x = a := rfl

theorem wp_alloc25 {o : Oper} {a : Act} {w : World} {K : Act → World → Prop} {Q : Exit → Act → World → Prop} (ho : o.op = .alloc 25) (h : K (a.put o.dst (.pointer (some ⟨w.heap.size, 0, none⟩))) (w.alloc (.cells (brow 32 []).toArray 25))) : Oper.wp Tryd.prog o a w K Q := by
  unfold Oper.wp execOp
  simp only [ho]
  go_simp
  exact h

theorem wpAnyT_ca {md : Region.Mode} {ops : Array Oper} {Q : Exit → Act → World → Prop} {S : World → Prop} {n : Nat} {i j k : Nat} {oi oj ok : Oper} {listed : Array Bool} {a : Act} {w : World} {R : List UInt8} {p q : Tmp}
    (hi : ops[i]? = some oi) (hj : ops[j]? = some oj) (hk : ops[k]? = some ok)
    (hr : Region.ready md ops listed = [i, j]) (hri : Region.ready md ops (listed.setIfInBounds i true) = [j]) (hrj : Region.ready md ops (listed.setIfInBounds j true) = [i])
    (hr2 : Region.ready md ops ((listed.setIfInBounds i true).setIfInBounds j true) = [k]) (hr3 : Region.ready md ops (((listed.setIfInBounds i true).setIfInBounds j true).setIfInBounds k true) = [])
    (gi : oi.guard = none) (gj : oj.guard = none) (gk : ok.guard = none)
    (hoj : oj.op = .alloc 25) (hpd : oj.dst = some p) (hok : ok.op = .store 25 (.tmp p) (.tmp q)) (hdk : ok.dst = none) (hne : p ≠ q) (hij : i ≠ j) (hps : p < a.tmps.size) (hqs : q < a.tmps.size)
    (hS : ∀ V, w.grownBy V none → S V) (hR : R.length = 32)
    (hcall : ∀ V a', w.grownBy V none → (a' = a ∨ ∃ x, a' = a.put (some p) x) → ∀ K' : Act → World → Prop, Shut (∀ w', V.grownBy w' none → K' (a'.put (some q) (.agg (R.map ub).toArray)) w') → Oper.wp Tryd.prog oi a' V K' Q)
    (hend : ∀ B Z, w.heap.size ≤ B → B < Z.heap.size → Z.heap[B]? = some (.cells (R.map ub).toArray 25 (0, 0)) → w.grownBy Z none → Q .normal ((a.put (some q) (.agg (R.map ub).toArray)).put (some p) (.pointer (some ⟨B, 0, none⟩))) Z) :
    wpAnyT Tryd.prog md ops Q S k (n + 3) listed a w := by
  obtain ⟨HI, HO, HN⟩ := sum25 R hR
  have wantedT : ∀ (o : Oper) (y : Nat → Option Bool), o.guard = none → Region.wanted o y = true := fun o y h => by simp [Region.wanted, h]
  have hstore : ∀ (B : Nat) (Z : World), w.heap.size ≤ B → Z.heap[B]? = some (.cells (brow 32 []).toArray 25 (0, 0)) → w.grownBy Z none →
      wpAnyT Tryd.prog md ops Q S k (n + 1) ((listed.setIfInBounds i true).setIfInBounds j true) ((a.put (some q) (.agg (R.map ub).toArray)).put (some p) (.pointer (some ⟨B, 0, none⟩))) Z := fun B Z hB hZ hG => by
    refine wpAnyT_one hk hr2 (fun K hK => ?_)
    rw [if_pos (wantedT _ _ gk)]
    refine wp_store_row 25 _ _ hok B (R.map ub).toArray ?_ ?_ 25 _ hZ HI.out HO.out HN.out ?_
    · simp [Act.eval, Act.put, hps]
    · rw [put_comm (Ne.symm hne)]; simp [Act.eval, Act.put, hqs]
    rw [hdk]
    refine hK.out _ _ (fun h => absurd rfl h) (fun _ => ?_)
    refine wpAnyT_done hr3 ?_ _
    have hZ2 := setRow_heap Z B (brow 32 []).toArray (R.map ub).toArray 25 _ hZ
    exact hend B _ hB (by have := (Array.getElem?_eq_some_iff.1 hZ2).1; exact this) hZ2 (gr_row hG _ _ hB)
  refine ⟨fun h => (by rw [hr] at h; cases h), fun m hm => ?_⟩
  rw [hr] at hm
  rcases List.mem_cons.1 hm with rfl | hm
  · refine wpOp_step hi (fun K hK => ?_)
    rw [if_pos (wantedT _ _ gi)]
    refine hcall w a (gr_refl w) (Or.inl rfl) K (fun w1 hG1 => hK _ _ ⟨fun _ => hS _ hG1, ?_⟩)
    refine wpAnyT_one hj hri (fun K hK => ?_)
    rw [if_pos (wantedT _ _ gj)]
    refine wp_alloc25 hoj ?_
    have hG2 := gr_trans hG1 (gr_alloc w1 (.cells (brow 32 []).toArray 25))
    refine hK.out _ _ (fun _ => hS _ hG2) (fun _ => ?_)
    rw [hpd]
    exact hstore _ _ hG1.size (heap_alloc_new _ _) hG2
  · obtain rfl := List.mem_singleton.1 hm
    refine wpOp_step hj (fun K hK => ?_)
    rw [if_pos (wantedT _ _ gj)]
    refine wp_alloc25 hoj ?_
    have hG1 := gr_alloc w (.cells (brow 32 []).toArray 25)
    refine hK _ _ ⟨fun _ => hS _ hG1, ?_⟩
    rw [hpd]
    refine wpAnyT_one hi hrj (fun K hK => ?_)
    rw [if_pos (wantedT _ _ gi)]
    refine hcall _ _ hG1 (Or.inr ⟨_, rfl⟩) K (fun w2 hG2 => ?_)
    have hG02 := gr_trans hG1 hG2
    refine hK.out _ _ (fun _ => hS _ hG02) (fun _ => ?_)
    rw [put_comm hne, Array.setIfInBounds_comm _ _ (Ne.symm hij)]
    exact hstore _ _ (Nat.le_refl _) ((hG2.block _ (by simp) (by simp)).trans (heap_alloc_new _ _)) hG02

/-- Two operations may come up. -/
theorem wpAnyT_two {P : Program} {md : Region.Mode} {ops : Array Oper} {Q : Exit → Act → World → Prop} {S : World → Prop} {last n i j : Nat} {oi oj : Oper} {listed : Array Bool} {a : Act} {w : World} (hi : ops[i]? = some oi) (hj : ops[j]? = some oj) (hr : Region.ready md ops listed = [i, j])
    (h1 : ∀ K' : Act → World → Prop, Shut (∀ a w, S w → (S w → wpAnyT P md ops Q S last n (listed.setIfInBounds i true) a w) → K' a w) → if Region.wanted oi (yielded ops a.tmps) = true then Oper.wp P oi a w K' Q else K' (a.put oi.dst undef) w)
    (h2 : ∀ K' : Act → World → Prop, Shut (∀ a w, S w → (S w → wpAnyT P md ops Q S last n (listed.setIfInBounds j true) a w) → K' a w) → if Region.wanted oj (yielded ops a.tmps) = true then Oper.wp P oj a w K' Q else K' (a.put oj.dst undef) w) :
    wpAnyT P md ops Q S last (n + 1) listed a w :=
  ⟨fun h0 => (by rw [hr] at h0; cases h0), fun m hm => by
    rw [hr] at hm
    rcases List.mem_cons.1 hm with rfl | hm
    · exact wpOp_step hi (fun K' hK => h1 K' (fun a w hS hW => hK a w ⟨fun _ => hS, hW hS⟩))
    · obtain rfl := List.mem_singleton.1 hm
      exact wpOp_step hj (fun K' hK => h2 K' (fun a w hS hW => hK a w ⟨fun _ => hS, hW hS⟩))⟩
end Go.Proofs.YtplhlhjakapaaaaDoor
