/-
  Lists of a map's entries.
-/
import Derived.Test.YtplhlhjakapaaaaDoorOwn
namespace Go.Proofs.YtplhlhjakapaaaaDoor
open Go Go.RowKit

/-- What a map has at a place. -/
structure Ent where
  p : Nat
  k : List UInt8
  v : List UInt8
def entC (e : Ent) : List Value := [.int .u64 (e.p : Int), .string (mkS e.k), .string (mkS e.v)]
def EntOk (e : Ent) : Prop := e.p < 18446744073709551616 ∧ e.k.length < 999999999 ∧ e.v.length < 999999999
def EntsIs (w : World) (v : Value) (es : List Ent) : Prop :=
  (∀ e ∈ es, EntOk e) ∧ ∃ sp cap, v = .slice sp es.length cap ∧ es.length ≤ cap ∧ (0 < es.length → ∃ g o, sp = some ⟨g, o, none⟩ ∧ g < w.heap.size ∧ ∀ k e, es[k]? = some e → w.rangeAt g (o + k * 3) (entC e))
def EntsOwn (w : World) (base : Nat) (v : Value) (es : List Ent) : Prop :=
  (∀ e ∈ es, EntOk e) ∧ (es = [] → v = .slice none 0 0) ∧ w.ownsRow base 112 3 v es.length (es.flatMap entC)

theorem EntsIs.gr {a b : World} {v : Value} {es : List Ent} (h : EntsIs a v es) (hG : a.grownBy b none) : EntsIs b v es := by
  obtain ⟨hok, sp, cap, hv, hc, hq⟩ := h
  refine ⟨hok, sp, cap, hv, hc, fun h0 => ?_⟩
  obtain ⟨g, o, hsp, hg, hr⟩ := hq h0
  exact ⟨g, o, hsp, by have := hG.size; omega, fun k e hk j u hj => (gr_cell hG (p := ⟨g, o + k * 3 + j, none⟩) hg).trans (hr k e hk j u hj)⟩

theorem ent_length : ∀ (es : List Ent), (es.flatMap entC).length = es.length * 3
  | [] => rfl
  | e :: es => by rw [List.flatMap_cons, List.length_append, ent_length es, List.length_cons]; simp [entC]; omega
theorem ent_at : ∀ (es : List Ent) (k : Nat) (e : Ent), es[k]? = some e → ∀ j, j < 3 → (es.flatMap entC)[k * 3 + j]? = (entC e)[j]?
  | [], k, e, hk, _, _ => by simp at hk
  | t :: es, 0, e, hk, j, hj => by
    obtain rfl : t = e := by simpa using hk
    rw [List.flatMap_cons, Nat.zero_mul, Nat.zero_add, List.getElem?_append_left (by simpa [entC] using hj)]
  | t :: es, k + 1, e, hk, j, hj => by
    have ht : (entC t).length = 3 := rfl
    rw [List.flatMap_cons, List.getElem?_append_right (by omega), show (k + 1) * 3 + j - (entC t).length = k * 3 + j by omega]
    exact ent_at es k e (by simpa using hk) j hj

theorem EntsOwn.is {w : World} {base : Nat} {v : Value} {es : List Ent} (h : EntsOwn w base v es) : EntsIs w v es := by
  obtain ⟨hok, _, hl, h0 | ⟨g, cap, cur, hv, hb, hh, h1, h2, h3, h4⟩⟩ := h
  · have : es = [] := List.length_eq_zero_iff.1 h0.2
    subst this
    exact ⟨hok, _, _, h0.1, by simp, fun h => absurd h (by simp)⟩
  · refine ⟨hok, _, _, hv, h1, fun _ => ⟨g, 0, rfl, (Array.getElem?_eq_some_iff.1 hh).1, fun k e hk j u hj => ?_⟩⟩
    have hkl : k < es.length := (List.getElem?_eq_some_iff.1 hk).1
    have hj3 : j < 3 := by have := (List.getElem?_eq_some_iff.1 hj).1; simpa [entC] using this
    have hin : k * 3 + j < es.length * 3 := by omega
    have e1 : cur[k * 3 + j]? = (cur.toList.take (es.length * 3))[k * 3 + j]? := by
      rw [List.getElem?_take, if_pos hin, Array.getElem?_toList]
    rw [Nat.zero_add, cell_of_row w _ _ _ _ _ hh, e1, h4, ent_at es k e hk j hj3, hj]

theorem EntsOwn.gr {a b : World} {base : Nat} {v : Value} {es : List Ent} (h : EntsOwn a base v es) (hG : a.grownBy b none) : EntsOwn b base v es := by
  refine ⟨h.1, h.2.1, h.2.2.kept hG ?_⟩
  cases hv : v.ownBlock
  · exact Or.inl rfl
  · exact Or.inr (by simp)
theorem EntsOwn.lower {w : World} {base base' : Nat} {v : Value} {es : List Ent} (h : EntsOwn w base v es) (hb : base' ≤ base) : EntsOwn w base' v es := by
  obtain ⟨h32, hn, hl, h0 | ⟨g, cap, cur, hv, hb', rest⟩⟩ := h
  · exact ⟨h32, hn, hl, Or.inl h0⟩
  · exact ⟨h32, hn, hl, Or.inr ⟨g, cap, cur, hv, by omega, rest⟩⟩
theorem EntsOwn.nil (w : World) (base : Nat) : EntsOwn w base (.slice none 0 0) [] := ⟨fun _ h => absurd h (by simp), fun _ => rfl, rfl, Or.inl ⟨rfl, rfl⟩⟩

theorem gr_own3 {w0 w w' : World} {base : Nat} {v : Value} {e : TypeId} {n : Nat} {xs : List Value} (h : w.ownsRow base e 3 v n xs) (hG : w.grownBy w' v.ownBlock) (h0 : w0.grownBy w none) (hb : w0.heap.size ≤ base) : w0.grownBy w' none := by
  refine ⟨hG.os.trans h0.os, hG.tape.trans h0.tape, hG.output.trans h0.output, Nat.le_trans h0.size hG.size, fun i hi _ => ?_⟩
  refine (hG.block i (Nat.lt_of_lt_of_le hi h0.size) ?_).trans (h0.block i hi (by simp))
  obtain ⟨_, h1 | ⟨g, cap, cur, hv, hb', _⟩⟩ := h
  · rw [h1.1]; simp [Value.ownBlock]
  · rw [hv]; simp [Value.ownBlock]; omega

theorem infoEz : ∃ i z, Tryd.prog.info? 112 = some i ∧ i.zero = some z ∧ i.size = 3 ∧ i.bytes = 40 ∧ z.cells.size = 3 := by
  have h : ((Tryd.prog.info? 112).bind fun i => i.zero.map fun z => (z.cells.size, i.size, i.bytes)) = some (3, 3, 40) := by kernel_rfl
  cases hi : Tryd.prog.info? 112 with
  | none => simp [hi] at h
  | some i =>
    cases hz : i.zero with
    | none => simp [hi, hz] at h
    | some z =>
      simp [hi, hz] at h
      exact ⟨i, z, rfl, hz, h.2.1, h.2.2, h.1⟩
theorem infoE : (Tryd.prog.info? 112).map (·.size) = some 3 := by kernel_rfl
theorem built_ent (e : Ent) : Tryd.prog.builtSlice 112 1 [(0, .agg (entC e).toArray)] = some (entC e).toArray := by
  show _ = _
  kernel_rfl

theorem wpList_appendE {ops : Array Oper} {rest : List Oper} {o1 o2 : Oper} {a : Act} {w : World} {Q : Exit → Act → World → Prop} (base : Nat) (es : List Ent) (e : Ent) (v : Value) (hs : EntOk e) (hown : EntsOwn w base v es) (hbase : base ≤ w.heap.size) (hlen : es.length < 1000000000)
    (g1 : o1.guard = none) (g2 : o2.guard = none) (x y : Operand) (d : Tmp) (ho1 : o1.op = .buildSlice 72 1 #[(0, x)]) (hd1 : o1.dst = some d) (ho2 : o2.op = .call { callee := .builtin .append, args := #[y, .tmp d], argTypes := #[72, 72] })
    (hx : a.eval x = .agg (entC e).toArray) (hy : (a.put (some d) (.slice (some ⟨w.heap.size, 0, none⟩) 1 1)).eval y = v) (hds : d < a.tmps.size)
    (h : ∀ v' w', EntsOwn w' base v' (es ++ [e]) → (∀ w0 : World, w0.grownBy w none → w0.heap.size ≤ base → w0.grownBy w' none) → wpList Tryd.prog ops Q rest ((a.put (some d) (.slice (some ⟨w.heap.size, 0, none⟩) 1 1)).put o2.dst v') w') :
    wpList Tryd.prog ops Q (o1 :: o2 :: rest) a w := by
  obtain ⟨i0, z0, hi0, hz0, hz1, hz2, hz3⟩ := infoEz
  refine wpList_plain g1 fun K hK => ?_
  refine wp_build1 72 112 x ho1 Tryd.underlying72 _ hx (entC e).toArray (built_ent e) ?_
  rw [hd1]
  refine hK _ _ ?_
  have hG := gr_alloc w (Obj.cells (entC e).toArray 112)
  have hrb : (w.alloc (Obj.cells (entC e).toArray 112)).heap[w.heap.size]? = some (.cells (entC e).toArray 112 (0, 0)) := heap_alloc_new w _
  have hown1 := hown.gr hG
  refine wpList_append_own _ g2 _ _ 72 ho2 base 112 i0 z0 3 40 Tryd.underlying72 hi0 hz0 hz1 hz2 hz3 (by decide) v es.length (es.flatMap entC) hy hown1.2.2 ⟨w.heap.size, 0, none⟩ 1 1 (entC e) ?_ (by simp [entC]) ?_ ?_ (by unfold maxLen; omega) (by omega) (by have := hG.size; omega) ?_
  · simp [Act.eval, Act.put, hds]
  · intro j u hj
    have e : (⟨w.heap.size, 0, none⟩ : Addr).add j = ⟨w.heap.size, j, none⟩ := by unfold Addr.add; split <;> simp_all
    rw [e, cell_of_row _ _ _ _ _ _ hrb]; simpa using hj
  · intro u hu
    simp only [entC, List.mem_cons, List.not_mem_nil, or_false] at hu
    rcases hu with rfl | rfl | rfl <;> rfl
  · intro v' w' hown' hG' _
    refine h v' w' ⟨fun x hx => ?_, fun h => absurd h (by simp), ?_⟩ (fun w0 h0 hb => gr_own3 hown1.2.2 hG' (gr_trans h0 hG) hb)
    · rcases List.mem_append.1 hx with h1 | h1
      · exact hown.1 x h1
      · rw [List.mem_singleton.1 h1]; exact hs
    · rw [List.flatMap_append, List.length_append]
      simpa using hown'
end Go.Proofs.YtplhlhjakapaaaaDoor
