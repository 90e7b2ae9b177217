/-
  Lists of hashes that are one's own; a hash appended.
-/
import Derived.Test.YtplhlhjakapaaaaDoorRoot
namespace Go.Proofs.YtplhlhjakapaaaaDoor
open Go Go.RowKit

def SumsOwn (w : World) (base : Nat) (v : Value) (ps : List (List UInt8)) : Prop :=
  (∀ s ∈ ps, s.length = 32) ∧ (ps = [] → v = .slice none 0 0) ∧ w.ownsRow base 25 32 v ps.length (ps.flatten.map ub)

theorem flat_length : ∀ (ps : List (List UInt8)), (∀ s ∈ ps, s.length = 32) → ps.flatten.length = ps.length * 32
  | [], _ => rfl
  | s :: ps, h => by
    rw [List.flatten_cons, List.length_append, flat_length ps (fun x hx => h x (by simp [hx])), h s (by simp), List.length_cons]; omega
theorem flat_at : ∀ (ps : List (List UInt8)), (∀ s ∈ ps, s.length = 32) → ∀ (k : Nat) (s : List UInt8), ps[k]? = some s → ∀ j, j < 32 → ps.flatten[k * 32 + j]? = s[j]?
  | [], _, k, s, hk, _, _ => by simp at hk
  | t :: ps, h, 0, s, hk, j, hj => by
    obtain rfl : t = s := by simpa using hk
    rw [List.flatten_cons, Nat.zero_mul, Nat.zero_add, List.getElem?_append_left (by rw [h t (by simp)]; exact hj)]
  | t :: ps, h, k + 1, s, hk, j, hj => by
    have ht := h t (by simp)
    rw [List.flatten_cons, List.getElem?_append_right (by omega), show (k + 1) * 32 + j - t.length = k * 32 + j by omega]
    exact flat_at ps (fun x hx => h x (by simp [hx])) k s (by simpa using hk) j hj

theorem SumsOwn.is {w : World} {base : Nat} {v : Value} {ps : List (List UInt8)} (h : SumsOwn w base v ps) : SumsIs w v ps := by
  obtain ⟨h32, _, hl, h0 | ⟨g, cap, cur, hv, hb, hh, h1, h2, h3, h4⟩⟩ := h
  · have : ps = [] := List.length_eq_zero_iff.1 h0.2
    subst this
    exact ⟨h32, _, _, h0.1, by simp, fun h => absurd h (by simp)⟩
  · refine ⟨h32, _, _, hv, h1, fun _ => ⟨g, 0, rfl, (Array.getElem?_eq_some_iff.1 hh).1, fun k s hk j u hj => ?_⟩⟩
    have hkl : k < ps.length := (List.getElem?_eq_some_iff.1 hk).1
    have hs : s.length = 32 := h32 s (List.mem_of_getElem? hk)
    have hj32 : j < 32 := by have := (List.getElem?_eq_some_iff.1 hj).1; simpa [hs] using this
    have hin : k * 32 + j < ps.length * 32 := by have : (k + 1) * 32 ≤ ps.length * 32 := Nat.mul_le_mul_right _ hkl; omega
    have e : cur[k * 32 + j]? = (cur.toList.take (ps.length * 32))[k * 32 + j]? := by
      rw [List.getElem?_take, if_pos hin, Array.getElem?_toList]
    rw [Nat.zero_add, cell_of_row w _ _ _ _ _ hh, e, h4, List.getElem?_map, flat_at ps h32 k s hk j hj32, ← List.getElem?_map, hj]

theorem SumsOwn.gr {a b : World} {base : Nat} {v : Value} {ps : List (List UInt8)} (h : SumsOwn a base v ps) (hG : a.grownBy b none) : SumsOwn b base v ps := by
  refine ⟨h.1, h.2.1, h.2.2.kept hG ?_⟩
  cases hv : v.ownBlock
  · exact Or.inl rfl
  · exact Or.inr (by simp)
theorem SumsOwn.lower {w : World} {base base' : Nat} {v : Value} {ps : List (List UInt8)} (h : SumsOwn w base v ps) (hb : base' ≤ base) : SumsOwn w base' v ps := by
  obtain ⟨h32, hn, hl, h0 | ⟨g, cap, cur, hv, hb', rest⟩⟩ := h
  · exact ⟨h32, hn, hl, Or.inl h0⟩
  · exact ⟨h32, hn, hl, Or.inr ⟨g, cap, cur, hv, by omega, rest⟩⟩

/-- What a walk that writes only into rows of its own keeps. -/
theorem gr_own {w0 w w' : World} {base : Nat} {v : Value} {e : TypeId} {n : Nat} {xs : List Value} (h : w.ownsRow base e 32 v n xs) (hG : w.grownBy w' v.ownBlock) (h0 : w0.grownBy w none) (hb : w0.heap.size ≤ base) : w0.grownBy w' none := by
  refine ⟨hG.os.trans h0.os, hG.tape.trans h0.tape, hG.output.trans h0.output, Nat.le_trans h0.size hG.size, fun i hi _ => ?_⟩
  refine (hG.block i (Nat.lt_of_lt_of_le hi h0.size) ?_).trans (h0.block i hi (by simp))
  obtain ⟨_, h1 | ⟨g, cap, cur, hv, hb', _⟩⟩ := h
  · rw [h1.1]; simp [Value.ownBlock]
  · rw [hv]; simp [Value.ownBlock]; omega

theorem wpList_append1 {ops : Array Oper} {rest : List Oper} {o1 o2 : Oper} {a : Act} {w : World} {Q : Exit → Act → World → Prop} (base : Nat) (ps : List (List UInt8)) (s : List UInt8) (v : Value) (hs : s.length = 32) (hown : SumsOwn w base v ps) (hbase : base ≤ w.heap.size) (hlen : ps.length < 1000000000)
    (g1 : o1.guard = none) (g2 : o2.guard = none) (x y : Operand) (d : Tmp) (ho1 : o1.op = .buildSlice 38 1 #[(0, x)]) (hd1 : o1.dst = some d) (ho2 : o2.op = .call { callee := .builtin .append, args := #[y, .tmp d], argTypes := #[38, 38] })
    (hx : a.eval x = .agg (s.map ub).toArray) (hy : (a.put (some d) (.slice (some ⟨w.heap.size, 0, none⟩) 1 1)).eval y = v) (hds : d < a.tmps.size)
    (h : ∀ v' w', SumsOwn w' base v' (ps ++ [s]) → (∀ w0 : World, w0.grownBy w none → w0.heap.size ≤ base → w0.grownBy w' none) → wpList Tryd.prog ops Q rest ((a.put (some d) (.slice (some ⟨w.heap.size, 0, none⟩) 1 1)).put o2.dst v') w') :
    wpList Tryd.prog ops Q (o1 :: o2 :: rest) a w := by
  obtain ⟨i0, z0, hi0, hz0, hz1, hz2, hz3⟩ := info25z
  refine wpList_plain g1 fun K hK => ?_
  refine wp_build1 38 25 x ho1 Tryd.underlying38 _ hx (s.map ub).toArray (built_one s hs) ?_
  rw [hd1]
  refine hK _ _ ?_
  have hG := gr_alloc w (Obj.cells (s.map ub).toArray 25)
  have hrb : (w.alloc (Obj.cells (s.map ub).toArray 25)).heap[w.heap.size]? = some (.cells (s.map ub).toArray 25 (0, 0)) := heap_alloc_new w _
  have hown1 := hown.gr hG
  refine wpList_append_own _ g2 _ _ 38 ho2 base 25 i0 z0 32 32 Tryd.underlying38 hi0 hz0 hz1 hz2 hz3 (by decide) v ps.length (ps.flatten.map ub) hy hown1.2.2 ⟨w.heap.size, 0, none⟩ 1 1 (s.map ub) ?_ (by simp [hs]) ?_ ?_ (by unfold maxLen; omega) (by omega) (by have := hG.size; omega) ?_
  · simp [Act.eval, Act.put, hds]
  · intro j u hj
    have e : (⟨w.heap.size, 0, none⟩ : Addr).add j = ⟨w.heap.size, j, none⟩ := by unfold Addr.add; split <;> simp_all
    rw [e, cell_of_row _ _ _ _ _ _ hrb]; simpa using hj
  · intro u hu; obtain ⟨x, _, rfl⟩ := List.mem_map.1 hu; rfl
  · intro v' w' hown' hG' _
    refine h v' w' ⟨fun x hx => ?_, fun h => absurd h (by simp), ?_⟩ (fun w0 h0 hb => gr_own hown1.2.2 hG' (gr_trans h0 hG) hb)
    · rcases List.mem_append.1 hx with h1 | h1
      · exact hown.1 x h1
      · rw [List.mem_singleton.1 h1]; exact hs
    · rw [List.flatten_append, List.map_append, List.length_append]
      simpa using hown'
end Go.Proofs.YtplhlhjakapaaaaDoor
