import Derived.Test.YtplhlhjakapaaaaDoorNode
import Derived.Test.YtplhlhjakapaaaaDoorTail
import Derived.Deep.RegionHeld3
import Derived.Deep.MidRow
import Derived.Deep.RegionLaw
import Derived.Great.Walk
import Derived.StillTailTactics
namespace Go.Proofs.YtplhlhjakapaaaaDoor
open Go Go.RowKit

/-- The roots of empty parts. -/
def er : Nat → List UInt8
  | 0 => List.replicate 32 0
  | k + 1 => sha (nodeL 3 (er k) (er k))
theorem length_er (k : Nat) : (er k).length = 32 := by cases k <;> rfl
def erL : Nat → List UInt8
  | 0 => []
  | k + 1 => erL k ++ er k
theorem length_erL (k : Nat) : (erL k).length = k * 32 := by
  induction k with
  | zero => rfl
  | succ k ih => rw [erL, List.length_append, ih, length_er]; omega
theorem erL_at (n k j : Nat) (hk : k < n) (hj : j < 32) : (erL n)[k * 32 + j]? = (er k)[j]? := by
  induction n with
  | zero => omega
  | succ n ih =>
    rw [erL]
    rcases Nat.lt_or_ge k n with h | h
    · rw [List.getElem?_append_left (by rw [length_erL]; have : (k + 1) * 32 ≤ n * 32 := Nat.mul_le_mul_right _ h; omega)]
      exact ih h
    · obtain rfl : k = n := by omega
      rw [List.getElem?_append_right (by rw [length_erL]; omega), length_erL, Nat.add_sub_cancel_left]

theorem info25z : ∃ i z, Tryd.prog.info? 25 = some i ∧ i.zero = some z ∧ i.size = 32 ∧ i.bytes = 32 ∧ z.cells.size = 32 := by
  have h : ((Tryd.prog.info? 25).bind fun i => i.zero.map fun z => (z.cells.size, i.size, i.bytes)) = some (32, 32, 32) := by kernel_rfl
  cases hi : Tryd.prog.info? 25 with
  | none => simp [hi] at h
  | some i =>
    cases hz : i.zero with
    | none => simp [hi, hz] at h
    | some z =>
      simp [hi, hz] at h
      exact ⟨i, z, rfl, hz, h.2.1, h.2.2, h.1⟩

theorem range_of_own {w : World} {base n g cap : Nat} {k : Nat} (h : w.ownsRow base 25 32 (.slice (some ⟨g, 0, none⟩) n cap) n ((erL n).map ub)) (hk : k < n) : w.rangeAt g (k * 32) ((er k).map ub) := by
  obtain ⟨hl, h | ⟨g', cap', cur, hv, hb, hh, h1, h2, h3, h4⟩⟩ := h
  · simp at h
  · simp only [Value.slice.injEq, Option.some.injEq, Addr.mk.injEq, true_and, and_true] at hv
    obtain ⟨rfl, rfl⟩ := hv
    intro j v hj
    have hj32 : j < 32 := by have := (List.getElem?_eq_some_iff.1 hj).1; simpa [length_er] using this
    have hlt : k * 32 + j < n * 32 := by have : (k + 1) * 32 ≤ n * 32 := Nat.mul_le_mul_right _ hk; omega
    have e : cur[k * 32 + j]? = (cur.toList.take (n * 32))[k * 32 + j]? := by rw [List.getElem?_take, if_pos hlt]; simp
    rw [cell_of_row w _ _ _ _ _ hh, e, h4, List.getElem?_map, erL_at _ _ _ hk hj32, ← List.getElem?_map, hj]

theorem owned32 {w : World} {base n : Nat} {e : TypeId} {v : Value} {xs : List Value} (h : w.ownsRow base e 32 v n xs) (hn : 0 < n) :
    ∃ g cap, v = .slice (some ⟨g, 0, none⟩) n cap ∧ base ≤ g ∧ g < w.heap.size := by
  obtain ⟨hl, h | ⟨g, cap, cur, hv, hb, hh, h1, h2, h3, h4⟩⟩ := h
  · omega
  · exact ⟨g, cap, hv, hb, (Array.getElem?_eq_some_iff.1 hh).1⟩
theorem TabsAt.gr {a b : World} {T : Nat} (h : TabsAt a T) (hs : T < a.heap.size) (k : a.grownBy b none) : TabsAt b T := by
  obtain ⟨g1, c1, g2, c2, h3, h4, h5, h6, h7⟩ := h
  have := k.size
  exact ⟨g1, c1, g2, c2, (k.block _ hs (by simp)).trans h3, by omega, by omega,
    fun j hj => (gr_cell k (p := ⟨g1, j, none⟩) h4).trans (h6 j hj), fun j hj => (gr_cell k (p := ⟨g2, j, none⟩) h5).trans (h7 j hj)⟩
theorem TabsAt.lt {a : World} {T : Nat} (h : TabsAt a T) : T < a.heap.size := by
  obtain ⟨g1, c1, g2, c2, h3, _⟩ := h
  exact (Array.getElem?_eq_some_iff.1 h3).1
/-- What was there before block B is as it was: also under a store at B. -/
theorem gr_at {a b : World} {B : Nat} (h : a.grownBy b none) (hB : a.heap.size ≤ B) (p : Nat) (v : Value) : a.grownBy (b.setCell ⟨B, p, none⟩ v) none :=
  ⟨h.os, h.tape, h.output, by simpa using h.size, fun i hi _ => (heap_setCell_other _ _ _ _ (by simp; omega)).trans (h.block i hi (by simp))⟩

theorem built_one (S : List UInt8) (h : S.length = 32) : Tryd.prog.builtSlice 25 1 [(0, .agg (S.map ub).toArray)] = some (S.map ub).toArray := by
  match S, h with
  | [a0, a1, a2, a3, a4, a5, a6, a7, a8, a9, a10, a11, a12, a13, a14, a15, a16, a17, a18, a19, a20, a21, a22, a23, a24, a25, a26, a27, a28, a29, a30, a31], _ =>
    show _ = _
    kernel_rfl
theorem wp_buildSliceTo {P : Program} {o : Oper} {a : Act} {w : World} {K : Act → World → Prop} {Q : Exit → Act → World → Prop} (t e : TypeId) (len : Nat) (parts : Array (Nat × Operand)) (ho : o.op = .buildSlice t len parts)
    (hu : P.underlying t = some (.slice e)) (cells : Array Value)
    (hf : P.builtSlice e len (parts.map fun (i, x) => (i, a.eval x)).toList = some cells)
    (h : K (a.put o.dst (.slice (some ⟨w.heap.size, 0, none⟩) len len)) (w.alloc (.cells cells e))) : o.wp P a w K Q := by
  unfold Program.builtSlice at hf
  cases hie : P.info? e with
  | none => simp [hie] at hf
  | some ie =>
    simp only [hie] at hf
    cases hz : ie.zero with
    | none => simp [hz] at hf
    | some z =>
      simp only [hz] at hf
      by_cases hc : len * ie.size > 2 ^ 24 ∨ len * ie.size = 0
      · simp [hc] at hf
      · rw [if_neg hc] at hf
        exact wp_buildSlice t e len parts ho cells ie z hu hie hz (fun h' => hc (Or.inl h')) (fun h' => hc (Or.inr h')) hf h
theorem wp_build1 {P : Program} {o : Oper} {a : Act} {w : World} {K : Act → World → Prop} {Q : Exit → Act → World → Prop} (t e : TypeId) (x : Operand) (ho : o.op = .buildSlice t 1 #[(0, x)])
    (hu : P.underlying t = some (.slice e)) (v : Value) (hv : a.eval x = v) (cells : Array Value) (hf : P.builtSlice e 1 [(0, v)] = some cells)
    (h : K (a.put o.dst (.slice (some ⟨w.heap.size, 0, none⟩) 1 1)) (w.alloc (.cells cells e))) : o.wp P a w K Q :=
  wp_buildSliceTo t e 1 _ ho hu cells (by simpa [hv] using hf) h

/-- The roots of empty parts that a hasher of the reference holds. -/
def EmptyAt (w : World) (H : Nat) : Prop := ∃ T ge cap, w.heap[H]? = some (.cells #[.pointer (some ⟨T, 0, none⟩), .slice (some ⟨ge, 0, none⟩) 65 cap] 90 (0, 0)) ∧ ge < w.heap.size ∧ 65 ≤ cap ∧ ∀ k, k < 65 → w.rangeAt ge (k * 32) ((er k).map ub)
theorem EmptyAt.gr {a b : World} {H : Nat} (h : EmptyAt a H) (hG : a.grownBy b none) : EmptyAt b H := by
  obtain ⟨T, ge, cap, h1, h2, h3, h4⟩ := h
  exact ⟨T, ge, cap, (hG.block _ (Array.getElem?_eq_some_iff.1 h1).1 (by simp)).trans h1, Nat.lt_of_lt_of_le h2 hG.size, h3, fun k hk j u hj => (gr_cell hG (p := ⟨ge, k * 32 + j, none⟩) h2).trans (h4 k hk j u hj)⟩

set_option maxHeartbeats 2000000 in
set_option maxRecDepth 100000 in
theorem new_full (w : World) :
    Calls Tryd.prog 14 #[] w fun e w' => ∃ H, e = .returned (.pointer (some ⟨H, 0, none⟩)) ∧ RefAt w' H ∧ H < w'.heap.size ∧ w.grownBy w' none ∧ EmptyAt w' H := by
  obtain ⟨i0, z0, hi0, hz0, hz1, hz2, hz3⟩ := info25z
  go_enter Tryd.func14, Tryd.ntmps14
  go_wp2_with fail
  refine (made_any _).mono ?_
  rintro e w1 ⟨T, rfl, hT, hTs, hG1⟩
  have hN : Hid (∀ j u, ((er 0).map ub)[j]? = some u → ((w1.alloc (Obj.cells #[Value.pointer (some ⟨T, 0, none⟩), Value.slice none 0 0] 90)).alloc (Obj.cells ((er 0).map ub).toArray 25)).cell? ((⟨w1.heap.size + 1, 0, none⟩ : Addr).add j) = some u) := fun j u hj => by
    have e : (⟨w1.heap.size + 1, 0, none⟩ : Addr).add j = ⟨w1.heap.size + 1, j, none⟩ := by unfold Addr.add; split <;> simp_all
    rw [e, cell_of_row _ _ _ _ _ _ (heap_alloc2_new _ _ _)]; simpa using hj
  go_wp2_with (at_builtin; refine wpList_append_own _ rfl _ _ 38 rfl (w1.heap.size + 1) 25 i0 z0 32 32 Tryd.underlying38 hi0 hz0 hz1 hz2 hz3 (by decide) _ _ _ rfl (World.ownsRow_nil _ _ _ _) ⟨w1.heap.size + 1, 0, none⟩ 1 1 ((er 0).map ub) rfl rfl hN.out ?c2 ?c3 ?c4 ?c5 ?_)
  case c2 => intro u hu; obtain ⟨x, _, rfl⟩ := List.mem_map.1 hu; rfl
  case c3 => unfold maxLen; omega
  case c4 => omega
  case c5 => simp
  intro v2 w2 hown2 hG2 _
  have hA2 : w1.grownBy ((w1.alloc (Obj.cells #[Value.pointer (some ⟨T, 0, none⟩), Value.slice none 0 0] 90)).alloc (Obj.cells ((er 0).map ub).toArray 25)) none := gr_trans (gr_alloc _ _) (gr_alloc _ _)
  have hG12 : w1.grownBy w2 none := gr_trans hA2 hG2
  have hH2 : w2.heap[w1.heap.size]? = some (.cells #[.pointer (some ⟨T, 0, none⟩), .slice none 0 0] 90 (0, 0)) := (hG2.block _ (by simp; omega) (by simp [Value.ownBlock])).trans (heap_alloc2_old _ _ _)
  have hs2 : w1.heap.size + 2 ≤ w2.heap.size := by have := hG2.size; simpa using this
  obtain ⟨g2, cap2, rfl, hg2, hg2s⟩ := owned32 hown2 (by omega)
  have cH2 : w2.cell? ⟨w1.heap.size, 1, none⟩ = some (.slice none 0 0) := by rw [cell_of_row w2 _ _ _ _ _ hH2]; rfl
  have fH2 : w2.frozen? ⟨w1.heap.size, 1, none⟩ = false := frozen_of_row w2 _ _ _ _ hH2
  have hH3 := heap_setCell_same w2 w1.heap.size 1 _ 90 (Value.slice (some ⟨g2, 0, none⟩) 1 cap2) hH2
  have hG13 := gr_at hG12 (Nat.le_refl _) 1 (Value.slice (some ⟨g2, 0, none⟩) 1 cap2)
  have hown3 := ownsRow_setCell_below hown2 (a := ⟨w1.heap.size, 1, none⟩) (by simp) (Value.slice (some ⟨g2, 0, none⟩) 1 cap2)
  have hs3 : g2 < (w2.setCell ⟨w1.heap.size, 1, none⟩ (Value.slice (some ⟨g2, 0, none⟩) 1 cap2)).heap.size := by simpa using hg2s
  clear hA2 hG2 hG12 hH2 hown2 hN hs2
  go_wp2
  generalize w2.setCell ⟨w1.heap.size, 1, none⟩ (Value.slice (some ⟨g2, 0, none⟩) 1 cap2) = w3 at hH3 hG13 hown3 hs3 ⊢
  clear cH2 fH2 hg2s
  go_loopw [3] (fun i wr => ∃ (k ge cap : Nat), k ≤ 64 ∧ i = .int .i64 (k : Int) ∧ wr.heap[w1.heap.size]? = some (.cells #[.pointer (some ⟨T, 0, none⟩), .slice (some ⟨ge, 0, none⟩) (k + 1) cap] 90 (0, 0)) ∧
      wr.ownsRow (w1.heap.size + 1) 25 32 (.slice (some ⟨ge, 0, none⟩) (k + 1) cap) (k + 1) ((erL (k + 1)).map ub) ∧ w1.grownBy wr none)
    (fun i _ => 64 - (intOf i).toNat)
  case atStart => exact ⟨0, g2, cap2, by omega, rfl, hH3, hown3, hG13⟩
  case round =>
    clear hH3 hG13 hown3 hs3
    obtain ⟨k, ge, cap, hk, rfl, hH, hown, hG⟩ := hrel
    by_cases hlt : k < 64
    · have hrg := range_of_own hown (Nat.lt_succ_self k)
      have hHs : w1.heap.size < wr.heap.size := (Array.getElem?_eq_some_iff.1 hH).1
      have hRef : RefAt wr w1.heap.size := ⟨T, _, _, _, hH, by have := hT.lt; omega, hT.gr hT.lt hG⟩
      have cH : wr.cell? ⟨w1.heap.size, 1, none⟩ = some (.slice (some ⟨ge, 0, none⟩) (k + 1) cap) := by rw [cell_of_row wr _ _ _ _ _ hH]; rfl
      have hu := Tryd.underlying25
      have hle : ((er k).map ub).length = 32 := by simp [length_er]
      have hi : (Tryd.prog.info? 25).map (·.size) = some ((er k).map ub).length := by rw [hle]; kernel_rfl
      have hone : ∀ v ∈ (er k).map ub, v.oneCell' = true := fun v hv => by obtain ⟨x, _, rfl⟩ := List.mem_map.1 hv; rfl
      have b0 : (0 : Int) ≤ (k : Int) := by omega
      have b1 : (k : Int) < (k : Int) + 1 := by omega
      have HR : Hid (RefAt wr w1.heap.size) := hRef
      have HHs : Hid (w1.heap.size < wr.heap.size) := hHs
      clear hRef hle
      have HINF : Hid (Tryd.prog.info? 25 = some i0 ∧ i0.zero = some z0 ∧ i0.size = 32 ∧ i0.bytes = 32 ∧ z0.cells.size = 32) := ⟨hi0, hz0, hz1, hz2, hz3⟩
      clear hi0 hz0 hz1 hz2 hz3
      go_wp2
      refine wp_region_noPanic ?_
      refine wp_region_held_drew (S := fun w' => w'.cell? ⟨w1.heap.size, 1, none⟩ = some (.slice (some ⟨ge, 0, none⟩) (k + 1) cap) ∧ w'.rangeAt ge (k * 32) ((er k).map ub)) (by kernel_rfl) ⟨cH, hrg⟩ (fun hHeld => ?_)
      refine wpAnyH_take (i := 0) (oi := { dst := some 23, op := Op.move (Operand.tmp 2), type := 22, pos := "hash.go:119", after := #[], guard := none }) (v := ?_) rfl (by kernel_rfl) (by kernel_rfl) (by kernel_rfl) (fun _ _ _ h => h) (Or.inl ⟨by rfl, ?_⟩) (by assumption) ?_
      rotate_left
      · intro w' hSw
        try dsimp only at hSw
        go_simp
        try with_reducible rfl
      simp only [Act.put, List.setIfInBounds_toArray, List.set_cons_zero, List.set_cons_succ]
      refine wpAnyH_take (i := 1) (oi := { dst := some 24, op := Op.move (Operand.tmp 2), type := 22, pos := "hash.go:119", after := #[], guard := none }) (v := ?_) rfl (by kernel_rfl) (by kernel_rfl) (by kernel_rfl) (fun _ _ _ h => h) (Or.inl ⟨by rfl, ?_⟩) (by assumption) ?_
      rotate_left
      · intro w' hSw
        try dsimp only at hSw
        go_simp
        try with_reducible rfl
      simp only [Act.put, List.setIfInBounds_toArray, List.set_cons_zero, List.set_cons_succ]
      refine wpAnyH_take (i := 2) (oi := { dst := some 25, op := Op.nilCheck (Operand.tmp 24), type := 0, pos := "hash.go:119", after := #[{ on := 1, ground := Ground.data }], guard := none }) (v := ?_) rfl (by kernel_rfl) (by kernel_rfl) (by kernel_rfl) (fun _ _ _ h => h) (Or.inl ⟨by rfl, ?_⟩) (by assumption) ?_
      rotate_left
      · intro w' hSw
        try dsimp only at hSw
        go_simp
        try with_reducible rfl
      simp only [Act.put, List.setIfInBounds_toArray, List.set_cons_zero, List.set_cons_succ]
      refine wpAnyH_take (i := 3) (oi := { dst := some 26, op := Op.fieldAddr 90 (Operand.tmp 25) 1, type := 0, pos := "hash.go:119", after := #[{ on := 2, ground := Ground.data }], guard := none }) (v := ?_) rfl (by kernel_rfl) (by kernel_rfl) (by kernel_rfl) (fun _ _ _ h => h) (Or.inl ⟨by rfl, ?_⟩) (by assumption) ?_
      rotate_left
      · intro w' hSw
        try dsimp only at hSw
        go_simp
        try with_reducible rfl
      simp only [Act.put, List.setIfInBounds_toArray, List.set_cons_zero, List.set_cons_succ]
      refine wpAnyH_take (i := 4) (oi := { dst := some 27, op := Op.load 38 (Operand.tmp 26), type := 38, pos := "hash.go:119", after := #[{ on := 3, ground := Ground.data }], guard := none }) (v := ?_) rfl (by kernel_rfl) (by kernel_rfl) (by kernel_rfl) (fun _ _ _ h => h) (Or.inl ⟨by rfl, ?_⟩) (by assumption) ?_
      rotate_left
      · intro w' hSw
        try dsimp only at hSw
        go_simp
        try with_reducible rfl
      simp only [Act.put, List.setIfInBounds_toArray, List.set_cons_zero, List.set_cons_succ]
      refine wpAnyH_take (i := 5) (oi := { dst := some 28, op := Op.move (Operand.tmp 3), type := 3, pos := "hash.go:119", after := #[], guard := none }) (v := ?_) rfl (by kernel_rfl) (by kernel_rfl) (by kernel_rfl) (fun _ _ _ h => h) (Or.inl ⟨by rfl, ?_⟩) (by assumption) ?_
      rotate_left
      · intro w' hSw
        try dsimp only at hSw
        go_simp
        try with_reducible rfl
      simp only [Act.put, List.setIfInBounds_toArray, List.set_cons_zero, List.set_cons_succ]
      refine wpAnyH_take (i := 6) (oi := { dst := some 29, op := Op.indexAddr 38 (Operand.tmp 27) (Operand.tmp 28), type := 0, pos := "hash.go:119", after := #[{ on := 4, ground := Ground.data }, { on := 5, ground := Ground.data }], guard := none }) (v := ?_) rfl (by kernel_rfl) (by kernel_rfl) (by kernel_rfl) (fun _ _ _ h => h) (Or.inl ⟨by rfl, ?_⟩) (by assumption) ?_
      rotate_left
      · intro w' hSw
        try dsimp only at hSw
        go_simp
        try with_reducible rfl
      simp only [Act.put, List.setIfInBounds_toArray, List.set_cons_zero, List.set_cons_succ]
      refine wpAnyH_take (i := 7) (oi := { dst := some 30, op := Op.load 25 (Operand.tmp 29), type := 25, pos := "hash.go:119", after := #[{ on := 6, ground := Ground.data }], guard := none }) (v := .agg ((er k).map ub).toArray) rfl (by kernel_rfl) (by kernel_rfl) (by kernel_rfl) (fun _ _ _ h => h) (yieldsIf_load_mid (by rfl) _ _ rfl ge (k * 32) rfl ((er k).map ub) _ (fun w' hSw => hSw.2) hu rfl hi) (by assumption) ?_
      simp only [Act.put, List.setIfInBounds_toArray, List.set_cons_zero, List.set_cons_succ]
      refine wpAnyH_take (i := 8) (oi := { dst := some 31, op := Op.move (Operand.tmp 2), type := 22, pos := "hash.go:119", after := #[], guard := none }) (v := ?_) rfl (by kernel_rfl) (by kernel_rfl) (by kernel_rfl) (fun _ _ _ h => h) (Or.inl ⟨by rfl, ?_⟩) (by assumption) ?_
      rotate_left
      · intro w' hSw
        try dsimp only at hSw
        go_simp
        try with_reducible rfl
      simp only [Act.put, List.setIfInBounds_toArray, List.set_cons_zero, List.set_cons_succ]
      refine wpAnyH_take (i := 9) (oi := { dst := some 32, op := Op.nilCheck (Operand.tmp 31), type := 0, pos := "hash.go:119", after := #[{ on := 8, ground := Ground.data }], guard := none }) (v := ?_) rfl (by kernel_rfl) (by kernel_rfl) (by kernel_rfl) (fun _ _ _ h => h) (Or.inl ⟨by rfl, ?_⟩) (by assumption) ?_
      rotate_left
      · intro w' hSw
        try dsimp only at hSw
        go_simp
        try with_reducible rfl
      simp only [Act.put, List.setIfInBounds_toArray, List.set_cons_zero, List.set_cons_succ]
      refine wpAnyH_take (i := 10) (oi := { dst := some 33, op := Op.fieldAddr 90 (Operand.tmp 32) 1, type := 0, pos := "hash.go:119", after := #[{ on := 9, ground := Ground.data }], guard := none }) (v := ?_) rfl (by kernel_rfl) (by kernel_rfl) (by kernel_rfl) (fun _ _ _ h => h) (Or.inl ⟨by rfl, ?_⟩) (by assumption) ?_
      rotate_left
      · intro w' hSw
        try dsimp only at hSw
        go_simp
        try with_reducible rfl
      simp only [Act.put, List.setIfInBounds_toArray, List.set_cons_zero, List.set_cons_succ]
      refine wpAnyH_take (i := 11) (oi := { dst := some 34, op := Op.load 38 (Operand.tmp 33), type := 38, pos := "hash.go:119", after := #[{ on := 10, ground := Ground.data }], guard := none }) (v := ?_) rfl (by kernel_rfl) (by kernel_rfl) (by kernel_rfl) (fun _ _ _ h => h) (Or.inl ⟨by rfl, ?_⟩) (by assumption) ?_
      rotate_left
      · intro w' hSw
        try dsimp only at hSw
        go_simp
        try with_reducible rfl
      simp only [Act.put, List.setIfInBounds_toArray, List.set_cons_zero, List.set_cons_succ]
      refine wpAnyH_take (i := 12) (oi := { dst := some 35, op := Op.move (Operand.tmp 3), type := 3, pos := "hash.go:119", after := #[], guard := none }) (v := ?_) rfl (by kernel_rfl) (by kernel_rfl) (by kernel_rfl) (fun _ _ _ h => h) (Or.inl ⟨by rfl, ?_⟩) (by assumption) ?_
      rotate_left
      · intro w' hSw
        try dsimp only at hSw
        go_simp
        try with_reducible rfl
      simp only [Act.put, List.setIfInBounds_toArray, List.set_cons_zero, List.set_cons_succ]
      refine wpAnyH_take (i := 13) (oi := { dst := some 36, op := Op.indexAddr 38 (Operand.tmp 34) (Operand.tmp 35), type := 0, pos := "hash.go:119", after := #[{ on := 11, ground := Ground.data }, { on := 12, ground := Ground.data }], guard := none }) (v := ?_) rfl (by kernel_rfl) (by kernel_rfl) (by kernel_rfl) (fun _ _ _ h => h) (Or.inl ⟨by rfl, ?_⟩) (by assumption) ?_
      rotate_left
      · intro w' hSw
        try dsimp only at hSw
        go_simp
        try with_reducible rfl
      simp only [Act.put, List.setIfInBounds_toArray, List.set_cons_zero, List.set_cons_succ]
      refine wpAnyH_take (i := 14) (oi := { dst := some 37, op := Op.load 25 (Operand.tmp 36), type := 25, pos := "hash.go:119", after := #[{ on := 13, ground := Ground.data }], guard := none }) (v := .agg ((er k).map ub).toArray) rfl (by kernel_rfl) (by kernel_rfl) (by kernel_rfl) (fun _ _ _ h => h) (yieldsIf_load_mid (by rfl) _ _ rfl ge (k * 32) rfl ((er k).map ub) _ (fun w' hSw => hSw.2) hu rfl hi) (by assumption) ?_
      simp only [Act.put, List.setIfInBounds_toArray, List.set_cons_zero, List.set_cons_succ]
      have hges : ge < wr.heap.size := by
        obtain ⟨g', cap', e1, _, h2⟩ := owned32 hown (by omega)
        obtain ⟨rfl, rfl⟩ : ge = g' ∧ cap = cap' := by simpa using e1
        exact h2
      have hgeT : w1.heap.size < ge := by
        obtain ⟨g', cap', e1, h2, _⟩ := owned32 hown (by omega)
        obtain ⟨rfl, rfl⟩ : ge = g' ∧ cap = cap' := by simpa using e1
        exact h2
      have keepS := fun W (hG : wr.grownBy W none) => (⟨(gr_cell hG (p := ⟨w1.heap.size, 1, none⟩) HHs.out).trans cH, fun j v hj => (gr_cell hG (p := ⟨ge, k * 32 + j, none⟩) hges).trans (hrg j v hj)⟩ : W.cell? ⟨w1.heap.size, 1, none⟩ = some (.slice (some ⟨ge, 0, none⟩) (k + 1) cap) ∧ W.rangeAt ge (k * 32) ((er k).map ub))
      have hA : wr.grownBy (wr.drew.alloc (Obj.cells (brow 32 []).toArray 25)) none := gr_trans (gr_drew (gr_refl wr)) (gr_alloc _ _)
      have hl1 : (er (k + 1)).length = 32 := length_er _
      have HI1 : Hid _ := info25b _ hl1
      have HO1 : Hid ((brow 32 []).toArray.size = ((er (k + 1)).map ub).toArray.size) := by
        show _ = _
        rw [List.size_toArray, List.size_toArray, length_brow _ _ (by simp)]; simp [hl1]
      have HN1 : Hid _ := one25 _ hl1
      have hnode : ∀ W : World, RefAt W w1.heap.size → w1.heap.size < W.heap.size → Calls Tryd.prog 56 #[.pointer (some ⟨w1.heap.size, 0, none⟩), .int .u8 3, .agg ((er k).map ub).toArray, .agg ((er k).map ub).toArray] W fun e w' => e = .returned (.agg ((er (k + 1)).map ub).toArray) ∧ W.grownBy w' none :=
        fun W h1 h2 => node_any w1.heap.size 3 (er k) (er k) (length_er k) (length_er k) W h1 h2
      have HND : Hid _ := hnode
      clear hnode hone hl1
      refine wpAnyH_ready (rs := [15, 16]) (by kernel_rfl) (by simp) (AllReadyH.cons (o := { dst := some 38, op := Op.call { callee := Callee.value (Operand.func 56), args := #[Operand.tmp 23, Operand.const (Value.int IntKind.u8 3), Operand.tmp 30, Operand.tmp 37], argTypes := #[22, 5, 25, 25] }, type := 25, pos := "hash.go:119", after := #[{ on := 0, ground := Ground.data }, { on := 7, ground := Ground.data }, { on := 14, ground := Ground.data }], guard := none }) rfl (fun K hK => ?_) (AllReadyH.cons (o := { dst := some 4, op := Op.alloc 25, type := 0, pos := "hash.go:119", after := #[], guard := none }) rfl (fun K hK => ?_) AllReadyH.nil))
      go_simp
      refine (HND.out wr.drew (RefAt.gr HR.out HHs.out (gr_drew (gr_refl _))) HHs.out).mono ?_
      rintro e w5 ⟨rfl, hG5⟩
      have hG5' : wr.grownBy w5 none := ⟨hG5.os, hG5.tape, hG5.output, hG5.size, hG5.block⟩
      refine hK.out _ _ (keepS w5 hG5') (fun hHeld2 => ?_)
      clear hK K hHeld hHeld2
      try simp only [Act.put, List.setIfInBounds_toArray, List.set_cons_zero, List.set_cons_succ]
      refine wpAnyH_ready (rs := [16]) (by kernel_rfl) (by simp) (AllReadyH.cons (o := { dst := some 4, op := Op.alloc 25, type := 0, pos := "hash.go:119", after := #[], guard := none }) rfl (fun K hK => ?_) AllReadyH.nil)
      go_simp
      have hG6 : wr.grownBy (w5.alloc (Obj.cells (brow 32 []).toArray 25)) none := gr_trans hG5' (gr_alloc _ _)
      have h6 : (w5.alloc (Obj.cells (brow 32 []).toArray 25)).heap[w5.heap.size]? = some (.cells (brow 32 []).toArray 25 (0, 0)) := heap_alloc_new _ _
      refine hK.out _ _ (keepS _ hG6) (fun hHeld2 => ?_)
      clear hK K hHeld2
      try simp only [Act.put, List.setIfInBounds_toArray, List.set_cons_zero, List.set_cons_succ]
      refine wpAnyH_ready (rs := [17]) (by kernel_rfl) (by simp) (AllReadyH.cons (o := { dst := none, op := Op.store 25 (Operand.tmp 4) (Operand.tmp 38), type := 0, pos := "hash.go:119", after := #[{ on := 16, ground := Ground.data }, { on := 15, ground := Ground.data }, { on := 15, ground := Ground.chain }, { on := 0, ground := Ground.phase }, { on := 1, ground := Ground.phase }, { on := 2, ground := Ground.phase }, { on := 3, ground := Ground.phase }, { on := 4, ground := Ground.phase }, { on := 5, ground := Ground.phase }, { on := 6, ground := Ground.phase }, { on := 7, ground := Ground.phase }, { on := 8, ground := Ground.phase }, { on := 9, ground := Ground.phase }, { on := 10, ground := Ground.phase }, { on := 11, ground := Ground.phase }, { on := 12, ground := Ground.phase }, { on := 13, ground := Ground.phase }, { on := 14, ground := Ground.phase }, { on := 15, ground := Ground.phase }, { on := 16, ground := Ground.phase }], guard := none }) rfl (fun K hK => ?_) AllReadyH.nil)
      rw [if_pos (by rfl)]
      refine wp_store_row 25 _ _ rfl w5.heap.size _ rfl rfl 25 _ h6 HI1.out HO1.out HN1.out ?_
      have hG7 : wr.grownBy ((w5.alloc (Obj.cells (brow 32 []).toArray 25)).setRow w5.heap.size ((er (k + 1)).map ub).toArray) none := gr_row hG6 _ _ hG5'.size
      refine hK.out _ _ (keepS _ hG7) (fun hHeld2 => ?_)
      clear hK K hHeld2
      refine wpAnyH_done (by kernel_rfl) ?_ _
      refine NoPanic.normal ?_
      have h9 := setRow_heap _ _ _ ((er (k + 1)).map ub).toArray 25 _ h6
      have hB9 : wr.heap.size ≤ w5.heap.size := hG5'.size
      change Exit.then _ _ _ _ ((w5.alloc (Obj.cells (brow 32 []).toArray 25)).setRow w5.heap.size ((er (k + 1)).map ub).toArray)
      generalize (w5.alloc (Obj.cells (brow 32 []).toArray 25)).setRow w5.heap.size ((er (k + 1)).map ub).toArray = w9 at hG7 h9 ⊢
      clear hG5 hG5' hG6 h6
      generalize w5.heap.size = B9 at h9 hB9 ⊢
      clear w5
      rotate_left
      go_simp
      refine hK.out _ _ (keepS _ (gr_drew (gr_alloc wr _))) (fun hHeld2 => ?_)
      clear hK K hHeld hHeld2
      try simp only [Act.put, List.setIfInBounds_toArray, List.set_cons_zero, List.set_cons_succ]
      refine wpAnyH_ready (rs := [15]) (by kernel_rfl) (by simp) (AllReadyH.cons (o := { dst := some 38, op := Op.call { callee := Callee.value (Operand.func 56), args := #[Operand.tmp 23, Operand.const (Value.int IntKind.u8 3), Operand.tmp 30, Operand.tmp 37], argTypes := #[22, 5, 25, 25] }, type := 25, pos := "hash.go:119", after := #[{ on := 0, ground := Ground.data }, { on := 7, ground := Ground.data }, { on := 14, ground := Ground.data }], guard := none }) rfl (fun K hK => ?_) AllReadyH.nil)
      go_simp
      have hZ : wr.grownBy (wr.alloc (Obj.cells (brow 32 []).toArray 25)).drew none := gr_drew (gr_alloc wr _)
      refine (HND.out (wr.alloc (Obj.cells (brow 32 []).toArray 25)).drew (RefAt.gr HR.out HHs.out hZ) (by have := HHs.out; show _ < (wr.alloc _).heap.size; simp; omega)).mono ?_
      rintro e w5 ⟨rfl, hG5⟩
      have hG5' : wr.grownBy w5 none := gr_trans hZ hG5
      have h6 : w5.heap[wr.heap.size]? = some (.cells (brow 32 []).toArray 25 (0, 0)) := (hG5.block _ (by show _ < (wr.alloc _).heap.size; simp) (by simp)).trans (heap_alloc_new _ _)
      refine hK.out _ _ (keepS w5 hG5') (fun hHeld2 => ?_)
      clear hK K hHeld2
      try simp only [Act.put, List.setIfInBounds_toArray, List.set_cons_zero, List.set_cons_succ]
      refine wpAnyH_ready (rs := [17]) (by kernel_rfl) (by simp) (AllReadyH.cons (o := { dst := none, op := Op.store 25 (Operand.tmp 4) (Operand.tmp 38), type := 0, pos := "hash.go:119", after := #[{ on := 16, ground := Ground.data }, { on := 15, ground := Ground.data }, { on := 15, ground := Ground.chain }, { on := 0, ground := Ground.phase }, { on := 1, ground := Ground.phase }, { on := 2, ground := Ground.phase }, { on := 3, ground := Ground.phase }, { on := 4, ground := Ground.phase }, { on := 5, ground := Ground.phase }, { on := 6, ground := Ground.phase }, { on := 7, ground := Ground.phase }, { on := 8, ground := Ground.phase }, { on := 9, ground := Ground.phase }, { on := 10, ground := Ground.phase }, { on := 11, ground := Ground.phase }, { on := 12, ground := Ground.phase }, { on := 13, ground := Ground.phase }, { on := 14, ground := Ground.phase }, { on := 15, ground := Ground.phase }, { on := 16, ground := Ground.phase }], guard := none }) rfl (fun K hK => ?_) AllReadyH.nil)
      rw [if_pos (by rfl)]
      refine wp_store_row 25 _ _ rfl wr.heap.size _ rfl rfl 25 _ h6 HI1.out HO1.out HN1.out ?_
      have hG7 : wr.grownBy (w5.setRow wr.heap.size ((er (k + 1)).map ub).toArray) none := gr_row hG5' _ _ (Nat.le_refl _)
      refine hK.out _ _ (keepS _ hG7) (fun hHeld2 => ?_)
      clear hK K hHeld2
      refine wpAnyH_done (by kernel_rfl) ?_ _
      refine NoPanic.normal ?_
      have h9 := setRow_heap _ _ _ ((er (k + 1)).map ub).toArray 25 _ h6
      have hB9 : wr.heap.size ≤ wr.heap.size := Nat.le_refl _
      generalize w5.setRow wr.heap.size ((er (k + 1)).map ub).toArray = w9 at hG7 h9 ⊢
      clear hG5 hG5' h6 hZ w5
      generalize eB : wr.heap.size = B9 at h9 ⊢
      have hB9 : wr.heap.size ≤ B9 := Nat.le_of_eq eB
      clear eB
      all_goals
        have hs9 := hG7.size
        have hH9 : w9.heap[w1.heap.size]? = some (.cells #[.pointer (some ⟨T, 0, none⟩), .slice (some ⟨ge, 0, none⟩) (k + 1) cap] 90 (0, 0)) := (hG7.block _ HHs.out (by simp)).trans hH
        have hown9 : w9.ownsRow (w1.heap.size + 1) 25 32 (.slice (some ⟨ge, 0, none⟩) (k + 1) cap) (k + 1) ((erL (k + 1)).map ub) := hown.kept hG7 (Or.inr (by simp [Value.ownBlock]))
        have hG19 : w1.grownBy w9 none := gr_trans hG hG7
        have cH9 : w9.cell? ⟨w1.heap.size, 1, none⟩ = some (.slice (some ⟨ge, 0, none⟩) (k + 1) cap) := by rw [cell_of_row w9 _ _ _ _ _ hH9]; rfl
        clear hH hown hG cH hrg keepS hA HR hG7 hu hi HND HO1 hHs
        go_wp2
        have hl1 : ((er (k + 1)).map ub).length = 32 := by simp [length_er]
        have hr9 : w9.rangeAt B9 0 ((er (k + 1)).map ub) := fun j v hj => by
          rw [Nat.zero_add, cell_of_row w9 _ _ _ _ _ h9]; simpa using hj
        have hu := Tryd.underlying25
        have hi : (Tryd.prog.info? 25).map (·.size) = some ((er (k + 1)).map ub).length := by rw [hl1]; kernel_rfl
        have hbt := built_one (er (k + 1)) (length_er _)
        have HBT : Hid _ := hbt
        have hB9s : B9 < w9.heap.size := (Array.getElem?_eq_some_iff.1 h9).1
        clear hl1 hbt
        refine wp_region_noPanic ?_
        refine wp_region_T (last := 10) (S := fun w' => w'.cell? ⟨w1.heap.size, 1, none⟩ = some (.slice (some ⟨ge, 0, none⟩) (k + 1) cap) ∧ w'.rangeAt B9 0 ((er (k + 1)).map ub)) (by kernel_rfl) ⟨cH9, hr9⟩ (fun hHeld => ?_)
        refine wpAnyT_take (i := 0) (oi := { dst := some 39, op := Op.move (Operand.tmp 2), type := 22, pos := "hash.go:120", after := #[], guard := none }) (v := ?_) rfl (by kernel_rfl) (by kernel_rfl) (by kernel_rfl) (fun _ _ _ h => h) (by kernel_rfl) (Or.inl ⟨by rfl, ?_⟩) (by assumption) ?_
        rotate_left
        · intro w' hSw
          try dsimp only at hSw
          go_simp
          try with_reducible rfl
        simp only [Act.put, List.setIfInBounds_toArray, List.set_cons_zero, List.set_cons_succ]
        refine wpAnyT_take (i := 1) (oi := { dst := some 40, op := Op.move (Operand.tmp 2), type := 22, pos := "hash.go:120", after := #[], guard := none }) (v := ?_) rfl (by kernel_rfl) (by kernel_rfl) (by kernel_rfl) (fun _ _ _ h => h) (by kernel_rfl) (Or.inl ⟨by rfl, ?_⟩) (by assumption) ?_
        rotate_left
        · intro w' hSw
          try dsimp only at hSw
          go_simp
          try with_reducible rfl
        simp only [Act.put, List.setIfInBounds_toArray, List.set_cons_zero, List.set_cons_succ]
        refine wpAnyT_take (i := 2) (oi := { dst := some 41, op := Op.nilCheck (Operand.tmp 40), type := 0, pos := "hash.go:120", after := #[{ on := 1, ground := Ground.data }], guard := none }) (v := ?_) rfl (by kernel_rfl) (by kernel_rfl) (by kernel_rfl) (fun _ _ _ h => h) (by kernel_rfl) (Or.inl ⟨by rfl, ?_⟩) (by assumption) ?_
        rotate_left
        · intro w' hSw
          try dsimp only at hSw
          go_simp
          try with_reducible rfl
        simp only [Act.put, List.setIfInBounds_toArray, List.set_cons_zero, List.set_cons_succ]
        refine wpAnyT_take (i := 3) (oi := { dst := some 42, op := Op.fieldAddr 90 (Operand.tmp 41) 1, type := 0, pos := "hash.go:120", after := #[{ on := 2, ground := Ground.data }], guard := none }) (v := ?_) rfl (by kernel_rfl) (by kernel_rfl) (by kernel_rfl) (fun _ _ _ h => h) (by kernel_rfl) (Or.inl ⟨by rfl, ?_⟩) (by assumption) ?_
        rotate_left
        · intro w' hSw
          try dsimp only at hSw
          go_simp
          try with_reducible rfl
        simp only [Act.put, List.setIfInBounds_toArray, List.set_cons_zero, List.set_cons_succ]
        refine wpAnyT_take (i := 4) (oi := { dst := some 43, op := Op.load 38 (Operand.tmp 42), type := 38, pos := "hash.go:120", after := #[{ on := 3, ground := Ground.data }], guard := none }) (v := ?_) rfl (by kernel_rfl) (by kernel_rfl) (by kernel_rfl) (fun _ _ _ h => h) (by kernel_rfl) (Or.inl ⟨by rfl, ?_⟩) (by assumption) ?_
        rotate_left
        · intro w' hSw
          try dsimp only at hSw
          go_simp
          try with_reducible rfl
        simp only [Act.put, List.setIfInBounds_toArray, List.set_cons_zero, List.set_cons_succ]
        refine wpAnyT_take (i := 5) (oi := { dst := some 44, op := Op.load 25 (Operand.tmp 4), type := 25, pos := "hash.go:120", after := #[], guard := none }) (v := .agg ((er (k + 1)).map ub).toArray) rfl (by kernel_rfl) (by kernel_rfl) (by kernel_rfl) (fun _ _ _ h => h) (by kernel_rfl) (yieldsIf_load_mid (by rfl) _ _ rfl B9 0 rfl ((er (k + 1)).map ub) _ (fun w' hSw => hSw.2) hu rfl hi) (by assumption) ?_
        simp only [Act.put, List.setIfInBounds_toArray, List.set_cons_zero, List.set_cons_succ]
        refine wpAnyT_one (i := 6) (o := { dst := some 45, op := Op.buildSlice 38 1 #[(0, Operand.tmp 44)], type := 38, pos := "hash.go:120", after := #[{ on := 5, ground := Ground.data }], guard := none }) rfl (by kernel_rfl) (fun K hK => ?_)
        rw [if_pos (by rfl)]
        refine wp_build1 38 25 _ rfl Tryd.underlying38 _ rfl ((er (k + 1)).map ub).toArray HBT.out ?_
        have hGb : w9.grownBy (w9.drew.alloc (Obj.cells ((er (k + 1)).map ub).toArray 25)) none := gr_trans (gr_drew (gr_refl w9)) (gr_alloc _ _)
        have hrb : (w9.drew.alloc (Obj.cells ((er (k + 1)).map ub).toArray 25)).heap[w9.heap.size]? = some (.cells ((er (k + 1)).map ub).toArray 25 (0, 0)) := heap_alloc_new w9.drew _
        have hownb : (w9.drew.alloc (Obj.cells ((er (k + 1)).map ub).toArray 25)).ownsRow (w1.heap.size + 1) 25 32 (.slice (some ⟨ge, 0, none⟩) (k + 1) cap) (k + 1) ((erL (k + 1)).map ub) := hown9.kept hGb (Or.inr (by simp [Value.ownBlock]))
        have keepB : ∀ W : World, w9.grownBy W none → W.cell? ⟨w1.heap.size, 1, none⟩ = some (.slice (some ⟨ge, 0, none⟩) (k + 1) cap) ∧ W.rangeAt B9 0 ((er (k + 1)).map ub) := fun W hW =>
          ⟨(gr_cell hW (p := ⟨w1.heap.size, 1, none⟩) (by have := HHs.out; show w1.heap.size < _; omega)).trans cH9, fun j v hj => (gr_cell hW (p := ⟨B9, 0 + j, none⟩) hB9s).trans (hr9 j v hj)⟩
        refine hK.out _ _ (fun _ => keepB _ hGb) (fun hHeld2 => ?_)
        clear hK K hHeld2
        try simp only [Act.put, List.setIfInBounds_toArray, List.set_cons_zero, List.set_cons_succ]
        change wpAnyT _ _ _ _ _ _ _ _ _ (w9.drew.alloc (Obj.cells ((er (k + 1)).map ub).toArray 25))
        generalize w9.drew.alloc (Obj.cells ((er (k + 1)).map ub).toArray 25) = wa at hGb hrb hownb ⊢
        refine wpAnyT_one (i := 7) (o := { dst := some 46, op := Op.call { callee := Callee.builtin Builtin.append, args := #[Operand.tmp 43, Operand.tmp 45], argTypes := #[38, 38] }, type := 38, pos := "hash.go:120", after := #[{ on := 4, ground := Ground.data }, { on := 6, ground := Ground.data }], guard := none }) rfl (by kernel_rfl) (fun K hK => ?_)
        rw [if_pos (by rfl)]
        obtain ⟨hi0, hz0, hz1, hz2, hz3⟩ := HINF.out
        refine wp_append_own wa _ _ 38 rfl (w1.heap.size + 1) 25 i0 z0 32 32 Tryd.underlying38 hi0 hz0 hz1 hz2 hz3 (by decide) _ _ _ rfl hownb ⟨w9.heap.size, 0, none⟩ 1 1 ((er (k + 1)).map ub) rfl (by simp [length_er]) (fun j u hj => ?_) (fun u hu => ?_) (by unfold maxLen; omega) (by omega) (by have := hGb.size; have := HHs.out; omega) (fun v4 w4 hown4 hG4 _ => ?_)
        · have e : (⟨w9.heap.size, 0, none⟩ : Addr).add j = ⟨w9.heap.size, j, none⟩ := by unfold Addr.add; split <;> simp_all
          rw [e, cell_of_row _ _ _ _ _ _ hrb]; simpa using hj
        · obtain ⟨x, _, rfl⟩ := List.mem_map.1 hu; rfl
        obtain ⟨g5, cap5, rfl, hg5, hg5s⟩ := owned32 hown4 (by omega)
        have hge9 : ge < w9.heap.size := by omega
        have hH4 : w4.heap[w1.heap.size]? = some (.cells #[.pointer (some ⟨T, 0, none⟩), .slice (some ⟨ge, 0, none⟩) (k + 1) cap] 90 (0, 0)) := (hG4.block _ (by have := hGb.size; have := HHs.out; omega) (fun h => by have h2 : _ = ge := Option.some.inj h; omega)).trans ((hGb.block _ (by have := HHs.out; omega) (by simp)).trans hH9)
        have cH4 : w4.cell? ⟨w1.heap.size, 1, none⟩ = some (.slice (some ⟨ge, 0, none⟩) (k + 1) cap) := by rw [cell_of_row w4 _ _ _ _ _ hH4]; rfl
        have fH4 : w4.frozen? ⟨w1.heap.size, 1, none⟩ = false := frozen_of_row w4 _ _ _ _ hH4
        have h94 : w4.heap[B9]? = some (.cells ((er (k + 1)).map ub).toArray 25 (0, 0)) := (hG4.block _ (by have := hGb.size; omega) (fun h => by have h2 : _ = ge := Option.some.inj h; omega)).trans ((hGb.block _ hB9s (by simp)).trans h9)
        have hr4 : w4.rangeAt B9 0 ((er (k + 1)).map ub) := fun j v hj => by
          rw [Nat.zero_add, cell_of_row w4 _ _ _ _ _ h94]; simpa using hj
        have hG14 : w1.grownBy w4 none := by
          have hh := gr_trans hG19 hGb
          exact ⟨hG4.os.trans hh.os, hG4.tape.trans hh.tape, hG4.output.trans hh.output, Nat.le_trans hh.size hG4.size, fun i hi _ => (hG4.block i (by have := hh.size; omega) (fun h => by have h2 : _ = ge := Option.some.inj h; omega)).trans (hh.block i hi (by simp))⟩
        have hown4' : w4.ownsRow (w1.heap.size + 1) 25 32 (.slice (some ⟨g5, 0, none⟩) (k + 1 + 1) cap5) (k + 1 + 1) ((erL (k + 1 + 1)).map ub) := by rw [erL, List.map_append]; exact hown4
        have hHeld4 := And.intro cH4 hr4
        refine hK.out _ _ (fun _ => hHeld4) (fun hHeld3 => ?_)
        clear hHeld3
        clear hK K hown4 hG4 hr4 h94 hGb hrb hownb keepB hr9 HBT hG19 cH9 hH9 hown9
        try simp only [Act.put, List.setIfInBounds_toArray, List.set_cons_zero, List.set_cons_succ]
        refine wpAnyT_one (i := 8) (o := { dst := some 47, op := Op.nilCheck (Operand.tmp 39), type := 0, pos := "hash.go:120", after := #[{ on := 0, ground := Ground.data }, { on := 0, ground := Ground.phase }, { on := 1, ground := Ground.phase }, { on := 2, ground := Ground.phase }, { on := 3, ground := Ground.phase }, { on := 4, ground := Ground.phase }, { on := 5, ground := Ground.phase }, { on := 6, ground := Ground.phase }, { on := 7, ground := Ground.phase }], guard := none }) rfl (by kernel_rfl) (fun K hK => ?_)
        go_simp
        refine hK.out _ _ (fun _ => hHeld4) (fun hHeld5 => ?_)
        clear hK K hHeld5
        try simp only [Act.put, List.setIfInBounds_toArray, List.set_cons_zero, List.set_cons_succ]
        refine wpAnyT_one (i := 9) (o := { dst := some 48, op := Op.fieldAddr 90 (Operand.tmp 47) 1, type := 0, pos := "hash.go:120", after := #[{ on := 8, ground := Ground.data }, { on := 0, ground := Ground.phase }, { on := 1, ground := Ground.phase }, { on := 2, ground := Ground.phase }, { on := 3, ground := Ground.phase }, { on := 4, ground := Ground.phase }, { on := 5, ground := Ground.phase }, { on := 6, ground := Ground.phase }, { on := 7, ground := Ground.phase }], guard := none }) rfl (by kernel_rfl) (fun K hK => ?_)
        go_simp
        refine hK.out _ _ (fun _ => hHeld4) (fun hHeld5 => ?_)
        clear hK K hHeld5
        try simp only [Act.put, List.setIfInBounds_toArray, List.set_cons_zero, List.set_cons_succ]
        refine wpAnyT_one (i := 10) (o := { dst := none, op := Op.store 38 (Operand.tmp 48) (Operand.tmp 46), type := 0, pos := "hash.go:120", after := #[{ on := 9, ground := Ground.data }, { on := 7, ground := Ground.data }, { on := 7, ground := Ground.chain }, { on := 0, ground := Ground.phase }, { on := 1, ground := Ground.phase }, { on := 2, ground := Ground.phase }, { on := 3, ground := Ground.phase }, { on := 4, ground := Ground.phase }, { on := 5, ground := Ground.phase }, { on := 6, ground := Ground.phase }, { on := 7, ground := Ground.phase }], guard := none }) rfl (by kernel_rfl) (fun K hK => ?_)
        go_simp
        have hH5 := heap_setCell_same w4 w1.heap.size 1 _ 90 (Value.slice (some ⟨g5, 0, none⟩) (k + 1 + 1) cap5) hH4
        have hG15 := gr_at hG14 (Nat.le_refl _) 1 (Value.slice (some ⟨g5, 0, none⟩) (k + 1 + 1) cap5)
        have hown5 := ownsRow_setCell_below hown4' (a := ⟨w1.heap.size, 1, none⟩) (by simp) (Value.slice (some ⟨g5, 0, none⟩) (k + 1 + 1) cap5)
        refine hK.out _ _ (fun h => absurd rfl h) (fun _ => ?_)
        clear hK K hHeld hHeld4 cH4 fH4 hH4 hG14 hown4' hu hi
        refine wpAnyT_done (by kernel_rfl) ?_ _
        refine NoPanic.normal ?_
        generalize w4.setCell ⟨w1.heap.size, 1, none⟩ (Value.slice (some ⟨g5, 0, none⟩) (k + 1 + 1) cap5) = w5 at hH5 hG15 hown5 ⊢
        have HALL : Hid _ := And.intro hH5 (And.intro hown5 hG15)
        clear hH5 hown5 hG15 h9 HI1 HN1 HINF HHs hi0 hz0 hz1 hz2 hz3 hB9 hs9 hB9s b0 b1 hT hTs hG1
        go_wp2
        exact ⟨⟨k + 1, g5, cap5, by omega, by go_num, HALL.out.1, HALL.out.2.1, HALL.out.2.2⟩, by simp [intOf]; omega⟩
    · obtain rfl : k = 64 := by omega
      have hge : decide (((64 : Nat) : Int) < 64) = false := by simp
      have HALL : Hid _ := And.intro hH (And.intro hT (And.intro hG (And.intro hG1 hown)))
      clear hH hT hG hG1 hown hi0 hz0 hz1 hz2 hz3 hTs
      go_wp2
      go_ret
      obtain ⟨hH, hT, hG, hG1, hown⟩ := HALL.out
      refine ⟨w1.heap.size, rfl, ⟨T, _, _, _, hH, by have := hT.lt; have := hG.size; omega, hT.gr hT.lt hG⟩, (Array.getElem?_eq_some_iff.1 hH).1, gr_trans hG1 hG, T, ge, cap, hH, ?_, ?_, fun k hk => range_of_own hown hk⟩
      · obtain ⟨_, h0 | ⟨g, cp, cur, hv, hb, hh, _⟩⟩ := hown
        · cases h0.1
        · cases hv; exact (Array.getElem?_eq_some_iff.1 hh).1
      · obtain ⟨_, h0 | ⟨g, cp, cur, hv, hb, hh, h1, _⟩⟩ := hown
        · cases h0.1
        · cases hv; exact h1

theorem new_any (w : World) :
    Calls Tryd.prog 14 #[] w fun e w' => ∃ H, e = .returned (.pointer (some ⟨H, 0, none⟩)) ∧ RefAt w' H ∧ H < w'.heap.size ∧ w.grownBy w' none :=
  (new_full w).mono fun _ _ ⟨H, h1, h2, h3, h4, _⟩ => ⟨H, h1, h2, h3, h4⟩
end Go.Proofs.YtplhlhjakapaaaaDoor
