/-
  The table of the roots of empty parts: how it lies, and how it is filled.
-/
import Derived.Test.YtplhlhjakapaaaaDoorOnceA
import Derived.Test.YtplhlhjakapaaaaDoorNew
import Derived.StillTailTactics
namespace Go.Proofs.YtplhlhjakapaaaaDoor
open Go Go.RowKit

def tabC (d s : Int) (T : List UInt8) : List Value := .int .u32 d :: .int .i32 s :: .int .u32 0 :: T.map ub
def TabAt (w : World) (E : Nat) (d s : Int) (T : List UInt8) : Prop := T.length = 2080 ∧ w.heap[E]? = some (.cells (tabC d s T).toArray 196 (0, 0))

theorem TabAt.c0 {w : World} {E : Nat} {d s : Int} {T : List UInt8} (h : TabAt w E d s T) : w.cell? ⟨E, 0, none⟩ = some (.int .u32 d) := by rw [cell_of_row w _ _ _ _ _ h.2]; rfl
theorem TabAt.c1 {w : World} {E : Nat} {d s : Int} {T : List UInt8} (h : TabAt w E d s T) : w.cell? ⟨E, 1, none⟩ = some (.int .i32 s) := by rw [cell_of_row w _ _ _ _ _ h.2]; rfl
theorem TabAt.fr {w : World} {E : Nat} {d s : Int} {T : List UInt8} (h : TabAt w E d s T) (j : Nat) : w.frozen? ⟨E, j, none⟩ = false := frozen_of_row w _ _ _ _ h.2
theorem TabAt.range {w : World} {E : Nat} {d s : Int} {T : List UInt8} (h : TabAt w E d s T) (o : Nat) (x : List UInt8) (hx : ∀ j, j < x.length → T[o + j]? = x[j]?) : w.rangeAt E (3 + o) (x.map ub) := fun j u hj => by
  have hjl : j < x.length := by simpa using (List.getElem?_eq_some_iff.1 hj).1
  rw [cell_of_row w _ _ _ _ _ h.2, List.getElem?_toArray, tabC, show 3 + o + j = (o + j) + 1 + 1 + 1 by omega, List.getElem?_cons_succ, List.getElem?_cons_succ, List.getElem?_cons_succ, List.getElem?_map, hx j hjl, ← List.getElem?_map]
  exact hj
theorem TabAt.there {w : World} {E : Nat} {d s : Int} {T : List UInt8} (h : TabAt w E d s T) (o n : Nat) (ho : o + n ≤ 2080) : w.there E (3 + o) n := fun j hj => by
  refine ⟨?_, h.fr _⟩
  rw [cell_of_row w _ _ _ _ _ h.2, List.getElem?_toArray, List.getElem?_eq_getElem (by simp [tabC, h.1]; omega)]
  rfl
theorem TabAt.set0 {w : World} {E : Nat} {d s : Int} {T : List UInt8} (h : TabAt w E d s T) (d' : Int) : TabAt (w.setCell ⟨E, 0, none⟩ (.int .u32 d')) E d' s T :=
  ⟨h.1, by rw [heap_setCell_same w E 0 _ 196 _ h.2]; simp [tabC]⟩
theorem TabAt.set1 {w : World} {E : Nat} {d s : Int} {T : List UInt8} (h : TabAt w E d s T) (s' : Int) : TabAt (w.setCell ⟨E, 1, none⟩ (.int .i32 s')) E d s' T :=
  ⟨h.1, by rw [heap_setCell_same w E 1 _ 196 _ h.2]; simp [tabC]⟩

def setL (cs : List Value) : Nat → List Value → List Value
  | _, [] => cs
  | o, v :: vs => setL (cs.set o v) (o + 1) vs
theorem length_setL : ∀ (vs cs : List Value) (o : Nat), (setL cs o vs).length = cs.length
  | [], _, _ => rfl
  | v :: vs, cs, o => by rw [setL, length_setL]; simp
theorem setL_at : ∀ (vs cs : List Value) (o j : Nat), o + vs.length ≤ cs.length → (setL cs o vs)[j]? = if o ≤ j ∧ j < o + vs.length then vs[j - o]? else cs[j]?
  | [], cs, o, j, _ => by rw [if_neg (by simp)]; rfl
  | v :: vs, cs, o, j, h => by
    rw [List.length_cons] at h
    rw [setL, setL_at vs _ _ j (by simp; omega)]
    by_cases h1 : o + 1 ≤ j ∧ j < o + 1 + vs.length
    · rw [if_pos h1, if_pos (by simp; omega), show j - o = (j - (o + 1)) + 1 by omega, List.getElem?_cons_succ]
    · rw [if_neg h1]
      by_cases h2 : j = o
      · subst h2
        rw [if_pos (by simp), Nat.sub_self, List.getElem?_cons_zero, List.getElem?_set_self (by omega)]
      · rw [if_neg (by simp; omega), List.getElem?_set_ne (by omega)]
theorem heap_setCells (E : Nat) (t : TypeId) : ∀ (vs : List Value) (o : Nat) (w : World) (cs : List Value), w.heap[E]? = some (.cells cs.toArray t (0, 0)) → (w.setCells E o vs).heap[E]? = some (.cells (setL cs o vs).toArray t (0, 0))
  | [], _, _, _, h => h
  | v :: vs, o, w, cs, h => by
    rw [World.setCells, setL]
    refine heap_setCells E t vs (o + 1) _ (cs.set o v) ?_
    rw [heap_setCell_same w E o _ t _ h]; simp
theorem heap_setCells_other (E : Nat) : ∀ (vs : List Value) (o : Nat) (w : World) (k : Nat), k ≠ E → (w.setCells E o vs).heap[k]? = w.heap[k]?
  | [], _, _, _, _ => rfl
  | v :: vs, o, w, k, h => by
    rw [World.setCells, heap_setCells_other E vs _ _ k h]
    exact heap_setCell_other _ _ _ _ (by simpa using h)
theorem size_setCells (E : Nat) : ∀ (vs : List Value) (o : Nat) (w : World), (w.setCells E o vs).heap.size = w.heap.size
  | [], _, _ => rfl
  | v :: vs, o, w => by rw [World.setCells, size_setCells]; simp

theorem TabAt.setR {w : World} {E : Nat} {d s : Int} {T : List UInt8} (h : TabAt w E d s T) (o : Nat) (x T' : List UInt8) (ho : o + x.length ≤ 2080) (hT : T'.length = 2080) (h' : ∀ j, T'[j]? = if o ≤ j ∧ j < o + x.length then x[j - o]? else T[j]?) :
    TabAt (w.setCells E (3 + o) (x.map ub)) E d s T' := by
  refine ⟨hT, ?_⟩
  rw [heap_setCells E 196 _ _ w _ h.2]
  congr 3
  refine List.ext_getElem? fun j => ?_
  rw [setL_at _ _ _ _ (by simp [tabC, h.1]; omega)]
  match j with
  | 0 => rw [if_neg (by omega)]; rfl
  | 1 => rw [if_neg (by omega)]; rfl
  | 2 => rw [if_neg (by omega)]; rfl
  | j + 3 =>
    simp only [tabC, List.getElem?_cons_succ, List.getElem?_map, List.length_map]
    rw [h' j]
    by_cases hj : o ≤ j ∧ j < o + x.length
    · rw [if_pos (by omega), if_pos hj, show j + 3 - (3 + o) = j - o by omega]
    · rw [if_neg (by omega), if_neg hj]

theorem grE_set {w V : World} {E : Nat} (h : w.grownBy V (some E)) (j : Nat) (v : Value) : w.grownBy (V.setCell ⟨E, j, none⟩ v) (some E) :=
  ⟨h.os, h.tape, h.output, by simpa using h.size, fun i hi hn => (heap_setCell_other _ _ _ _ (fun e => hn (by rw [e]))).trans (h.block i hi hn)⟩
theorem grE_sets {w : World} {E : Nat} : ∀ (vs : List Value) (o : Nat) (V : World), w.grownBy V (some E) → w.grownBy (V.setCells E o vs) (some E)
  | [], _, _, h => h
  | v :: vs, o, V, h => by rw [World.setCells]; exact grE_sets vs _ _ (grE_set h o v)
theorem grE_more {w V W : World} {E : Nat} (h : w.grownBy V (some E)) (g : V.grownBy W none) : w.grownBy W (some E) :=
  ⟨g.os.trans h.os, g.tape.trans h.tape, g.output.trans h.output, Nat.le_trans h.size g.size, fun i hi hn => (g.block i (Nat.lt_of_lt_of_le hi h.size) (by simp)).trans (h.block i hi hn)⟩
theorem grE_of {w V : World} {E : Nat} (g : w.grownBy V none) : w.grownBy V (some E) := ⟨g.os, g.tape, g.output, g.size, fun i hi _ => g.block i hi (by simp)⟩
theorem grE_trans {w V W : World} {E : Nat} (h : w.grownBy V (some E)) (g : V.grownBy W (some E)) : w.grownBy W (some E) :=
  ⟨g.os.trans h.os, g.tape.trans h.tape, g.output.trans h.output, Nat.le_trans h.size g.size, fun i hi hn => (g.block i (Nat.lt_of_lt_of_le hi h.size) hn).trans (h.block i hi hn)⟩
theorem grE_back {w0 w V : World} {E : Nat} (h0 : w0.grownBy w none) (hE : w0.heap.size ≤ E) (g : w.grownBy V (some E)) : w0.grownBy V none :=
  ⟨g.os.trans h0.os, g.tape.trans h0.tape, g.output.trans h0.output, Nat.le_trans h0.size g.size, fun i hi _ => (g.block i (Nat.lt_of_lt_of_le hi h0.size) (fun e => by have := Option.some.inj e; omega)).trans (h0.block i hi (by simp))⟩
theorem TabAt.gr {w V : World} {E : Nat} {d s : Int} {T : List UInt8} (h : TabAt w E d s T) (g : w.grownBy V none) : TabAt V E d s T := ⟨h.1, (g.block _ (Array.getElem?_eq_some_iff.1 h.2).1 (by simp)).trans h.2⟩

section
variable {P : Program} {ops : Array Oper} {Q : Exit → Act → World → Prop} {md : Region.Mode} {S : World → Prop}
theorem wpAnyH_one {i : Nat} {o : Oper} {n : Nat} {listed : Array Bool} {a : Act} {w : World} (ho : ops[i]? = some o) (hr : Region.ready md ops listed = [i])
    (h : ∀ K' : Act → World → Prop, Shut (∀ a w, S w → (S w → wpAnyH P md ops Q S n (listed.setIfInBounds i true) a w) → K' a w) → if Region.wanted o (yielded ops a.tmps) = true then Oper.wp P o a w K' Q else K' (a.put o.dst undef) w) :
    wpAnyH P md ops Q S (n + 1) listed a w :=
  wpAnyH_all hr (by simp) fun j hj => by
    rw [List.mem_singleton] at hj
    subst hj
    exact wpOp_step ho (fun K' hK => h K' (fun a w hS hW => hK a w ⟨hS, hW hS⟩))
end

/-- The first k and one more roots, then noughts. -/
def tabK (k : Nat) : List UInt8 := erL (k + 1) ++ List.replicate ((64 - k) * 32) 0
theorem length_tabK (k : Nat) (hk : k ≤ 64) : (tabK k).length = 2080 := by rw [tabK, List.length_append, length_erL, List.length_replicate]; omega
theorem tabK_64 : tabK 64 = erL 65 := by simp [tabK]
theorem tabK_0 : tabK 0 = List.replicate 2080 0 := by
  rw [tabK, erL, erL, er]
  rw [List.nil_append, List.replicate_append_replicate]
theorem tabK_at (k i : Nat) (hi : i ≤ k) (j : Nat) (hj : j < 32) : (tabK k)[i * 32 + j]? = (er i)[j]? := by
  rw [tabK, List.getElem?_append_left (by rw [length_erL]; have : (i + 1) * 32 ≤ (k + 1) * 32 := Nat.mul_le_mul_right _ (by omega); omega)]
  exact erL_at (k + 1) i j (by omega) hj
theorem tabK_step (k : Nat) (hk : k < 64) (j : Nat) : (tabK (k + 1))[j]? = if (k + 1) * 32 ≤ j ∧ j < (k + 1) * 32 + (er (k + 1)).length then (er (k + 1))[j - (k + 1) * 32]? else (tabK k)[j]? := by
  rw [length_er, tabK, tabK, show erL (k + 1 + 1) = erL (k + 1) ++ er (k + 1) from rfl]
  have h1 := length_erL (k + 1)
  have h2 := length_er (k + 1)
  by_cases a : j < (k + 1) * 32
  · rw [if_neg (by omega), List.append_assoc, List.getElem?_append_left (by omega), List.getElem?_append_left (by omega)]
  · by_cases b : j < (k + 1) * 32 + 32
    · rw [if_pos (by omega), List.append_assoc, List.getElem?_append_right (by omega), h1, List.getElem?_append_left (by omega)]
    · rw [if_neg (by omega), List.getElem?_append_right (by rw [List.length_append]; omega), List.getElem?_append_right (by omega), List.length_append, h1, h2]
      rw [List.getElem?_replicate, List.getElem?_replicate]
      by_cases c : j < 2080
      · rw [if_pos (by omega), if_pos (by omega)]
      · rw [if_neg (by omega), if_neg (by omega)]

set_option maxHeartbeats 4000000 in
set_option maxRecDepth 100000 in
theorem fill_any (E B : Nat) (w : World) (hBE : B ≠ E) (hBs : B < w.heap.size) (hP : w.cell? ⟨B, 0, none⟩ = some (.pointer (some ⟨E, 0, none⟩))) (hE : TabAt w E 0 1 (tabK 0)) (hT : ∀ V, w.grownBy V (some E) → Tab V ∧ 1 < V.heap.size) :
    Calls Tryd.prog 147 #[.pointer (some ⟨B, 0, none⟩)] w fun e w' => e = .returned (.tuple #[]) ∧ TabAt w' E 0 1 (tabK 64) ∧ w.grownBy w' (some E) := by
  have HT : Hid (∀ V, w.grownBy V (some E) → Tab V ∧ 1 < V.heap.size) := hT
  have HP : Hid (∀ V, w.grownBy V (some E) → V.cell? ⟨B, 0, none⟩ = some (.pointer (some ⟨E, 0, none⟩))) := fun V hV => (World.cell?_of_block (a := ⟨B, 0, none⟩) (hV.block B hBs (fun e => hBE (Option.some.inj e)))).trans hP
  have HE : Hid (TabAt w E 0 1 (tabK 0)) := hE
  clear hT hP hE hBs
  go_enter Tryd.func147, Tryd.ntmps147
  go_wp2
  go_loopw [2] (fun i wr => ∃ k : Nat, k ≤ 64 ∧ i = .int .i64 (k : Int) ∧ Hid (TabAt wr E 0 1 (tabK k)) ∧ w.grownBy wr (some E))
    (fun i _ => 64 - (intOf i).toNat)
  case atStart => exact ⟨0, by omega, rfl, HE, grE_of (gr_refl w)⟩
  case round =>
    obtain ⟨k, hk, rfl, HK, hG⟩ := hrel
    by_cases hlt : k < 64
    · have d0 : (k : Int) < 64 := by omega
      have d65 : (k : Int) < 65 := by omega
      have d66 : (k : Int) + 1 < 65 := by omega
      have d67 : (0 : Int) ≤ (k : Int) + 1 := by omega
      have ew : IntKind.i64.wrap ((k : Int) + 1) = (k : Int) + 1 := by rw [IntKind.wrap_i64]; omega
      have hkl := length_er k
      obtain ⟨HI, _, _⟩ := sum25 (er k) hkl
      have HI' : Hid ((Tryd.prog.info? 25).map (·.size) = some ((er k).map ub).length) := by show _ = _; rw [HI.out]; simp
      have hS : ∀ V, w.grownBy V (some E) → TabAt V E 0 1 (tabK k) → V.cell? ⟨B, 0, none⟩ = some (.pointer (some ⟨E, 0, none⟩)) ∧ V.rangeAt E (3 + k * 32) ((er k).map ub) := fun V hV hK =>
        ⟨HP.out V hV, hK.range (k * 32) (er k) (fun j hj => tabK_at k k (Nat.le_refl _) j (by omega))⟩
      have hGd : w.grownBy wr.drew (some E) := grE_more hG (gr_drew (gr_refl wr))
      have HKd : Hid (TabAt wr.drew E 0 1 (tabK k)) := HK.out.gr (gr_drew (gr_refl wr))
      have HS : Hid _ := hS
      have HSd : Hid _ := hS wr.drew hGd HKd.out
      clear hS
      go_wp2
      refine wp_region_noPanic ?_
      refine wp_region_held_drew (S := fun w' => w'.cell? ⟨B, 0, none⟩ = some (.pointer (some ⟨E, 0, none⟩)) ∧ w'.rangeAt E (3 + k * 32) ((er k).map ub)) (by kernel_rfl) HSd.out (fun hHeld => ?_)
      refine wpAnyH_take (i := 0) (oi := { dst := some 5, op := Op.load 223 (Operand.tmp 0), type := 223, pos := "empty.go:19", after := #[], guard := none }) (v := ?_) rfl (by kernel_rfl) (by kernel_rfl) (by kernel_rfl) (fun _ _ _ h => h) (Or.inl ⟨by rfl, ?_⟩) (by assumption) ?_
      rotate_left
      · intro w' hSw
        try dsimp only at hSw
        go_simp
        try with_reducible rfl
      simp only [Act.put, List.setIfInBounds_toArray, List.set_cons_zero, List.set_cons_succ]
      refine wpAnyH_take (i := 1) (oi := { dst := some 6, op := Op.move (Operand.tmp 1), type := 3, pos := "empty.go:19", after := #[], guard := none }) (v := ?_) rfl (by kernel_rfl) (by kernel_rfl) (by kernel_rfl) (fun _ _ _ h => h) (Or.inl ⟨by rfl, ?_⟩) (by assumption) ?_
      rotate_left
      · intro w' hSw
        try dsimp only at hSw
        go_simp
        try with_reducible rfl
      simp only [Act.put, List.setIfInBounds_toArray, List.set_cons_zero, List.set_cons_succ]
      refine wpAnyH_take (i := 2) (oi := { dst := some 7, op := Op.binOp BinOp.add 3 (Operand.tmp 6) (Operand.const (Value.int IntKind.i64 1)) 3, type := 3, pos := "empty.go:19", after := #[{ on := 1, ground := Ground.data }], guard := none }) (v := ?_) rfl (by kernel_rfl) (by kernel_rfl) (by kernel_rfl) (fun _ _ _ h => h) (Or.inl ⟨by rfl, ?_⟩) (by assumption) ?_
      rotate_left
      · intro w' hSw
        try dsimp only at hSw
        go_simp
        try with_reducible rfl
      simp only [Act.put, List.setIfInBounds_toArray, List.set_cons_zero, List.set_cons_succ]
      refine wpAnyH_take (i := 3) (oi := { dst := some 8, op := Op.load 223 (Operand.tmp 0), type := 223, pos := "empty.go:19", after := #[], guard := none }) (v := ?_) rfl (by kernel_rfl) (by kernel_rfl) (by kernel_rfl) (fun _ _ _ h => h) (Or.inl ⟨by rfl, ?_⟩) (by assumption) ?_
      rotate_left
      · intro w' hSw
        try dsimp only at hSw
        go_simp
        try with_reducible rfl
      simp only [Act.put, List.setIfInBounds_toArray, List.set_cons_zero, List.set_cons_succ]
      refine wpAnyH_take (i := 4) (oi := { dst := some 9, op := Op.move (Operand.tmp 1), type := 3, pos := "empty.go:19", after := #[], guard := none }) (v := ?_) rfl (by kernel_rfl) (by kernel_rfl) (by kernel_rfl) (fun _ _ _ h => h) (Or.inl ⟨by rfl, ?_⟩) (by assumption) ?_
      rotate_left
      · intro w' hSw
        try dsimp only at hSw
        go_simp
        try with_reducible rfl
      simp only [Act.put, List.setIfInBounds_toArray, List.set_cons_zero, List.set_cons_succ]
      refine wpAnyH_take (i := 5) (oi := { dst := some 10, op := Op.nilCheck (Operand.tmp 8), type := 0, pos := "empty.go:19", after := #[{ on := 3, ground := Ground.data }], guard := none }) (v := ?_) rfl (by kernel_rfl) (by kernel_rfl) (by kernel_rfl) (fun _ _ _ h => h) (Or.inl ⟨by rfl, ?_⟩) (by assumption) ?_
      rotate_left
      · intro w' hSw
        try dsimp only at hSw
        go_simp
        try with_reducible rfl
      simp only [Act.put, List.setIfInBounds_toArray, List.set_cons_zero, List.set_cons_succ]
      refine wpAnyH_take (i := 6) (oi := { dst := some 11, op := Op.fieldAddr 196 (Operand.tmp 10) 1, type := 0, pos := "empty.go:19", after := #[{ on := 5, ground := Ground.data }], guard := none }) (v := ?_) rfl (by kernel_rfl) (by kernel_rfl) (by kernel_rfl) (fun _ _ _ h => h) (Or.inl ⟨by rfl, ?_⟩) (by assumption) ?_
      rotate_left
      · intro w' hSw
        try dsimp only at hSw
        go_simp
        try with_reducible rfl
      simp only [Act.put, List.setIfInBounds_toArray, List.set_cons_zero, List.set_cons_succ]
      refine wpAnyH_take (i := 7) (oi := { dst := some 12, op := Op.indexAddr 194 (Operand.tmp 11) (Operand.tmp 9), type := 0, pos := "empty.go:19", after := #[{ on := 6, ground := Ground.data }, { on := 4, ground := Ground.data }], guard := none }) (v := ?_) rfl (by kernel_rfl) (by kernel_rfl) (by kernel_rfl) (fun _ _ _ h => h) (Or.inl ⟨by rfl, ?_⟩) (by assumption) ?_
      rotate_left
      · intro w' hSw
        try dsimp only at hSw
        go_simp
        try with_reducible rfl
      simp only [Act.put, List.setIfInBounds_toArray, List.set_cons_zero, List.set_cons_succ]
      refine wpAnyH_take (i := 8) (oi := { dst := some 13, op := Op.load 25 (Operand.tmp 12), type := 25, pos := "empty.go:19", after := #[{ on := 7, ground := Ground.data }], guard := none }) (v := .agg ((er k).map ub).toArray) rfl (by kernel_rfl) (by kernel_rfl) (by kernel_rfl) (fun _ _ _ h => h) (yieldsIf_load_mid (by rfl) _ _ rfl E (3 + k * 32) (by simp [Act.eval]; try omega) ((er k).map ub) _ (fun w' hSw => hSw.2) Tryd.underlying25 rfl HI'.out) (by assumption) ?_
      simp only [Act.put, List.setIfInBounds_toArray, List.set_cons_zero, List.set_cons_succ]
      refine wpAnyH_take (i := 9) (oi := { dst := some 14, op := Op.load 223 (Operand.tmp 0), type := 223, pos := "empty.go:19", after := #[], guard := none }) (v := ?_) rfl (by kernel_rfl) (by kernel_rfl) (by kernel_rfl) (fun _ _ _ h => h) (Or.inl ⟨by rfl, ?_⟩) (by assumption) ?_
      rotate_left
      · intro w' hSw
        try dsimp only at hSw
        go_simp
        try with_reducible rfl
      simp only [Act.put, List.setIfInBounds_toArray, List.set_cons_zero, List.set_cons_succ]
      refine wpAnyH_take (i := 10) (oi := { dst := some 15, op := Op.move (Operand.tmp 1), type := 3, pos := "empty.go:19", after := #[], guard := none }) (v := ?_) rfl (by kernel_rfl) (by kernel_rfl) (by kernel_rfl) (fun _ _ _ h => h) (Or.inl ⟨by rfl, ?_⟩) (by assumption) ?_
      rotate_left
      · intro w' hSw
        try dsimp only at hSw
        go_simp
        try with_reducible rfl
      simp only [Act.put, List.setIfInBounds_toArray, List.set_cons_zero, List.set_cons_succ]
      refine wpAnyH_take (i := 11) (oi := { dst := some 16, op := Op.nilCheck (Operand.tmp 14), type := 0, pos := "empty.go:19", after := #[{ on := 9, ground := Ground.data }], guard := none }) (v := ?_) rfl (by kernel_rfl) (by kernel_rfl) (by kernel_rfl) (fun _ _ _ h => h) (Or.inl ⟨by rfl, ?_⟩) (by assumption) ?_
      rotate_left
      · intro w' hSw
        try dsimp only at hSw
        go_simp
        try with_reducible rfl
      simp only [Act.put, List.setIfInBounds_toArray, List.set_cons_zero, List.set_cons_succ]
      refine wpAnyH_take (i := 12) (oi := { dst := some 17, op := Op.fieldAddr 196 (Operand.tmp 16) 1, type := 0, pos := "empty.go:19", after := #[{ on := 11, ground := Ground.data }], guard := none }) (v := ?_) rfl (by kernel_rfl) (by kernel_rfl) (by kernel_rfl) (fun _ _ _ h => h) (Or.inl ⟨by rfl, ?_⟩) (by assumption) ?_
      rotate_left
      · intro w' hSw
        try dsimp only at hSw
        go_simp
        try with_reducible rfl
      simp only [Act.put, List.setIfInBounds_toArray, List.set_cons_zero, List.set_cons_succ]
      refine wpAnyH_take (i := 13) (oi := { dst := some 18, op := Op.indexAddr 194 (Operand.tmp 17) (Operand.tmp 15), type := 0, pos := "empty.go:19", after := #[{ on := 12, ground := Ground.data }, { on := 10, ground := Ground.data }], guard := none }) (v := ?_) rfl (by kernel_rfl) (by kernel_rfl) (by kernel_rfl) (fun _ _ _ h => h) (Or.inl ⟨by rfl, ?_⟩) (by assumption) ?_
      rotate_left
      · intro w' hSw
        try dsimp only at hSw
        go_simp
        try with_reducible rfl
      simp only [Act.put, List.setIfInBounds_toArray, List.set_cons_zero, List.set_cons_succ]
      refine wpAnyH_take (i := 14) (oi := { dst := some 19, op := Op.load 25 (Operand.tmp 18), type := 25, pos := "empty.go:19", after := #[{ on := 13, ground := Ground.data }], guard := none }) (v := .agg ((er k).map ub).toArray) rfl (by kernel_rfl) (by kernel_rfl) (by kernel_rfl) (fun _ _ _ h => h) (yieldsIf_load_mid (by rfl) _ _ rfl E (3 + k * 32) (by simp [Act.eval]; try omega) ((er k).map ub) _ (fun w' hSw => hSw.2) Tryd.underlying25 rfl HI'.out) (by assumption) ?_
      simp only [Act.put, List.setIfInBounds_toArray, List.set_cons_zero, List.set_cons_succ]
      refine wpAnyH_take (i := 16) (oi := { dst := some 21, op := Op.nilCheck (Operand.tmp 5), type := 0, pos := "empty.go:19", after := #[{ on := 0, ground := Ground.data }], guard := none }) (v := ?_) rfl (by kernel_rfl) (by kernel_rfl) (by kernel_rfl) (fun _ _ _ h => h) (Or.inl ⟨by rfl, ?_⟩) (by assumption) ?_
      rotate_left
      · intro w' hSw
        try dsimp only at hSw
        go_simp
        try with_reducible rfl
      simp only [Act.put, List.setIfInBounds_toArray, List.set_cons_zero, List.set_cons_succ]
      refine wpAnyH_take (i := 17) (oi := { dst := some 22, op := Op.fieldAddr 196 (Operand.tmp 21) 1, type := 0, pos := "empty.go:19", after := #[{ on := 16, ground := Ground.data }], guard := none }) (v := ?_) rfl (by kernel_rfl) (by kernel_rfl) (by kernel_rfl) (fun _ _ _ h => h) (Or.inl ⟨by rfl, ?_⟩) (by assumption) ?_
      rotate_left
      · intro w' hSw
        try dsimp only at hSw
        go_simp
        try with_reducible rfl
      simp only [Act.put, List.setIfInBounds_toArray, List.set_cons_zero, List.set_cons_succ]
      refine wpAnyH_one (i := 15) (o := { dst := some 20, op := Op.call { callee := Callee.value (Operand.func 132), args := #[Operand.tmp 13, Operand.tmp 19], argTypes := #[25, 25] }, type := 25, pos := "empty.go:19", after := #[{ on := 8, ground := Ground.data }, { on := 14, ground := Ground.data }], guard := none }) rfl (by kernel_rfl) (fun K hK => ?_)
      go_simp
      refine (pnode_any (er k) (er k) wr.drew (HT.out _ hGd).2 (HT.out _ hGd).1 hkl hkl).mono ?_
      rintro e w5 ⟨rfl, hG5⟩
      have hG05 := grE_more hGd hG5
      have HK5 : Hid (TabAt w5 E 0 1 (tabK k)) := HKd.out.gr hG5
      have HS5 : Hid _ := HS.out w5 hG05 HK5.out
      refine hK.out _ _ HS5.out (fun _ => ?_)
      clear hK K
      try simp only [Act.put, List.setIfInBounds_toArray, List.set_cons_zero, List.set_cons_succ]
      clear hHeld
      have her : sha (nodeL 3 (er k) (er k)) = er (k + 1) := rfl
      rw [her]
      have hkl1 := length_er (k + 1)
      obtain ⟨HI1, HO1, HN1⟩ := sum25 (er (k + 1)) hkl1
      have HTH : Hid (w5.there E (3 + (k + 1) * 32) ((er (k + 1)).map ub).toArray.size) := by
        show World.there _ _ _ _
        have := HK5.out.there ((k + 1) * 32) 32 (by omega)
        simpa [hkl1] using this
      refine wpAnyH_one (i := 18) (o := { dst := some 23, op := Op.indexAddr 194 (Operand.tmp 22) (Operand.tmp 7), type := 0, pos := "empty.go:19", after := #[{ on := 17, ground := Ground.data }, { on := 2, ground := Ground.data }, { on := 0, ground := Ground.phase }, { on := 1, ground := Ground.phase }, { on := 2, ground := Ground.phase }, { on := 3, ground := Ground.phase }, { on := 4, ground := Ground.phase }, { on := 5, ground := Ground.phase }, { on := 6, ground := Ground.phase }, { on := 7, ground := Ground.phase }, { on := 8, ground := Ground.phase }, { on := 9, ground := Ground.phase }, { on := 10, ground := Ground.phase }, { on := 11, ground := Ground.phase }, { on := 12, ground := Ground.phase }, { on := 13, ground := Ground.phase }, { on := 14, ground := Ground.phase }, { on := 15, ground := Ground.phase }], guard := none }) rfl (by kernel_rfl) (fun K hK => ?_)
      go_simp
      refine hK.out _ _ HS5.out (fun _ => ?_)
      clear hK K
      try simp only [Act.put, List.setIfInBounds_toArray, List.set_cons_zero, List.set_cons_succ]
      clear her
      have HY : Hid _ := tabK_step k hlt
      generalize er (k + 1) = y at *
      refine wpAnyH_one (i := 19) (o := { dst := none, op := Op.store 25 (Operand.tmp 23) (Operand.tmp 20), type := 0, pos := "empty.go:19", after := #[{ on := 18, ground := Ground.data }, { on := 15, ground := Ground.data }, { on := 15, ground := Ground.chain }, { on := 0, ground := Ground.phase }, { on := 1, ground := Ground.phase }, { on := 2, ground := Ground.phase }, { on := 3, ground := Ground.phase }, { on := 4, ground := Ground.phase }, { on := 5, ground := Ground.phase }, { on := 6, ground := Ground.phase }, { on := 7, ground := Ground.phase }, { on := 8, ground := Ground.phase }, { on := 9, ground := Ground.phase }, { on := 10, ground := Ground.phase }, { on := 11, ground := Ground.phase }, { on := 12, ground := Ground.phase }, { on := 13, ground := Ground.phase }, { on := 14, ground := Ground.phase }, { on := 15, ground := Ground.phase }], guard := none }) rfl (by kernel_rfl) (fun K hK => ?_)
      rw [if_pos (by rfl)]
      refine wp_store_mid 25 _ _ rfl E (3 + (k + 1) * 32) (y.map ub).toArray rfl rfl HTH.out HI1.out HN1.out ?_
      have HK6 : Hid (TabAt (w5.setCells E (3 + (k + 1) * 32) (y.map ub)) E 0 1 (tabK (k + 1))) := HK5.out.setR ((k + 1) * 32) y (tabK (k + 1)) (by rw [hkl1]; omega) (length_tabK (k + 1) (by omega)) HY.out
      have hG6 := grE_sets (y.map ub) (3 + (k + 1) * 32) w5 hG05
      have HS6 : Hid _ := (⟨HP.out _ hG6, HK6.out.range (k * 32) (er k) (fun j hj => tabK_at (k + 1) k (by omega) j (by omega))⟩ : (w5.setCells E (3 + (k + 1) * 32) (y.map ub)).cell? ⟨B, 0, none⟩ = some (.pointer (some ⟨E, 0, none⟩)) ∧ (w5.setCells E (3 + (k + 1) * 32) (y.map ub)).rangeAt E (3 + k * 32) ((er k).map ub))
      refine hK.out _ _ HS6.out (fun _ => ?_)
      clear hK K
      simp only [Act.put]
      refine wpAnyH_done (by kernel_rfl) ?_ _
      refine NoPanic.normal ?_
      clear HS6 HS5 HTH HI1 HO1 HN1 HK5
      generalize w5.setCells E (3 + (k + 1) * 32) (y.map ub) = V at HK6 hG6 ⊢
      go_wp2
      exact ⟨⟨k + 1, by omega, by go_num, HK6, hG6⟩, by simp [intOf]; omega⟩
    · obtain rfl : k = 64 := by omega
      have d0 : decide (((64 : Nat) : Int) < 64) = false := by simp
      go_wp2
      go_end0
      exact ⟨rfl, HK.out, hG⟩
end Go.Proofs.YtplhlhjakapaaaaDoor
