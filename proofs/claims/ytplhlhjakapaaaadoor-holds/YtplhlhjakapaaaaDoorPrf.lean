/-
  A proof in a block of its own, its parts written.
-/
import Derived.Test.YtplhlhjakapaaaaDoorLeadR
import Derived.Test.YtplhlhjakapaaaaDoorOnceB
import Derived.Test.YtplhlhjakapaaaaDoorOwn
namespace Go.Proofs.YtplhlhjakapaaaaDoor
open Go Go.RowKit

theorem u64_bits (o : BinOp) (a b : Int) : ∃ z : Nat, z < 18446744073709551616 ∧ bits o IntKind.u64 a b = (z : Int) := by
  have h : ∃ n : Int, bits o IntKind.u64 a b = n % 18446744073709551616 := by
    unfold bits
    split <;> exact ⟨_, rfl⟩
  obtain ⟨n, hn⟩ := h
  exact ⟨(n % 18446744073709551616).toNat, by omega, by rw [hn]; omega⟩

/-- A proof's cells lie in block B. -/
def PrfAt (w : World) (B mask : Nat) (path : Value) (taken : Bool) (pk pv : List UInt8) : Prop :=
  pk.length = 32 ∧ pv.length = 32 ∧ w.heap[B]? = some (.cells (proofC mask path taken pk pv).toArray 76 (0, 0))

theorem setL_mid (a b c x : List Value) (h : b.length = x.length) : setL (a ++ (b ++ c)) a.length x = a ++ (x ++ c) := by
  refine List.ext_getElem? fun j => ?_
  rw [setL_at _ _ _ _ (by simp; omega)]
  by_cases h1 : j < a.length
  · rw [if_neg (by omega), List.getElem?_append_left h1, List.getElem?_append_left h1]
  · have h1' : a.length ≤ j := by omega
    by_cases h2 : j - a.length < x.length
    · rw [if_pos (by omega), List.getElem?_append_right h1', List.getElem?_append_left h2]
    · have h2' : x.length ≤ j - a.length := by omega
      rw [if_neg (by omega), List.getElem?_append_right h1', List.getElem?_append_right (l₁ := b) (by omega), List.getElem?_append_right (l₁ := a) h1', List.getElem?_append_right (l₁ := x) h2', h]

theorem PrfAt.mask {w : World} {B mask : Nat} {path : Value} {taken : Bool} {pk pv : List UInt8} (h : PrfAt w B mask path taken pk pv) (m : Nat) : PrfAt (w.setCell ⟨B, 0, none⟩ (.int .u64 (m : Int))) B m path taken pk pv :=
  ⟨h.1, h.2.1, by rw [heap_setCell_same w B 0 _ 76 _ h.2.2]; simp [proofC]⟩
theorem PrfAt.path {w : World} {B mask : Nat} {path : Value} {taken : Bool} {pk pv : List UInt8} (h : PrfAt w B mask path taken pk pv) (p : Value) : PrfAt (w.setCell ⟨B, 1, none⟩ p) B mask p taken pk pv :=
  ⟨h.1, h.2.1, by rw [heap_setCell_same w B 1 _ 76 _ h.2.2]; simp [proofC]⟩
theorem PrfAt.taken {w : World} {B mask : Nat} {path : Value} {taken : Bool} {pk pv : List UInt8} (h : PrfAt w B mask path taken pk pv) (t : Bool) : PrfAt (w.setCell ⟨B, 2, none⟩ (.bool t)) B mask path t pk pv :=
  ⟨h.1, h.2.1, by rw [heap_setCell_same w B 2 _ 76 _ h.2.2]; simp [proofC]⟩
theorem PrfAt.key {w : World} {B mask : Nat} {path : Value} {taken : Bool} {pk pv : List UInt8} (h : PrfAt w B mask path taken pk pv) (x : List UInt8) (hx : x.length = 32) : PrfAt (w.setCells B 3 (x.map ub)) B mask path taken x pv := by
  refine ⟨hx, h.2.1, ?_⟩
  rw [heap_setCells B 76 _ _ w _ h.2.2]
  have := setL_mid [.int .u64 (mask : Int), path, .bool taken] (pk.map ub) (pv.map ub) (x.map ub) (by simp [hx, h.1])
  rw [proofC, show (Value.int .u64 (mask : Int) :: path :: Value.bool taken :: (pk.map ub ++ pv.map ub)) = [.int .u64 (mask : Int), path, .bool taken] ++ (pk.map ub ++ pv.map ub) from rfl]
  exact congrArg (fun l : List Value => some (Obj.cells l.toArray 76 (0, 0))) this
theorem PrfAt.val {w : World} {B mask : Nat} {path : Value} {taken : Bool} {pk pv : List UInt8} (h : PrfAt w B mask path taken pk pv) (x : List UInt8) (hx : x.length = 32) : PrfAt (w.setCells B 35 (x.map ub)) B mask path taken pk x := by
  refine ⟨h.1, hx, ?_⟩
  rw [heap_setCells B 76 _ _ w _ h.2.2]
  have := setL_mid ([.int .u64 (mask : Int), path, .bool taken] ++ pk.map ub) (pv.map ub) [] (x.map ub) (by simp [hx, h.2.1])
  rw [List.append_nil, List.append_nil, show ([Value.int .u64 (mask : Int), path, .bool taken] ++ pk.map ub).length = 35 by simp [h.1], List.append_assoc, List.append_assoc] at this
  rw [proofC, show (Value.int .u64 (mask : Int) :: path :: Value.bool taken :: (pk.map ub ++ pv.map ub)) = [.int .u64 (mask : Int), path, .bool taken] ++ (pk.map ub ++ pv.map ub) from rfl]
  exact congrArg (fun l : List Value => some (Obj.cells l.toArray 76 (0, 0))) this
theorem PrfAt.byte {w : World} {B mask : Nat} {path : Value} {taken : Bool} {pk pv : List UInt8} (h : PrfAt w B mask path taken pk pv) (j : Nat) (hj : j < 32) (z : UInt8) : PrfAt (w.setCell ⟨B, 3 + j, none⟩ (ub z)) B mask path taken (pk.set j z) pv := by
  refine ⟨by simpa using h.1, h.2.1, ?_⟩
  rw [heap_setCell_same w B (3 + j) _ 76 _ h.2.2]
  congr 2
  rw [proofC, proofC, show 3 + j = j + 1 + 1 + 1 by omega]
  simp only [List.setIfInBounds_toArray, List.set_cons_succ]
  rw [List.set_append_left _ _ (by simpa [h.1] using hj), List.map_set]
theorem PrfAt.gr {w V : World} {B mask : Nat} {path : Value} {taken : Bool} {pk pv : List UInt8} (h : PrfAt w B mask path taken pk pv) (g : w.grownBy V none) : PrfAt V B mask path taken pk pv :=
  ⟨h.1, h.2.1, (g.block _ (Array.getElem?_eq_some_iff.1 h.2.2).1 (by simp)).trans h.2.2⟩
theorem PrfAt.lt {w : World} {B mask : Nat} {path : Value} {taken : Bool} {pk pv : List UInt8} (h : PrfAt w B mask path taken pk pv) : B < w.heap.size := (Array.getElem?_eq_some_iff.1 h.2.2).1
theorem PrfAt.c0 {w : World} {B mask : Nat} {path : Value} {taken : Bool} {pk pv : List UInt8} (h : PrfAt w B mask path taken pk pv) : w.cell? ⟨B, 0, none⟩ = some (.int .u64 (mask : Int)) := by rw [cell_of_row w _ _ _ _ _ h.2.2]; rfl
theorem PrfAt.c1 {w : World} {B mask : Nat} {path : Value} {taken : Bool} {pk pv : List UInt8} (h : PrfAt w B mask path taken pk pv) : w.cell? ⟨B, 1, none⟩ = some path := by rw [cell_of_row w _ _ _ _ _ h.2.2]; rfl
theorem PrfAt.c2 {w : World} {B mask : Nat} {path : Value} {taken : Bool} {pk pv : List UInt8} (h : PrfAt w B mask path taken pk pv) : w.cell? ⟨B, 2, none⟩ = some (.bool taken) := by rw [cell_of_row w _ _ _ _ _ h.2.2]; rfl
theorem PrfAt.fr {w : World} {B mask : Nat} {path : Value} {taken : Bool} {pk pv : List UInt8} (h : PrfAt w B mask path taken pk pv) (j : Nat) : w.frozen? ⟨B, j, none⟩ = false := frozen_of_row w _ _ _ _ h.2.2
theorem PrfAt.there {w : World} {B mask : Nat} {path : Value} {taken : Bool} {pk pv : List UInt8} (h : PrfAt w B mask path taken pk pv) (o : Nat) (ho : o + 32 ≤ 67) : w.there B o 32 := fun j hj => by
  refine ⟨?_, h.fr _⟩
  rw [cell_of_row w _ _ _ _ _ h.2.2, List.getElem?_toArray, List.getElem?_eq_getElem (by simp [proofC, h.1, h.2.1]; omega)]
  rfl
theorem PrfAt.rangeK {w : World} {B mask : Nat} {path : Value} {taken : Bool} {pk pv : List UInt8} (h : PrfAt w B mask path taken pk pv) : w.rangeAt B 3 (pk.map ub) := fun j u hj => by
  rw [cell_of_row w _ _ _ _ _ h.2.2, List.getElem?_toArray, proofC, show 3 + j = j + 1 + 1 + 1 by omega, List.getElem?_cons_succ, List.getElem?_cons_succ, List.getElem?_cons_succ, List.getElem?_append_left (List.getElem?_eq_some_iff.1 hj).1]; exact hj
theorem info76p {mask : Nat} {path : Value} {taken : Bool} {pk pv : List UInt8} (hk : pk.length = 32) (hv : pv.length = 32) : (Tryd.prog.info? 76).map (·.size) = some (proofC mask path taken pk pv).toArray.size := by
  rw [show (proofC mask path taken pk pv).toArray.size = 67 by simp [proofC, hk, hv]]; kernel_rfl

/-- A list of hashes of one's own stands when a proof's block is written. -/
theorem SumsOwn.put {w V : World} {base B : Nat} {v : Value} {ps : List (List UInt8)} {C : Array Value} (h : SumsOwn w base v ps) (hB : w.heap[B]? = some (.cells C 76 (0, 0))) (hV : ∀ k, k ≠ B → V.heap[k]? = w.heap[k]?) : SumsOwn V base v ps := by
  obtain ⟨h32, hn, hl, h0 | ⟨g, cap, cur, hv, hb, hh, rest⟩⟩ := h
  · exact ⟨h32, hn, hl, Or.inl h0⟩
  · refine ⟨h32, hn, hl, Or.inr ⟨g, cap, cur, hv, hb, (hV g (fun e => ?_)).trans hh, rest⟩⟩
    subst e
    rw [hB] at hh
    have := Option.some.inj hh
    injection this with _ ht
    cases ht
theorem gr_sets {a : World} {B : Nat} (hB : a.heap.size ≤ B) : ∀ (vs : List Value) (o : Nat) (b : World), a.grownBy b none → a.grownBy (b.setCells B o vs) none
  | [], _, _, h => h
  | v :: vs, o, b, h => by rw [World.setCells]; exact gr_sets hB vs _ _ (gr_at h hB o v)
theorem zero76 : Tryd.zeroCells76 = (proofC 0 (.slice none 0 0) false (List.replicate 32 0) (List.replicate 32 0)).toArray := by kernel_rfl
end Go.Proofs.YtplhlhjakapaaaaDoor
