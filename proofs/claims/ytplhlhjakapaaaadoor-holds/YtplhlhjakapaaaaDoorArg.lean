/-
  A list of texts as an argument: what a walk has of it, and that it reads as it did.
-/
import Derived.Test.YtplhlhjakapaaaaDoorPick
import Derived.Test.YtplhlhjakapaaaaDoorLaid
import Derived.Deep.Strs
import Derived.SizedLaws
namespace Go.Proofs.YtplhlhjakapaaaaDoor
open Go Go.ChangeShapes Go.WideShapes Go.ChangeAt Go.RowKit Go.Deep

theorem cells9' : Tryd.prog.cellsOf 9 = 1 := by kernel_rfl
theorem bytes9' : Tryd.prog.bytesOf 9 = 16 := by kernel_rfl

/-- The texts of a reading. -/
def textsOf {H : Type} : DataW H → List (List UInt8)
  | .slice es _ => es.map fun | .lit (.string s) => s | _ => []
  | _ => []

theorem weights_all {H : Type} {P : Program} {e : TypeId} : ∀ {ds : List (DataW H)} {d : DataW H}, d ∈ ds → ∀ n ∈ d.weights P e, n ∈ DataW.weightsAll P e ds
  | [], _, h, _, _ => by cases h
  | x :: ds, d, h, n, hn => by
    rw [DataW.weightsAll]
    rcases List.mem_cons.1 h with rfl | h
    · exact List.mem_append_left _ hn
    · exact List.mem_append_right _ (weights_all h n hn)

set_option maxRecDepth 100000 in
theorem strs_arg {H : Type} {enc : TypeId × Value → H} {W : World} {b0 : Nat} {v : Value} {d : DataW H} {p : List MemPlace} (hval : Value.okWide Tryd.prog W .any b0 30 v) (h : DataW.Trod enc Tryd.prog W 0 (fun _ => true) true 30 v d p) :
    StrsIs W v (textsOf d) ∧ (∀ W', W.grownBy W' none → ∀ sp : Nat → Bool, (∀ q ∈ p, sp q.block = true) → DataW.Trod enc Tryd.prog W' 0 sp true 30 v d p) ∧
      ((d.weights Tryd.prog 30).all (· ≤ reachBytes) = true → (textsOf d).length < 140737488355328 ∧ ∀ s ∈ textsOf d, s.length < 140737488355328) := by
  obtain ⟨sp0, len, cap, rfl⟩ := okWide_slice Tryd.underlying30 hval
  obtain ⟨fuel, hf⟩ := h
  rcases open_strs Tryd.underlying30 Tryd.underlying9 cells9' hf with ⟨hcs, hx⟩ | ⟨a, len', cap', m, Sx, hcs, _, hl, hm, hmm, hx, hcell⟩
  · simp [Value.cells] at hcs
    obtain ⟨rfl, rfl, rfl⟩ := hcs
    simp only [Prod.mk.injEq] at hx
    obtain ⟨rfl, rfl⟩ := hx
    exact ⟨⟨_, _, rfl, Nat.le_refl _, fun h => absurd h (by simp [textsOf])⟩, fun W' _ sp _ => shut_slice_nil Tryd.underlying30, fun _ => ⟨by simp [textsOf], by simp [textsOf]⟩⟩
  simp [Value.cells] at hcs
  obtain ⟨rfl, rfl, rfl⟩ := hcs
  simp only [Prod.mk.injEq] at hx
  obtain ⟨rfl, rfl⟩ := hx
  simp only [if_true] at hmm
  obtain rfl : cap = m := hmm.symm
  have eT : textsOf (DataW.slice (H := H) ((List.range len).map fun i => .lit (.string (Sx i).data.toList)) ((List.range (cap - len)).map fun j => .lit (.string (Sx (len + j)).data.toList))) = (List.range len).map fun i => (Sx i).data.toList := by
    simp [textsOf]
  rw [eT]
  have hw : ∀ (hwt : ((DataW.slice (H := H) ((List.range len).map fun i => .lit (.string (Sx i).data.toList)) ((List.range (cap - len)).map fun j => .lit (.string (Sx (len + j)).data.toList))).weights Tryd.prog 30).all (· ≤ reachBytes) = true),
      ((List.range len).map fun i => (Sx i).data.toList).length < 140737488355328 ∧ ∀ s ∈ (List.range len).map fun i => (Sx i).data.toList, s.length < 140737488355328 := fun hwt => by
    simp only [DataW.weights, Tryd.underlying30, List.all_cons, List.all_append, Bool.and_eq_true, decide_eq_true_eq, bytes9', List.length_map, List.length_range] at hwt
    have hr : reachBytes < 140737488355328 := by decide
    refine ⟨by simp; omega, fun s hs => ?_⟩
    obtain ⟨i, hi, rfl⟩ := List.mem_map.1 hs
    have := List.all_eq_true.1 hwt.2.1 _ (weights_all (d := .lit (.string (Sx i).data.toList)) (List.mem_map.2 ⟨i, hi, rfl⟩) (Sx i).data.toList.length (by simp [DataW.weights]))
    simp only [decide_eq_true_eq] at this
    omega
  by_cases hc0 : cap = 0
  · subst hc0
    obtain rfl : len = 0 := by omega
    refine ⟨⟨some a, 0, by simp, by simp, fun h => absurd h (by simp)⟩, fun W' _ sp _ => ?_, hw⟩
    show ∃ n, DataW.trod enc Tryd.prog W' 0 sp true n 30 [.slice (some a) 0 0] = some _
    cases hsp : sp a.block
    · simpa [MemPlace.row] using shut_slice_cells (enc := enc) (w := W') (base := 0) (spare := sp) (held := true) (a := a) (len := 0) (cap := 0) Tryd.underlying30 (Nat.zero_le _) (Nat.le_refl _) (Nat.zero_le _) hsp (fun _ => .nil) (fun _ => []) (fun i hi => absurd hi (Nat.not_lt_zero _))
    · simpa [MemPlace.row] using shut_slice_whole_cells (enc := enc) (w := W') (base := 0) (spare := sp) (held := true) (a := a) (len := 0) (cap := 0) Tryd.underlying30 (Nat.zero_le _) (Nat.le_refl _) (Nat.zero_le _) hsp (fun _ => .nil) (fun _ => []) (fun i hi => absurd hi (Nat.not_lt_zero _))
  obtain ⟨b, off, spot⟩ := a
  have hspot : spot = none := by simpa [Addr.add] using World.cell?_spot (hcell 0 (by omega)).1
  subst hspot
  have hcell' : ∀ j, j < cap → W.cell? ⟨b, off + j, none⟩ = some (.string (Sx j)) ∧ (Sx j).size ≤ maxLen := fun j hj => by rw [← add_plain]; exact hcell j hj
  have hbW : b < W.heap.size := World.block_lt_of_cell? _ _ (hcell' 0 (by omega)).1
  refine ⟨⟨some ⟨b, off, none⟩, cap, by simp, by simpa using hl, fun _ => ⟨b, off, rfl, hbW, fun k s hk => ?_⟩⟩, fun W' hG sp hsp => ?_, hw⟩
  · have hkl : k < len := by simpa using (List.getElem?_eq_some_iff.1 hk).1
    simp [hkl] at hk
    subst hk
    exact (hcell' k (by omega)).1
  · exact shut_strs_whole (enc := enc) (w := W') (base := 0) (spare := sp) (held := true) Tryd.underlying30 Tryd.underlying9 cells9' (b := b) (off := off) (len := len) (cap := cap) (Nat.zero_le _) hl hm (hsp _ (MemPlace.mem_row.2 ⟨0, by omega, rfl⟩)) Sx
      (fun i hi => (gr_cell hG (p := ⟨b, off + i, none⟩) hbW).trans (hcell' i hi).1) (fun i hi => (hcell' i hi).2)
end Go.Proofs.YtplhlhjakapaaaaDoor
