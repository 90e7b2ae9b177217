import Derived.Test.YtjgmmdgcknnlpaaDoorFin
namespace Go.Proofs.YtjgmmdgcknnlpaaDoor
open Go Go.RowKit

/-- The hash of bytes. -/
def sha (bs : List UInt8) : List UInt8 := toldL (mixN H0 (bs ++ padL bs.length) ((bs ++ padL bs.length).length / 64))
theorem length_sha (bs : List UInt8) : (sha bs).length = 32 := rfl
/-- Bytes that a slice holds. -/
def SliceIs (w : World) (v : Value) (bs : List UInt8) : Prop :=
  ∃ sp cap, v = .slice sp bs.length cap ∧ bs.length ≤ cap ∧ (0 < bs.length → ∃ sb so, sp = some ⟨sb, so, none⟩ ∧ sb < w.heap.size ∧ ∀ j, j < bs.length → w.cell? ⟨sb, so + j, none⟩ = some (ub (bs.getD j 0)))

theorem gr_refl (a : World) : a.grownBy a none := ⟨rfl, rfl, rfl, Nat.le_refl _, fun _ _ _ => rfl⟩
theorem gr_trans {a b c : World} (h : a.grownBy b none) (k : b.grownBy c none) : a.grownBy c none :=
  ⟨k.os.trans h.os, k.tape.trans h.tape, k.output.trans h.output, Nat.le_trans h.size k.size, fun j hj hn => (k.block j (Nat.lt_of_lt_of_le hj h.size) hn).trans (h.block j hj hn)⟩
theorem gr_some {a b c : World} {g : Nat} (h : a.grownBy b none) (k : b.grownBy c (some g)) (hg : a.heap.size ≤ g) : a.grownBy c none :=
  ⟨k.os.trans h.os, k.tape.trans h.tape, k.output.trans h.output, Nat.le_trans h.size k.size, fun j hj _ => (k.block j (Nat.lt_of_lt_of_le hj h.size) (by simp; omega)).trans (h.block j hj (by simp))⟩
theorem gr_alloc (w : World) (o : Obj) : w.grownBy (w.alloc o) none := ⟨rfl, rfl, rfl, by simp, fun j hj _ => Below.heap_alloc _ _ _ hj⟩
theorem gr_row {a b : World} (h : a.grownBy b none) (g : Nat) (cs : Array Value) (hg : a.heap.size ≤ g) : a.grownBy (b.setRow g cs) none :=
  ⟨h.os, h.tape, h.output, by rw [size_setRow]; exact h.size, fun j hj _ => (setRow_other b _ j _ (by omega)).trans (h.block j hj (by simp))⟩
theorem gr_below {a b : World} (h : a.grownBy b none) : Below a.heap.size a b := ⟨h.os, h.tape, h.output, h.size, fun j hj => h.block j hj (by simp)⟩
theorem gr_drew {a b : World} (h : a.grownBy b none) : a.grownBy b.drew none := ⟨h.os, h.tape, h.output, h.size, h.block⟩
theorem gr_cell {a b : World} (h : a.grownBy b none) {p : Addr} (hp : p.block < a.heap.size) : b.cell? p = a.cell? p := World.cell?_of_block (w := a) (h.block p.block hp (by simp))
theorem Tab.gr {a b : World} (ht : Tab a) (h : a.grownBy b none) (h1 : 1 < a.heap.size) : Tab b := fun j hj => (gr_cell h (p := ⟨1, j, none⟩) h1).trans (ht j hj)
theorem zero104 : Tryd.zeroCells122.size = (hrow H0 (List.replicate 64 0) 0).toArray.size := by kernel_rfl
theorem hasher_new : Rep [] H0 (List.replicate 64 0) := rep_new
theorem info104 : (Tryd.prog.info? 122).map (·.size) = some (hrow H0 (List.replicate 64 0) 0).toArray.size := by kernel_rfl
theorem one104 : (hrow H0 (List.replicate 64 0) 0).toArray.all (·.oneCell') = true := by kernel_rfl

set_option maxHeartbeats 1000000 in
set_option maxRecDepth 100000 in
theorem sum_any (bs : List UInt8) (v : Value) (w : World) (hw : 1 < w.heap.size) (hT : Tab w) (hv : SliceIs w v bs) (hlen : bs.length < 1152921504606846000) :
    Calls Tryd.prog 57 #[v] w fun e w' => e = .returned (.agg ((sha bs).map ub).toArray) ∧ w.grownBy w' none := by
  obtain ⟨sp, cap, rfl, hcap, hsp⟩ := hv
  have HT : Hid (Tab w) := hT
  have HSP : Hid _ := hsp
  clear hT hsp
  go_enter Tryd.func57, Tryd.ntmps57
  go_wp2_with fail
  refine (begin_any _).mono ?_
  rintro e w1 ⟨rfl, hG1⟩
  generalize eR : hrow H0 (List.replicate 64 0) 0 = R0
  have ER : Hid (hrow H0 (List.replicate 64 0) 0 = R0) := eR
  have HI : Hid ((Tryd.prog.info? 122).map (·.size) = some R0.toArray.size) := by rw [← eR]; exact info104
  have H1 : Hid (R0.toArray.all (·.oneCell') = true) := by rw [← eR]; exact one104
  have H2 : Hid (Tryd.zeroCells122.size = R0.toArray.size) := by rw [← eR]; exact zero104
  clear eR
  go_wp2_with (refine store_new rfl 122 _ _ rfl _ _ _ rfl rfl HI.out H2.out H1.out ?_; intro W2 hW2 hs2 hG2)
  have hA := gr_alloc w (Obj.cells (brow 32 []).toArray 25)
  have hG01 : w.grownBy w1 none := gr_trans hA hG1
  have hG02 : w.grownBy W2 none := gr_trans hG01 hG2
  have hs1 : w.heap.size + 1 ≤ w1.heap.size := by have := hG1.size; simpa using this
  have hrow0 : W2.heap[w.heap.size]? = some (.cells (brow 32 []).toArray 25 (0, 0)) :=
    (hG2.block _ (by omega) (by simp)).trans ((hG1.block _ (by simp) (by simp)).trans (heap_alloc_new _ _))
  have hH : HasherIs W2 w1.heap.size [] := ⟨H0, List.replicate 64 0, by rw [hW2, ← ER.out]; rfl, rep_new⟩
  have hT2 : Tab W2 := HT.out.gr hG02 hw
  have hwr := write_any w1.heap.size [] bs sp cap W2 (by omega) hT2 hH (by simp; omega) hcap (fun h0 => by
    obtain ⟨sb, so, h1, h2, h3⟩ := HSP.out h0
    exact ⟨sb, so, h1, by omega, by omega, fun j hj => (gr_cell hG02 (p := ⟨sb, so + j, none⟩) h2).trans (h3 j hj)⟩)
  refine hwr.mono ?_
  rintro e w3 ⟨rfl, hH3, hG3⟩
  clear hwr
  have hG03 : w.grownBy w3 none := gr_some hG02 hG3 (by omega)
  have hT3 : Tab w3 := HT.out.gr hG03 hw
  have hrow3 : w3.heap[w.heap.size]? = some (.cells (brow 32 []).toArray 25 (0, 0)) := (hG3.block _ (by omega) (by simp; omega)).trans hrow0
  have hs3 : w.heap.size < w3.heap.size := (Array.getElem?_eq_some_iff.1 hrow3).1
  clear hW2 hrow0 hH hT2
  have hfi := finish_any w1.heap.size bs w3 (by omega) hT3 hH3 hlen
  have HT3 : Hid _ := hT3
  have HH3 : Hid _ := hH3
  clear hT3 hH3
  go_wp2_with fail
  refine hfi.mono ?_
  rintro e w4 ⟨s, blk, hrep, rfl, hG4⟩
  clear hfi
  have hsha : toldL s = sha bs := by rw [sha, hrep.state]
  rw [hsha]
  clear hsha
  have hG04 : w.grownBy w4 none := gr_some hG03 hG4 (by omega)
  have hrow4 : w4.heap[w.heap.size]? = some (.cells (brow 32 []).toArray 25 (0, 0)) := (hG4.block _ hs3 (by simp; omega)).trans hrow3
  have hl := length_sha bs
  have HI : Hid ((Tryd.prog.info? 25).map (·.size) = some ((sha bs).map ub).toArray.size) := info25 _ (by simp [hl])
  have HO : Hid ((brow 32 []).toArray.size = ((sha bs).map ub).toArray.size) := by
    show _ = _
    rw [List.size_toArray, List.size_toArray, length_brow _ _ (by simp)]; simp [hl]
  have HN : Hid (((sha bs).map ub).toArray.all (·.oneCell') = true) := by
    show _ = _
    rw [← brow_full _ _ hl]; exact brow_one _ _
  clear hl
  go_wp2_with (refine wpList_store_row rfl 25 _ _ rfl w.heap.size _ rfl rfl 25 _ hrow4 HI.out HO.out HN.out ?_)
  exact bodyPost_ret (v := .agg ((sha bs).map ub).toArray) (results_cell_row Tryd.results57 _ _ w.heap.size 25 _ (0, 0) _ rfl (setRow_heap w4 _ _ _ 25 _ hrow4) Tryd.underlying25 rfl HI.out) rfl ⟨rfl, gr_row hG04 _ _ (Nat.le_refl _)⟩
end Go.Proofs.YtjgmmdgcknnlpaaDoor
