import Derived.Test.YtplhlhjakapaaaaDoorEqH
namespace Go.Proofs.YtplhlhjakapaaaaDoor
open Go Go.RowKit

/-- A slice of slices of bytes. -/
def PiecesAre (w : World) (v : Value) (bss : List (List UInt8)) : Prop :=
  ∃ g o cap, v = .slice (some ⟨g, o, none⟩) bss.length cap ∧ bss.length ≤ cap ∧ g < w.heap.size ∧ ∀ k bs, bss[k]? = some bs → ∃ u, w.cell? ⟨g, o + k, none⟩ = some u ∧ SliceIs w u bs

set_option maxHeartbeats 2000000 in
set_option maxRecDepth 100000 in
theorem marked_any (mark : UInt8) (bss : List (List UInt8)) (v : Value) (w : World) (hw : 1 < w.heap.size) (hT : Tab w) (hv : PiecesAre w v bss) (hn : bss.length < 1000000000) (hlen : bss.flatten.length < 1152921504606840000) :
    Calls Tryd.prog 95 #[ub mark, v] w fun e w' => e = .returned (.agg ((sha (mark :: bss.flatten)).map ub).toArray) ∧ w.grownBy w' none := by
  obtain ⟨g, o, cap, rfl, hcap, hg, hpc⟩ := hv
  have HT : Hid (Tab w) := hT
  have HP : Hid _ := hpc
  clear hT hpc
  go_enter Tryd.func95, Tryd.ntmps95
  go_wp2_with fail
  refine (begin_any _).mono ?_
  rintro e w1 ⟨rfl, hG1⟩
  generalize eR : hrow H0 (List.replicate 64 0) 0 = R0
  have ER : Hid (hrow H0 (List.replicate 64 0) 0 = R0) := eR
  have HI : Hid ((Tryd.prog.info? 122).map (·.size) = some R0.toArray.size) := by rw [← eR]; exact info104
  have H1 : Hid (R0.toArray.all (·.oneCell') = true) := by rw [← eR]; exact one104
  have H2 : Hid (Tryd.zeroCells122.size = R0.toArray.size) := by rw [← eR]; exact zero104
  clear eR
  go_wp2_with (refine store_new rfl 122 _ _ rfl _ _ _ rfl rfl HI.out H2.out H1.out ?_; intro W2 hW2 hs2 hG2)
  have hA := gr_alloc w (Obj.cells (brow 32 []).toArray 25)
  have hG01 : w.grownBy w1 none := gr_trans hA hG1
  have hG02 : w.grownBy W2 none := gr_trans hG01 hG2
  have hs1 : w.heap.size + 1 ≤ w1.heap.size := by have := hG1.size; simpa using this
  have hrow0 : W2.heap[w.heap.size]? = some (.cells (brow 32 []).toArray 25 (0, 0)) :=
    (hG2.block _ (by omega) (by simp)).trans ((hG1.block _ (by simp) (by simp)).trans (heap_alloc_new _ _))
  have hG23 := gr_alloc W2 (Obj.cells #[ub mark] 5)
  have hG03 : w.grownBy (W2.alloc (Obj.cells #[ub mark] 5)) none := gr_trans hG02 hG23
  have hH : HasherIs (W2.alloc (Obj.cells #[ub mark] 5)) w1.heap.size [] := ⟨H0, List.replicate 64 0, by rw [hG23.block _ (by omega) (by simp), hW2, ← ER.out]; rfl, rep_new⟩
  have hwr := write_any w1.heap.size [] [mark] (some ⟨w1.heap.size + 1, 0, none⟩) 1 _ (by omega) (HT.out.gr hG03 hw) hH (by simp) (by simp) (fun _ => ⟨w1.heap.size + 1, 0, rfl, by omega, by simp; omega, fun j hj => by
    obtain rfl : j = 0 := by simp at hj; omega
    rw [← hs2, cell_of_row _ _ _ _ _ _ (heap_alloc_new _ _)]; rfl⟩)
  have hrow1 : (W2.alloc (Obj.cells #[ub mark] 5)).heap[w.heap.size]? = some (.cells (brow 32 []).toArray 25 (0, 0)) := (hG23.block _ (by omega) (by simp)).trans hrow0
  have hs3 : w1.heap.size + 1 < (W2.alloc (Obj.cells #[ub mark] 5)).heap.size := by simp; omega
  generalize W2.alloc (Obj.cells #[ub mark] 5) = W3 at hG23 hG03 hH hwr hrow1 hs3 ⊢
  refine hwr.mono ?_
  rintro e w3 ⟨rfl, hH3, hG3⟩
  clear hwr
  have hG04 : w.grownBy w3 none := gr_some hG03 hG3 (by omega)
  have hrow3 : w3.heap[w.heap.size]? = some (.cells (brow 32 []).toArray 25 (0, 0)) := (hG3.block _ (by omega) (by simp; omega)).trans hrow1
  have HH3 : Hid (HasherIs w3 w1.heap.size [mark]) := hH3
  generalize w1.heap.size = h at *
  clear hW2 hrow0 hH hG23 hG03 hG02 hG01 hG2 hG1 hA hrow1 hs3 hH3 hG3 hs2 HI H1 H2 ER
  go_wp2
  generalize hm : bss.length = m at hcap hn ⊢
  go_loopw [14] (fun i wr => ∃ k : Nat, k ≤ m ∧ i = .int .i64 (k : Int) ∧ Hid (HasherIs wr h (mark :: (bss.take k).flatten)) ∧ w.grownBy wr none ∧ wr.heap[w.heap.size]? = some (.cells (brow 32 []).toArray 25 (0, 0)))
    (fun i _ => m - (intOf i).toNat)
  case atStart => exact ⟨0, by omega, rfl, by simpa using HH3, hG04, hrow3⟩
  case round =>
    clear hG04 hrow3 HH3
    obtain ⟨k, hk, rfl, HH, hG, hrow⟩ := hrel
    by_cases hlt : k < m
    · have hkl : k < bss.length := by omega
      obtain ⟨u, hu, hsl⟩ := HP.out k bss[k] (List.getElem?_eq_getElem hkl)
      have hu' : wr.cell? ⟨g, o + k, none⟩ = some u := (gr_cell hG (p := ⟨g, o + k, none⟩) hg).trans hu
      obtain ⟨sp, cp, rfl, hcp, hsp⟩ := hsl
      have hb : decide ((k : Int) < (m : Int)) = true := by simp; omega
      have hb0 : (0 : Int) ≤ (k : Int) := by omega
      have hb1 : (k : Int) < (m : Int) := by omega
      clear hu
      have HSP : Hid _ := hsp
      clear hsp
      go_wp2_with fail
      have htk : (bss.take (k + 1)).flatten = (bss.take k).flatten ++ bss[k] := by
        have e : bss.take (k + 1) = bss.take k ++ [bss[k]] := by rw [List.take_add_one, List.getElem?_eq_getElem hkl]; rfl
        rw [e, List.flatten_append]; simp only [List.flatten_cons, List.flatten_nil, List.append_nil]
      have hll : (bss.take k).flatten.length + bss[k].length ≤ bss.flatten.length := by
        rw [← List.length_append, ← htk]
        conv => rhs; rw [← List.take_append_drop (k + 1) bss, List.flatten_append, List.length_append]
        omega
      have hwr := write_any h (mark :: (bss.take k).flatten) bss[k] sp cp wr (by omega) (HT.out.gr hG hw) HH.out (by rw [List.length_cons]; omega) hcp (fun h0 => by
        obtain ⟨sb, so, h1, h2, h3⟩ := HSP.out h0
        have := hG.size
        exact ⟨sb, so, h1, by omega, by omega, fun j hj => (gr_cell hG (p := ⟨sb, so + j, none⟩) h2).trans (h3 j hj)⟩)
      refine hwr.mono ?_
      rintro e w4 ⟨rfl, hH4, hG4⟩
      clear hwr
      rw [List.cons_append, ← htk] at hH4
      have HH4 : Hid _ := hH4
      have hG5 : w.grownBy w4 none := gr_some hG hG4 (by omega)
      have hs3 : w.heap.size < wr.heap.size := (Array.getElem?_eq_some_iff.1 hrow).1
      have hrow5 : w4.heap[w.heap.size]? = some (.cells (brow 32 []).toArray 25 (0, 0)) := (hG4.block _ hs3 (by simp; omega)).trans hrow
      clear hH4 HH hG4 hG hrow hll htk
      go_wp2
      exact ⟨⟨k + 1, by omega, by go_num, HH4, hG5, hrow5⟩, by simp [intOf]; omega⟩
    · have hge : decide ((k : Int) < (m : Int)) = false := by simp; omega
      obtain rfl : k = m := by omega
      have hH := HH.out
      rw [← hm, List.take_length] at hH
      have hlM : (mark :: bss.flatten).length < 1152921504606846000 := by rw [List.length_cons]; omega
      have hs3 : w.heap.size < wr.heap.size := (Array.getElem?_eq_some_iff.1 hrow).1
      have hfi := finish_any h (mark :: bss.flatten) wr (by omega) (HT.out.gr hG hw) hH hlM
      clear hH hlM HH
      go_wp2_with fail
      refine hfi.mono ?_
      rintro e w4 ⟨s, blk, hrep, rfl, hG4⟩
      clear hfi
      have hsha : toldL s = sha (mark :: bss.flatten) := by rw [sha, hrep.state]
      rw [hsha]
      clear hsha
      generalize eb : mark :: bss.flatten = bs at *
      have hG04 : w.grownBy w4 none := gr_some hG hG4 (by omega)
      have hrow4 : w4.heap[w.heap.size]? = some (.cells (brow 32 []).toArray 25 (0, 0)) := (hG4.block _ hs3 (by simp; omega)).trans hrow
      have hl := length_sha bs
      have HI : Hid ((Tryd.prog.info? 25).map (·.size) = some ((sha bs).map ub).toArray.size) := info25 _ (by simp [hl])
      have HO : Hid ((brow 32 []).toArray.size = ((sha bs).map ub).toArray.size) := by
        show _ = _
        rw [List.size_toArray, List.size_toArray, length_brow _ _ (by simp)]; simp [hl]
      have HN : Hid (((sha bs).map ub).toArray.all (·.oneCell') = true) := by
        show _ = _
        rw [← brow_full _ _ hl]; exact brow_one _ _
      clear hl hrep
      go_wp2_with (refine wpList_store_row rfl 25 _ _ rfl w.heap.size _ rfl rfl 25 _ hrow4 HI.out HO.out HN.out ?_)
      exact bodyPost_ret (v := .agg ((sha bs).map ub).toArray) (results_cell_row Tryd.results95 _ _ w.heap.size 25 _ (0, 0) _ rfl (setRow_heap w4 _ _ _ 25 _ hrow4) Tryd.underlying25 rfl HI.out) rfl ⟨by rw [eb], gr_row hG04 _ _ (Nat.le_refl _)⟩
end Go.Proofs.YtplhlhjakapaaaaDoor
