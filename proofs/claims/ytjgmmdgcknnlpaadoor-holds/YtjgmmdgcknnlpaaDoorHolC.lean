import Derived.Test.YtjgmmdgcknnlpaaDoorPost
import Derived.Shelf.Small.Bits
import Derived.Lib.ItoaNum

namespace Go.Proofs.YtjgmmdgcknnlpaaDoor
open Go Go.RowKit

/-- A slice of slices of bytes. -/
def PiecesAre (w : World) (v : Value) (bss : List (List UInt8)) : Prop :=
  ∃ g o cap, v = .slice (some ⟨g, o, none⟩) bss.length cap ∧ bss.length ≤ cap ∧ g < w.heap.size ∧ ∀ k bs, bss[k]? = some bs → ∃ u, w.cell? ⟨g, o + k, none⟩ = some u ∧ SliceIs w u bs

set_option maxHeartbeats 2000000 in
set_option maxRecDepth 100000 in
theorem marked_any (mark : UInt8) (bss : List (List UInt8)) (v : Value) (w : World) (hw : 1 < w.heap.size) (hT : Tab w) (hv : PiecesAre w v bss) (hn : bss.length < 1000000000) (hlen : bss.flatten.length < 1152921504606840000) :
    Calls Tryd.prog 95 #[ub mark, v] w fun e w' => e = .returned (.agg ((sha (mark :: bss.flatten)).map ub).toArray) ∧ w.grownBy w' none := by
  obtain ⟨g, o, cap, rfl, hcap, hg, hpc⟩ := hv
  have HT : Hid (Tab w) := hT
  have HP : Hid _ := hpc
  clear hT hpc
  go_enter Tryd.func95, Tryd.ntmps95
  go_wp2_with fail
  refine (begin_any _).mono ?_
  rintro e w1 ⟨rfl, hG1⟩
  generalize eR : hrow H0 (List.replicate 64 0) 0 = R0
  have ER : Hid (hrow H0 (List.replicate 64 0) 0 = R0) := eR
  have HI : Hid ((Tryd.prog.info? 122).map (·.size) = some R0.toArray.size) := by rw [← eR]; exact info104
  have H1 : Hid (R0.toArray.all (·.oneCell') = true) := by rw [← eR]; exact one104
  have H2 : Hid (Tryd.zeroCells122.size = R0.toArray.size) := by rw [← eR]; exact zero104
  clear eR
  go_wp2_with (refine store_new rfl 122 _ _ rfl _ _ _ rfl rfl HI.out H2.out H1.out ?_; intro W2 hW2 hs2 hG2)
  have hA := gr_alloc w (Obj.cells (brow 32 []).toArray 25)
  have hG01 : w.grownBy w1 none := gr_trans hA hG1
  have hG02 : w.grownBy W2 none := gr_trans hG01 hG2
  have hs1 : w.heap.size + 1 ≤ w1.heap.size := by have := hG1.size; simpa using this
  have hrow0 : W2.heap[w.heap.size]? = some (.cells (brow 32 []).toArray 25 (0, 0)) :=
    (hG2.block _ (by omega) (by simp)).trans ((hG1.block _ (by simp) (by simp)).trans (heap_alloc_new _ _))
  have hG23 := gr_alloc W2 (Obj.cells #[ub mark] 5)
  have hG03 : w.grownBy (W2.alloc (Obj.cells #[ub mark] 5)) none := gr_trans hG02 hG23
  have hH : HasherIs (W2.alloc (Obj.cells #[ub mark] 5)) w1.heap.size [] := ⟨H0, List.replicate 64 0, by rw [hG23.block _ (by omega) (by simp), hW2, ← ER.out]; rfl, rep_new⟩
  have hwr := write_any w1.heap.size [] [mark] (some ⟨w1.heap.size + 1, 0, none⟩) 1 _ (by omega) (HT.out.gr hG03 hw) hH (by simp) (by simp) (fun _ => ⟨w1.heap.size + 1, 0, rfl, by omega, by simp; omega, fun j hj => by
    obtain rfl : j = 0 := by simp at hj; omega
    rw [← hs2, cell_of_row _ _ _ _ _ _ (heap_alloc_new _ _)]; rfl⟩)
  have hrow1 : (W2.alloc (Obj.cells #[ub mark] 5)).heap[w.heap.size]? = some (.cells (brow 32 []).toArray 25 (0, 0)) := (hG23.block _ (by omega) (by simp)).trans hrow0
  have hs3 : w1.heap.size + 1 < (W2.alloc (Obj.cells #[ub mark] 5)).heap.size := by simp; omega
  generalize W2.alloc (Obj.cells #[ub mark] 5) = W3 at hG23 hG03 hH hwr hrow1 hs3 ⊢
  refine hwr.mono ?_
  rintro e w3 ⟨rfl, hH3, hG3⟩
  clear hwr
  have hG04 : w.grownBy w3 none := gr_some hG03 hG3 (by omega)
  have hrow3 : w3.heap[w.heap.size]? = some (.cells (brow 32 []).toArray 25 (0, 0)) := (hG3.block _ (by omega) (by simp; omega)).trans hrow1
  have HH3 : Hid (HasherIs w3 w1.heap.size [mark]) := hH3
  generalize w1.heap.size = h at *
  clear hW2 hrow0 hH hG23 hG03 hG02 hG01 hG2 hG1 hA hrow1 hs3 hH3 hG3 hs2 HI H1 H2 ER
  go_wp2
  generalize hm : bss.length = m at hcap hn ⊢
  go_loopw [14] (fun i wr => ∃ k : Nat, k ≤ m ∧ i = .int .i64 (k : Int) ∧ Hid (HasherIs wr h (mark :: (bss.take k).flatten)) ∧ w.grownBy wr none ∧ wr.heap[w.heap.size]? = some (.cells (brow 32 []).toArray 25 (0, 0)))
    (fun i _ => m - (intOf i).toNat)
  case atStart => exact ⟨0, by omega, rfl, by simpa using HH3, hG04, hrow3⟩
  case round =>
    clear hG04 hrow3 HH3
    obtain ⟨k, hk, rfl, HH, hG, hrow⟩ := hrel
    by_cases hlt : k < m
    · have hkl : k < bss.length := by omega
      obtain ⟨u, hu, hsl⟩ := HP.out k bss[k] (List.getElem?_eq_getElem hkl)
      have hu' : wr.cell? ⟨g, o + k, none⟩ = some u := (gr_cell hG (p := ⟨g, o + k, none⟩) hg).trans hu
      obtain ⟨sp, cp, rfl, hcp, hsp⟩ := hsl
      have hb : decide ((k : Int) < (m : Int)) = true := by simp; omega
      have hb0 : (0 : Int) ≤ (k : Int) := by omega
      have hb1 : (k : Int) < (m : Int) := by omega
      clear hu
      have HSP : Hid _ := hsp
      clear hsp
      go_wp2_with fail
      have htk : (bss.take (k + 1)).flatten = (bss.take k).flatten ++ bss[k] := by
        have e : bss.take (k + 1) = bss.take k ++ [bss[k]] := by rw [List.take_add_one, List.getElem?_eq_getElem hkl]; rfl
        rw [e, List.flatten_append]; simp only [List.flatten_cons, List.flatten_nil, List.append_nil]
      have hll : (bss.take k).flatten.length + bss[k].length ≤ bss.flatten.length := by
        rw [← List.length_append, ← htk]
        conv => rhs; rw [← List.take_append_drop (k + 1) bss, List.flatten_append, List.length_append]
        omega
      have hwr := write_any h (mark :: (bss.take k).flatten) bss[k] sp cp wr (by omega) (HT.out.gr hG hw) HH.out (by rw [List.length_cons]; omega) hcp (fun h0 => by
        obtain ⟨sb, so, h1, h2, h3⟩ := HSP.out h0
        have := hG.size
        exact ⟨sb, so, h1, by omega, by omega, fun j hj => (gr_cell hG (p := ⟨sb, so + j, none⟩) h2).trans (h3 j hj)⟩)
      refine hwr.mono ?_
      rintro e w4 ⟨rfl, hH4, hG4⟩
      clear hwr
      rw [List.cons_append, ← htk] at hH4
      have HH4 : Hid _ := hH4
      have hG5 : w.grownBy w4 none := gr_some hG hG4 (by omega)
      have hs3 : w.heap.size < wr.heap.size := (Array.getElem?_eq_some_iff.1 hrow).1
      have hrow5 : w4.heap[w.heap.size]? = some (.cells (brow 32 []).toArray 25 (0, 0)) := (hG4.block _ hs3 (by simp; omega)).trans hrow
      clear hH4 HH hG4 hG hrow hll htk
      go_wp2
      exact ⟨⟨k + 1, by omega, by go_num, HH4, hG5, hrow5⟩, by simp [intOf]; omega⟩
    · have hge : decide ((k : Int) < (m : Int)) = false := by simp; omega
      obtain rfl : k = m := by omega
      have hH := HH.out
      rw [← hm, List.take_length] at hH
      have hlM : (mark :: bss.flatten).length < 1152921504606846000 := by rw [List.length_cons]; omega
      have hs3 : w.heap.size < wr.heap.size := (Array.getElem?_eq_some_iff.1 hrow).1
      have hfi := finish_any h (mark :: bss.flatten) wr (by omega) (HT.out.gr hG hw) hH hlM
      clear hH hlM HH
      go_wp2_with fail
      refine hfi.mono ?_
      rintro e w4 ⟨s, blk, hrep, rfl, hG4⟩
      clear hfi
      have hsha : toldL s = sha (mark :: bss.flatten) := by rw [sha, hrep.state]
      rw [hsha]
      clear hsha
      generalize eb : mark :: bss.flatten = bs at *
      have hG04 : w.grownBy w4 none := gr_some hG hG4 (by omega)
      have hrow4 : w4.heap[w.heap.size]? = some (.cells (brow 32 []).toArray 25 (0, 0)) := (hG4.block _ hs3 (by simp; omega)).trans hrow
      have hl := length_sha bs
      have HI : Hid ((Tryd.prog.info? 25).map (·.size) = some ((sha bs).map ub).toArray.size) := info25 _ (by simp [hl])
      have HO : Hid ((brow 32 []).toArray.size = ((sha bs).map ub).toArray.size) := by
        show _ = _
        rw [List.size_toArray, List.size_toArray, length_brow _ _ (by simp)]; simp [hl]
      have HN : Hid (((sha bs).map ub).toArray.all (·.oneCell') = true) := by
        show _ = _
        rw [← brow_full _ _ hl]; exact brow_one _ _
      clear hl hrep
      go_wp2_with (refine wpList_store_row rfl 25 _ _ rfl w.heap.size _ rfl rfl 25 _ hrow4 HI.out HO.out HN.out ?_)
      exact bodyPost_ret (v := .agg ((sha bs).map ub).toArray) (results_cell_row Tryd.results95 _ _ w.heap.size 25 _ (0, 0) _ rfl (setRow_heap w4 _ _ _ 25 _ hrow4) Tryd.underlying25 rfl HI.out) rfl ⟨by rw [eb], gr_row hG04 _ _ (Nat.le_refl _)⟩
end Go.Proofs.YtjgmmdgcknnlpaaDoor

/-
  tree.Leaf's and tree.node's contracts.
-/
namespace Go.Proofs.YtjgmmdgcknnlpaaDoor
open Go Go.RowKit

theorem sum25 (s : List UInt8) (hl : s.length = 32) : Hid ((Tryd.prog.info? 25).map (·.size) = some (s.map ub).toArray.size) ∧ Hid ((brow 32 []).toArray.size = (s.map ub).toArray.size) ∧ Hid ((s.map ub).toArray.all (·.oneCell') = true) := by
  refine ⟨info25 _ (by simp [hl]), ?_, ?_⟩
  · show _ = _
    rw [List.size_toArray, List.size_toArray, length_brow _ _ (by simp)]; simp [hl]
  · show _ = _
    rw [← brow_full _ _ hl]; exact brow_one _ _

set_option maxHeartbeats 2000000 in
set_option maxRecDepth 100000 in
theorem leaf_any (bs : List UInt8) (v : Value) (w : World) (hw : 1 < w.heap.size) (hT : Tab w) (hv : SliceIs w v bs) (hlen : bs.length < 1152921504606840000) :
    Calls Tryd.prog 66 #[v] w fun e w' => e = .returned (.agg ((sha (0 :: bs)).map ub).toArray) ∧ w.grownBy w' none := by
  have HT : Hid (Tab w) := hT
  have HV : Hid (SliceIs w v bs) := hv
  obtain ⟨sp, cap, rfl, hcap, hsp⟩ := hv
  clear hT hsp
  go_enter Tryd.func66, Tryd.ntmps66
  go_wp2_with fail
  have hA := gr_alloc w (Obj.cells (brow 32 []).toArray 25)
  have hB := gr_alloc (w.alloc (Obj.cells (brow 32 []).toArray 25)) (Obj.cells #[Value.slice sp bs.length cap] 27)
  have hAB := gr_trans hA hB
  have hs : (w.alloc (Obj.cells (brow 32 []).toArray 25)).heap.size = w.heap.size + 1 := by simp
  have hm := marked_any 0 [bs] (.slice (some ⟨w.heap.size + 1, 0, none⟩) 1 1) ((w.alloc (Obj.cells (brow 32 []).toArray 25)).alloc (Obj.cells #[Value.slice sp bs.length cap] 27)) (by simp) (HT.out.gr hAB hw)
    ⟨w.heap.size + 1, 0, 1, rfl, by simp, by simp, fun k b hk => by
      obtain ⟨rfl, rfl⟩ : k = 0 ∧ bs = b := by
        cases k with
        | zero => simpa using hk
        | succ k => simp at hk
      refine ⟨_, ?_, HV.out.gr hAB⟩
      rw [← hs, cell_of_row _ _ _ _ _ _ (heap_alloc_new _ _)]; rfl⟩ (by simp) (by simpa using hlen)
  refine hm.mono ?_
  rintro e w4 ⟨rfl, hG4⟩
  have e1 : ([bs] : List (List UInt8)).flatten = bs := by simp
  rw [e1]
  have hG04 : w.grownBy w4 none := gr_trans hAB hG4
  have hrow4 : w4.heap[w.heap.size]? = some (.cells (brow 32 []).toArray 25 (0, 0)) := (hG4.block _ (by simp; omega) (by simp)).trans ((hB.block _ (by simp) (by simp)).trans (heap_alloc_new _ _))
  obtain ⟨HI, HO, HN⟩ := sum25 _ (length_sha (0 :: bs))
  clear hm hA hB hAB hG4 e1 hs
  go_wp2_with (refine wpList_store_row rfl 25 _ _ rfl w.heap.size _ rfl rfl 25 _ hrow4 HI.out HO.out HN.out ?_)
  exact bodyPost_ret (v := .agg ((sha (0 :: bs)).map ub).toArray) (results_cell_row Tryd.results66 _ _ w.heap.size 25 _ (0, 0) _ rfl (setRow_heap w4 _ _ _ 25 _ hrow4) Tryd.underlying25 rfl HI.out) rfl ⟨rfl, gr_row hG04 _ _ (Nat.le_refl _)⟩

set_option maxHeartbeats 2000000 in
set_option maxRecDepth 100000 in
theorem tnode_any (l r : List UInt8) (w : World) (hw : 1 < w.heap.size) (hT : Tab w) (hl : l.length = 32) (hr : r.length = 32) :
    Calls Tryd.prog 84 #[.agg (l.map ub).toArray, .agg (r.map ub).toArray] w fun e w' => e = .returned (.agg ((sha (nodeL 1 l r)).map ub).toArray) ∧ w.grownBy w' none := by
  have HT : Hid (Tab w) := hT
  clear hT
  go_enter Tryd.func84, Tryd.ntmps84
  go_wp2
  change Code.wp _ _ _ _ (((w.alloc (Obj.cells (l.map ub).toArray 25)).alloc (Obj.cells (r.map ub).toArray 25)).alloc (Obj.cells (brow 32 []).toArray 25))
  have h1 : (((w.alloc (Obj.cells (l.map ub).toArray 25)).alloc (Obj.cells (r.map ub).toArray 25)).alloc (Obj.cells (brow 32 []).toArray 25)).heap[w.heap.size]? = some (.cells (l.map ub).toArray 25 (0, 0)) :=
    ((gr_alloc _ _).block _ (by simp; omega) (by simp)).trans (heap_alloc2_old _ _ _)
  have h2 : (((w.alloc (Obj.cells (l.map ub).toArray 25)).alloc (Obj.cells (r.map ub).toArray 25)).alloc (Obj.cells (brow 32 []).toArray 25)).heap[w.heap.size + 1]? = some (.cells (r.map ub).toArray 25 (0, 0)) :=
    ((gr_alloc _ _).block _ (by simp) (by simp)).trans (heap_alloc2_new _ _ _)
  have h3 : (((w.alloc (Obj.cells (l.map ub).toArray 25)).alloc (Obj.cells (r.map ub).toArray 25)).alloc (Obj.cells (brow 32 []).toArray 25)).heap[w.heap.size + 1 + 1]? = some (.cells (brow 32 []).toArray 25 (0, 0)) := by
    have : ((w.alloc (Obj.cells (l.map ub).toArray 25)).alloc (Obj.cells (r.map ub).toArray 25)).heap.size = w.heap.size + 1 + 1 := by simp
    rw [← this]; exact heap_alloc_new _ _
  have hs : (((w.alloc (Obj.cells (l.map ub).toArray 25)).alloc (Obj.cells (r.map ub).toArray 25)).alloc (Obj.cells (brow 32 []).toArray 25)).heap.size = w.heap.size + 1 + 1 + 1 := by simp
  have hG := gr_trans (gr_trans (gr_alloc w (Obj.cells (l.map ub).toArray 25)) (gr_alloc _ (Obj.cells (r.map ub).toArray 25))) (gr_alloc _ (Obj.cells (brow 32 []).toArray 25))
  generalize ((w.alloc (Obj.cells (l.map ub).toArray 25)).alloc (Obj.cells (r.map ub).toArray 25)).alloc (Obj.cells (brow 32 []).toArray 25) = W at h1 h2 h3 hs hG ⊢
  refine wp_region_still_tail 2 (by kernel_rfl) (by decide +kernel) ?_
  simp only [List.take_succ_cons, List.take_zero, List.drop_succ_cons, List.drop_zero]
  still_step
  still_step
  refine wpStill_nil ?_
  go_wp2_with fail
  have hWP : W.grownBy (W.alloc (Obj.cells #[Value.slice (some ⟨w.heap.size, 0, none⟩) 32 32, Value.slice (some ⟨w.heap.size + 1, 0, none⟩) 32 32] 27)).drew none := gr_drew (gr_alloc _ _)
  have hrp : (W.alloc (Obj.cells #[Value.slice (some ⟨w.heap.size, 0, none⟩) 32 32, Value.slice (some ⟨w.heap.size + 1, 0, none⟩) 32 32] 27)).drew.heap[w.heap.size + 1 + 1 + 1]? = some (.cells #[Value.slice (some ⟨w.heap.size, 0, none⟩) 32 32, Value.slice (some ⟨w.heap.size + 1, 0, none⟩) 32 32] 27 (0, 0)) := by rw [← hs]; exact heap_alloc_new _ _
  generalize (W.alloc (Obj.cells #[Value.slice (some ⟨w.heap.size, 0, none⟩) 32 32, Value.slice (some ⟨w.heap.size + 1, 0, none⟩) 32 32] 27)).drew = V at hWP hrp ⊢
  have hGV := gr_trans hG hWP
  have sl : ∀ (g : Nat) (x : List UInt8), x.length = 32 → W.heap[g]? = some (.cells (x.map ub).toArray 25 (0, 0)) → SliceIs V (.slice (some ⟨g, 0, none⟩) 32 32) x := fun g x hx hh => by
    have hgs := (Array.getElem?_eq_some_iff.1 hh).1
    refine ⟨_, _, by rw [hx], by omega, fun _ => ⟨g, 0, rfl, by have := hWP.size; omega, fun j hj => ?_⟩⟩
    rw [gr_cell hWP (p := ⟨g, 0 + j, none⟩) hgs, cell_of_row _ _ _ _ _ _ hh, Nat.zero_add]
    simp [hj]
  have hm := marked_any 1 [l, r] (.slice (some ⟨w.heap.size + 1 + 1 + 1, 0, none⟩) 2 2) V (by have := hGV.size; omega) (HT.out.gr hGV hw)
    ⟨w.heap.size + 1 + 1 + 1, 0, 2, rfl, by simp, (Array.getElem?_eq_some_iff.1 hrp).1, fun k b hk => by
      match k, hk with
      | 0, hk =>
        obtain rfl : l = b := by simpa using hk
        exact ⟨_, by rw [cell_of_row _ _ _ _ _ _ hrp]; rfl, sl _ _ hl h1⟩
      | 1, hk =>
        obtain rfl : r = b := by simpa using hk
        exact ⟨_, by rw [cell_of_row _ _ _ _ _ _ hrp]; rfl, sl _ _ hr h2⟩
      | k + 2, hk => simp at hk⟩ (by simp) (by simp [hl, hr])
  refine hm.mono ?_
  rintro e w4 ⟨rfl, hG4⟩
  have e1 : (1 : UInt8) :: ([l, r] : List (List UInt8)).flatten = nodeL 1 l r := by simp [nodeL]
  rw [e1]
  have hG04 : w.grownBy w4 none := gr_trans hGV hG4
  have hrow4 : w4.heap[w.heap.size + 1 + 1]? = some (.cells (brow 32 []).toArray 25 (0, 0)) := (hG4.block _ (by have := hWP.size; omega) (by simp)).trans ((hWP.block _ (by omega) (by simp)).trans h3)
  obtain ⟨HI, HO, HN⟩ := sum25 _ (length_sha (nodeL 1 l r))
  clear hm sl hGV hG4 e1 hs h1 h2 h3 hWP hrp hG
  generalize en : nodeL 1 l r = nd at *
  go_wp2_with (refine wpList_store_row rfl 25 _ _ rfl (w.heap.size + 1 + 1) _ rfl rfl 25 _ hrow4 HI.out HO.out HN.out ?_)
  exact bodyPost_ret (v := .agg ((sha nd).map ub).toArray) (results_cell_row Tryd.results84 _ _ (w.heap.size + 1 + 1) 25 _ (0, 0) _ rfl (setRow_heap w4 _ _ _ 25 _ hrow4) Tryd.underlying25 rfl HI.out) rfl ⟨by rw [en], gr_row hG04 _ _ (by omega)⟩
end Go.Proofs.YtjgmmdgcknnlpaaDoor

/-
  bits.Len off the shelf, laid in plain words at this dump by the guide's own tool; tree.split and rootsref.split: the greatest power of two below n.
-/
namespace Go.Proofs.YtjgmmdgcknnlpaaDoor
open Go Go.RowKit Go.Shelf

def lays125_ren : Go.Shelf.Ren := ⟨fun | 125 => 104 | 128 => 136 | 129 => 137 | n => n, fun | 46 => 79 | 3 => 3 | 51 => 96 | 53 => 74 | 4 => 4 | 5 => 5 | 9 => 9 | n => n, fun | n => n⟩
theorem lays125 : Go.Proofs.Lays.n125 Tryd.prog lays125_ren := {
  mixed := by kernel_rfl
  f125 := Tryd.func104.trans (congrArg some (by kernel_rfl))
  f128 := Tryd.func136.trans (congrArg some (by kernel_rfl))
  f129 := Tryd.func137.trans (congrArg some (by kernel_rfl))
  t3 := Tryd.underlying3
  a3 := Tryd.isAgg3
  z3 := Tryd.sizeOf3
  v3 := Tryd.zeroValue3
  t4 := Tryd.underlying4
  a4 := Tryd.isAgg4
  z4 := Tryd.sizeOf4
  v4 := Tryd.zeroValue4
  t5 := Tryd.underlying5
  a5 := Tryd.isAgg5
  z5 := Tryd.sizeOf5
  v5 := Tryd.zeroValue5
  t9 := Tryd.underlying9
  a9 := Tryd.isAgg9
  z9 := Tryd.sizeOf9
  v9 := Tryd.zeroValue9
  t46 := Tryd.underlying79
  a46 := Tryd.isAgg79
  z46 := Tryd.sizeOf79
  v46 := Tryd.zeroValue79
  t51 := Tryd.underlying96
  a51 := Tryd.isAgg96
  z51 := Tryd.sizeOf96
  v51 := Tryd.zeroValue96
  t53 := Tryd.underlying74
  a53 := Tryd.isAgg74
  z53 := Tryd.sizeOf74
  v53 := Tryd.zeroValue74 }
theorem bits_len (x : Int) (w : World) (h0 : 0 ≤ x) (h1 : x ≤ 18446744073709551615) :
    Calls Tryd.prog 104 #[.int .u64 x] w fun e w' => e = .returned (.int .i64 (Lib.bitLen x.toNat)) ∧ w' = w := Any.bits_Len lays125 x w h0 h1

/-- The greatest power of two below n. -/
def spl (n : Nat) : Nat := 2 ^ (Lib.bitLen (n - 1) - 1)
theorem spl_spec (n : Nat) (h2 : 2 ≤ n) (hb : n < 9223372036854775808) : spl n < n ∧ n ≤ 2 * spl n ∧ 1 ≤ Lib.bitLen (n - 1) ∧ Lib.bitLen (n - 1) ≤ 63 := by
  have hb' : n - 1 < 2 ^ 64 := by omega
  obtain ⟨h1, h3, h4⟩ := Lib.bitLenAux_bounds 64 (n - 1) hb' (by omega)
  have e : Lib.bitLen (n - 1) = Lib.bitLenAux 64 (n - 1) := rfl
  rw [spl, e]
  generalize Lib.bitLenAux 64 (n - 1) = b at *
  have e2 : 2 ^ b = 2 * 2 ^ (b - 1) := by rw [← Nat.pow_succ']; congr 1; omega
  refine ⟨by omega, by omega, h1, ?_⟩
  rcases Nat.lt_or_ge b 64 with h | h
  · omega
  · have := Nat.pow_le_pow_right (n := 2) (by omega) (show 63 ≤ b - 1 by omega)
    omega
theorem spl_pos (n : Nat) : 1 ≤ spl n := Nat.one_le_two_pow
theorem pow_same (a b n : Nat) (h1 : 2 ^ a < n) (h2 : n ≤ 2 * 2 ^ a) (h3 : 2 ^ b < n) (h4 : n ≤ 2 * 2 ^ b) : a = b := by
  rcases Nat.lt_trichotomy a b with h | h | h
  · have := Nat.pow_le_pow_right (n := 2) (by omega) (show a + 1 ≤ b from h)
    rw [Nat.pow_succ] at this; omega
  · exact h
  · have := Nat.pow_le_pow_right (n := 2) (by omega) (show b + 1 ≤ a from h)
    rw [Nat.pow_succ] at this; omega
theorem spl_unique (e n : Nat) (h2 : 2 ≤ n) (hb : n < 9223372036854775808) (h1 : 2 ^ e < n) (h3 : n ≤ 2 * 2 ^ e) : 2 ^ e = spl n := by
  obtain ⟨a, b, _, _⟩ := spl_spec n h2 hb
  rw [spl] at a b ⊢
  rw [pow_same e _ n h1 h3 a b]

set_option maxHeartbeats 2000000 in
set_option maxRecDepth 100000 in
theorem tsplit_any (n : Nat) (w : World) (hn : 2 ≤ n) (hb : n < 9223372036854775808) :
    Calls Tryd.prog 83 #[.int .i64 (n : Int)] w fun e w' => e = .returned (.int .i64 (spl n : Int)) ∧ w' = w := by
  obtain ⟨ha, hc, hd, he⟩ := spl_spec n hn hb
  have HS : Hid (spl n = 2 ^ (Lib.bitLen (n - 1) - 1)) := rfl
  go_enter Tryd.func83, Tryd.ntmps83
  go_wp2_with fail
  refine (bits_len ((n : Int) - 1) w (by omega) (by omega)).mono ?_
  rintro e w' ⟨rfl, rfl⟩
  have e1 : ((n : Int) - 1).toNat = n - 1 := by omega
  rw [e1]
  generalize Lib.bitLen (n - 1) = b at *
  go_wp2
  go_ret
  have hx : (2 : Int) ^ (b - 1) = ((spl n : Nat) : Int) := by rw [HS.out]; simp
  rw [hx]
  have hw : wrap64 ((spl n : Nat) : Int) = ((spl n : Nat) : Int) := by unfold wrap64; omega
  rw [hw]
  exact ⟨rfl, rfl⟩

set_option maxHeartbeats 2000000 in
set_option maxRecDepth 100000 in
theorem rsplit_any (n : Nat) (w : World) (hn : 2 ≤ n) (hb : n < 9223372036854775808) :
    Calls Tryd.prog 61 #[.int .i64 (n : Int)] w fun e w' => e = .returned (.int .i64 (spl n : Int)) ∧ w' = w := by
  go_enter Tryd.func61, Tryd.ntmps61
  go_wp2
  go_loopw [3] (fun i wr => ∃ (k e : Nat), Hid (k = 2 ^ e) ∧ k < n ∧ 1 ≤ k ∧ i = .int .i64 (k : Int) ∧ wr = w)
    (fun i _ => n - (intOf i).toNat)
  case atStart => exact ⟨1, 0, rfl, by omega, by omega, rfl, rfl⟩
  case round =>
    obtain ⟨k, e, he, hk, hk1, rfl, rfl⟩ := hrel
    by_cases hlt : k < n - k
    · have d : decide ((k : Int) < (n : Int) - (k : Int)) = true := by simp; omega
      go_wp2
      exact ⟨⟨2 * k, e + 1, by show _ = _; rw [he.out, Nat.pow_succ'], by omega, by omega, by go_num, trivial⟩, by simp [intOf]; omega⟩
    · have d : decide ((k : Int) < (n : Int) - (k : Int)) = false := by simp; omega
      go_wp2
      go_ret
      refine ⟨?_, rfl⟩
      rw [← spl_unique e n hn hb (by rw [← he.out]; omega) (by rw [← he.out]; omega), ← he.out]
      rfl
end Go.Proofs.YtjgmmdgcknnlpaaDoor

/-
  Lists of hashes in a world; tree.takeLast.
-/
namespace Go.Proofs.YtjgmmdgcknnlpaaDoor
open Go Go.RowKit

/-- Hashes that a slice holds. -/
def SumsIs (w : World) (v : Value) (ps : List (List UInt8)) : Prop :=
  (∀ s ∈ ps, s.length = 32) ∧ ∃ sp cap, v = .slice sp ps.length cap ∧ ps.length ≤ cap ∧
    (0 < ps.length → ∃ g o, sp = some ⟨g, o, none⟩ ∧ g < w.heap.size ∧ ∀ k s, ps[k]? = some s → w.rangeAt g (o + k * 32) (s.map ub))

theorem SumsIs.gr {a b : World} {v : Value} {ps : List (List UInt8)} (h : SumsIs a v ps) (hG : a.grownBy b none) : SumsIs b v ps := by
  obtain ⟨h0, sp, cap, rfl, hc, hsp⟩ := h
  refine ⟨h0, sp, cap, rfl, hc, fun h1 => ?_⟩
  obtain ⟨g, o, h2, h3, h4⟩ := hsp h1
  exact ⟨g, o, h2, Nat.lt_of_lt_of_le h3 hG.size, fun k s hk j u hj => (gr_cell hG (p := ⟨g, o + k * 32 + j, none⟩) h3).trans (h4 k s hk j u hj)⟩

/-- A whole array loaded among the still operations of a region. -/
theorem still_load {P : Program} {ops : Array Oper} {w : World} {Q : Act → Prop} {a : Act} {o : Oper} {rest : List Oper} (hw : Region.wanted o (yielded ops a.tmps) = true) (ty : TypeId) (x : Operand) (ho : o.op = .load ty x)
    (b p : Nat) (hx : a.eval x = .pointer (some ⟨b, p, none⟩)) (cs : List Value) (d : TypeDesc) (hc : w.rangeAt b p cs)
    (hu : P.underlying ty = some d) (hd : d.isRow = true) (hi : (P.info? ty).map (·.size) = some cs.length)
    (h : wpStill P ops w Q rest (a.put o.dst (.agg cs.toArray))) : wpStill P ops w Q (o :: rest) a := by
  unfold wpStill
  rw [if_pos hw]
  unfold Oper.still execOp
  simp only [ho, hx, Instr.loadAt, Instr.sureAddr, Sem.run_bind, Sem.run_pure, Result.andThen_ok, run_loadVar_mid w b p ty cs d hc hu hd hi]
  exact ⟨rfl, h⟩

/-- Results of more than one: arrays that lie in cells, and others. -/
theorem results_tct {P : Program} {fn : Func} {p q r : Tmp} {ty : TypeId} (h : fn.results = #[.tmp q, .cell p ty, .tmp r]) (tmps : Array Value) (w : World) (g : Nat) (t : TypeId) (cs : Array Value) (fr : Nat × Nat) (d : TypeDesc) (x y : Value)
    (hq : tmps.getD q undef = x) (hr : tmps.getD r undef = y) (hp : tmps.getD p undef = .pointer (some ⟨g, 0, none⟩)) (hg : w.heap[g]? = some (.cells cs t fr))
    (hu : P.underlying ty = some d) (hd : (match d with | .struct _ | .array _ _ => true | _ => false) = true) (hi : (P.info? ty).map (·.size) = some cs.size) :
    (results fn tmps).run P w = .ok (.tuple #[x, .agg cs, y]) w := by
  have hp' : tmps[p]?.getD undef = .pointer (some ⟨g, 0, none⟩) := by simpa using hp
  have hq' : tmps[q]?.getD undef = x := by simpa using hq
  have hr' : tmps[r]?.getD undef = y := by simpa using hr
  simp [results, h, hp', hq', hr', asAddr, run_loadVar_row w g t ty cs fr d hg hu hd hi]
theorem results_ct {P : Program} {fn : Func} {p r : Tmp} {ty : TypeId} (h : fn.results = #[.cell p ty, .tmp r]) (tmps : Array Value) (w : World) (g : Nat) (t : TypeId) (cs : Array Value) (fr : Nat × Nat) (d : TypeDesc) (y : Value)
    (hr : tmps.getD r undef = y) (hp : tmps.getD p undef = .pointer (some ⟨g, 0, none⟩)) (hg : w.heap[g]? = some (.cells cs t fr))
    (hu : P.underlying ty = some d) (hd : (match d with | .struct _ | .array _ _ => true | _ => false) = true) (hi : (P.info? ty).map (·.size) = some cs.size) :
    (results fn tmps).run P w = .ok (.tuple #[.agg cs, y]) w := by
  have hp' : tmps[p]?.getD undef = .pointer (some ⟨g, 0, none⟩) := by simpa using hp
  have hr' : tmps[r]?.getD undef = y := by simpa using hr
  simp [results, h, hp', hr', asAddr, run_loadVar_row w g t ty cs fr d hg hu hd hi]
theorem brow_z : (brow 32 []) = (List.replicate 32 (0 : UInt8)).map ub := rfl

set_option maxHeartbeats 2000000 in
set_option maxRecDepth 100000 in
theorem take_none (v : Value) (w : World) (hv : SumsIs w v []) :
    Calls Tryd.prog 128 #[v] w fun e w' => e = .returned (.tuple #[.slice none 0 0, .agg ((List.replicate 32 (0 : UInt8)).map ub).toArray, .bool false]) ∧ w.grownBy w' none := by
  obtain ⟨HI, HO, HN⟩ := sum25 (List.replicate 32 0) rfl
  obtain ⟨_, sp, cap, rfl, _, _⟩ := hv
  go_enter Tryd.func128, Tryd.ntmps128
  go_wp2_with (refine store_new rfl 25 _ _ rfl ((List.replicate 32 (0 : UInt8)).map ub).toArray _ _ rfl rfl HI.out HO.out HN.out ?_; intro W2 hW2 hs2 hG2)
  exact bodyPost_ret (results_tct Tryd.results128 _ _ w.heap.size 25 _ (0, 0) _ _ _ rfl rfl rfl hW2 Tryd.underlying25 rfl HI.out) rfl ⟨rfl, hG2⟩

set_option maxHeartbeats 2000000 in
set_option maxRecDepth 100000 in
theorem take_some (ps : List (List UInt8)) (s : List UInt8) (v : Value) (w : World) (hv : SumsIs w v (ps ++ [s])) (hn : ps.length < 1000000000) :
    Calls Tryd.prog 128 #[v] w fun e w' => ∃ v', e = .returned (.tuple #[v', .agg (s.map ub).toArray, .bool true]) ∧ SumsIs w' v' ps ∧ w.grownBy w' none := by
  obtain ⟨h32, sp, cap, rfl, hcap, hsp⟩ := hv
  rw [List.length_append, List.length_singleton] at hcap hsp ⊢
  obtain ⟨g, o, rfl, hg, hrg⟩ := hsp (by omega)
  have hs : s.length = 32 := h32 s (by simp)
  have hr := hrg ps.length s (by simp)
  have HR : Hid _ := hrg
  clear hrg
  go_enter Tryd.func128, Tryd.ntmps128
  have b0 : (0 : Int) ≤ (ps.length : Int) := by omega
  have b1 : (ps.length : Int) < (ps.length : Int) + 1 := by omega
  have b2 : (ps.length : Int) ≤ (cap : Int) := by omega
  go_wp2
  change Code.wp _ _ _ _ (w.alloc (Obj.cells (brow 32 []).toArray 25))
  have h1 : (w.alloc (Obj.cells (brow 32 []).toArray 25)).heap[w.heap.size]? = some (.cells (brow 32 []).toArray 25 (0, 0)) := heap_alloc_new _ _
  have hG : w.grownBy (w.alloc (Obj.cells (brow 32 []).toArray 25)) none := gr_alloc _ _
  generalize w.alloc (Obj.cells (brow 32 []).toArray 25) = W at h1 hG ⊢
  have hrW : World.rangeAt { W with drawn := W.drawn + 1 } g (o + ps.length * 32) (s.map ub) := fun j u hj => (gr_cell hG (p := ⟨g, o + ps.length * 32 + j, none⟩) hg).trans (hr j u hj)
  refine wp_region_still_tail 9 (by kernel_rfl) (by decide +kernel) ?_
  simp only [List.take_succ_cons, List.take_zero, List.drop_succ_cons, List.drop_zero]
  still_step
  still_step
  still_step
  still_step
  still_step
  still_step
  still_step
  obtain ⟨HI, HO, HN⟩ := sum25 s hs
  refine still_load (by rfl) 25 _ rfl g (o + ps.length * 32) rfl (s.map ub) _ hrW Tryd.underlying25 rfl (by rw [HI.out]; simp) ?_
  still_step
  refine wpStill_nil ?_
  have hGd : w.grownBy { W with drawn := W.drawn + 1 } none := ⟨hG.os, hG.tape, hG.output, hG.size, hG.block⟩
  have h1d : ({ W with drawn := W.drawn + 1 } : World).heap[w.heap.size]? = some (.cells (brow 32 []).toArray 25 (0, 0)) := h1
  generalize { W with drawn := W.drawn + 1 } = V at hGd h1d hrW ⊢
  clear hrW hr h1 hG hsp
  go_wp2_with (refine wpList_store_row rfl 25 _ _ rfl w.heap.size _ rfl rfl 25 _ h1d HI.out HO.out HN.out ?_)
  have hGF := gr_row hGd w.heap.size (s.map ub).toArray (Nat.le_refl _)
  refine bodyPost_ret (results_tct Tryd.results128 _ _ w.heap.size 25 _ (0, 0) _ _ _ rfl rfl rfl (setRow_heap V _ _ _ 25 _ h1d) Tryd.underlying25 rfl HI.out) rfl ⟨_, rfl, ?_, hGF⟩
  exact ⟨fun x hx => h32 x (by simp [hx]), _, _, rfl, Nat.le_refl _, fun _ => ⟨g, o, rfl, Nat.lt_of_lt_of_le hg hGF.size, fun k x hk j u hj =>
    (gr_cell hGF (p := ⟨g, o + k * 32 + j, none⟩) hg).trans (HR.out k x (by
      have hkl : k < ps.length := (List.getElem?_eq_some_iff.1 hk).1
      rw [List.getElem?_append_left hkl]; exact hk) j u hj)⟩⟩
end Go.Proofs.YtjgmmdgcknnlpaaDoor
