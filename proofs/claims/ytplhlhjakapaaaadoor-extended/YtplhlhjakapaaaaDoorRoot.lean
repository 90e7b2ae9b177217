/-
  rootsref's Root.
-/
import Derived.Test.YtplhlhjakapaaaaDoorMark
import Derived.Test.YtplhlhjakapaaaaDoorSplit
namespace Go.Proofs.YtplhlhjakapaaaaDoor
open Go Go.RowKit

/-- The root of a list. -/
inductive RootIs : List (List UInt8) → List UInt8 → Prop
  | nil : RootIs [] (sha [])
  | one (s : List UInt8) : RootIs [s] (sha (0 :: s))
  | node (l : List (List UInt8)) (a b : List UInt8) : 2 ≤ l.length → RootIs (l.take (spl l.length)) a → RootIs (l.drop (spl l.length)) b → RootIs l (sha (nodeL 1 a b))

theorem StrsIs.take {w : World} {sp : Option Addr} {n cap : Nat} {l : List (List UInt8)} (h : StrsIs w (.slice sp n cap) l) (k : Nat) (hk : k ≤ l.length) : StrsIs w (.slice sp k cap) (l.take k) := by
  obtain ⟨sp', cap', e, hc, hsp⟩ := h
  cases e
  have hl : (l.take k).length = k := by rw [List.length_take]; omega
  refine ⟨sp, cap, by rw [hl], by omega, fun h0 => ?_⟩
  obtain ⟨g, o, h1, h2, h3⟩ := hsp (by omega)
  exact ⟨g, o, h1, h2, fun j s hj => h3 j s (by rw [List.getElem?_take] at hj; split at hj <;> simp_all)⟩
theorem StrsIs.drop {w : World} {g o n cap : Nat} {l : List (List UInt8)} (h : StrsIs w (.slice (some ⟨g, o, none⟩) n cap) l) (k : Nat) (hk : k ≤ l.length) : StrsIs w (.slice (some ⟨g, o + k, none⟩) (n - k) (cap - k)) (l.drop k) := by
  obtain ⟨sp', cap', e, hc, hsp⟩ := h
  cases e
  refine ⟨_, _, by rw [List.length_drop], by rw [List.length_drop]; omega, fun h0 => ?_⟩
  rw [List.length_drop] at h0
  obtain ⟨g', o', h1, h2, h3⟩ := hsp (by omega)
  cases h1
  exact ⟨_, _, rfl, h2, fun j s hj => by rw [List.getElem?_drop] at hj; have := h3 (k + j) s hj; rwa [← Nat.add_assoc] at this⟩

set_option maxHeartbeats 4000000 in
set_option maxRecDepth 100000 in
theorem root_nil (H : Nat) (v : Value) (w : World) (hH : RefAt w H) (hHs : H < w.heap.size) (hv : StrsIs w v []) :
    Calls Tryd.prog 20 #[.pointer (some ⟨H, 0, none⟩), v] w fun e w' => e = .returned (.agg ((sha []).map ub).toArray) ∧ w.grownBy w' none := by
  obtain ⟨sp, cap, rfl, _, _⟩ := hv
  have HH : Hid (RefAt w H) := hH
  clear hH
  have h00 : (⟨#[]⟩ : ByteArray) = mkS [] := rfl
  go_enter Tryd.func20, Tryd.ntmps20
  go_wp2_with fail
  have hA := gr_alloc w (Obj.cells (brow 32 []).toArray 25)
  refine (of_any H [] (w.alloc (Obj.cells (brow 32 []).toArray 25)) (RefAt.gr HH.out hHs hA) (by have := hA.size; omega) (by simp)).mono ?_
  rintro e w4 ⟨rfl, hG4⟩
  have hG04 := gr_trans hA hG4
  have hrow4 : w4.heap[w.heap.size]? = some (.cells (brow 32 []).toArray 25 (0, 0)) := (hG4.block _ (by simp) (by simp)).trans (heap_alloc_new _ _)
  obtain ⟨HI, HO, HN⟩ := sum25 _ (length_sha [])
  clear hA hG4 HH
  generalize eX : ((sha []).map ub).toArray = X at *
  go_wp2_with (refine wpList_store_row rfl 25 _ _ rfl w.heap.size _ rfl rfl 25 _ hrow4 HI.out HO.out HN.out ?_)
  exact bodyPost_ret (v := .agg X) (results_cell_row Tryd.results20 _ _ w.heap.size 25 _ (0, 0) _ rfl (setRow_heap w4 _ _ _ 25 _ hrow4) Tryd.underlying25 rfl HI.out) rfl ⟨by rw [eX], gr_row hG04 _ _ (Nat.le_refl _)⟩

set_option maxHeartbeats 4000000 in
set_option maxRecDepth 100000 in
theorem root_one (H : Nat) (s : List UInt8) (v : Value) (w : World) (hH : RefAt w H) (hHs : H < w.heap.size) (hv : StrsIs w v [s]) (hs : s.length < 999999999) :
    Calls Tryd.prog 20 #[.pointer (some ⟨H, 0, none⟩), v] w fun e w' => e = .returned (.agg ((sha (0 :: s)).map ub).toArray) ∧ w.grownBy w' none := by
  obtain ⟨sp, cap, rfl, _, hsp⟩ := hv
  obtain ⟨g, o, rfl, hg, hc⟩ := hsp (by simp)
  have c0 := hc 0 s rfl
  rw [Nat.add_zero] at c0
  have HH : Hid (RefAt w H) := hH
  clear hH hc hsp
  have h00 : (⟨#[0]⟩ : ByteArray) = mkS [0] := rfl
  have hcat := mkS_append
  have hsz := size_mkS
  have hA := gr_alloc w (Obj.cells (brow 32 []).toArray 25)
  have c1 : (w.alloc (Obj.cells (brow 32 []).toArray 25)).cell? ⟨g, o, none⟩ = some (.string (mkS s)) := (gr_cell hA (p := ⟨g, o, none⟩) hg).trans c0
  go_enter Tryd.func20, Tryd.ntmps20
  go_wp2_with fail
  refine (of_any H (0 :: s) (w.alloc (Obj.cells (brow 32 []).toArray 25)) (RefAt.gr HH.out hHs hA) (by have := hA.size; omega) (by simp; omega)).mono ?_
  rintro e w4 ⟨rfl, hG4⟩
  have hG04 := gr_trans hA hG4
  have hrow4 : w4.heap[w.heap.size]? = some (.cells (brow 32 []).toArray 25 (0, 0)) := (hG4.block _ (by simp) (by simp)).trans (heap_alloc_new _ _)
  obtain ⟨HI, HO, HN⟩ := sum25 _ (length_sha (0 :: s))
  clear hA hG4 HH c1 c0 h00 hcat hsz
  generalize eX : ((sha (0 :: s)).map ub).toArray = X at *
  go_wp2_with (refine wpList_store_row rfl 25 _ _ rfl w.heap.size _ rfl rfl 25 _ hrow4 HI.out HO.out HN.out ?_)
  exact bodyPost_ret (v := .agg X) (results_cell_row Tryd.results20 _ _ w.heap.size 25 _ (0, 0) _ rfl (setRow_heap w4 _ _ _ 25 _ hrow4) Tryd.underlying25 rfl HI.out) rfl ⟨by rw [eX], gr_row hG04 _ _ (Nat.le_refl _)⟩

set_option maxHeartbeats 4000000 in
set_option maxRecDepth 100000 in
theorem root_any (H : Nat) (N : Nat) : ∀ (l : List (List UInt8)) (v : Value) (w : World), l.length ≤ N → RefAt w H → H < w.heap.size → StrsIs w v l → (∀ s ∈ l, s.length < 999999999) → l.length < 1000000000 →
    Calls Tryd.prog 20 #[.pointer (some ⟨H, 0, none⟩), v] w fun e w' => ∃ R, RootIs l R ∧ R.length = 32 ∧ e = .returned (.agg (R.map ub).toArray) ∧ w.grownBy w' none := by
  induction N with
  | zero =>
    intro l v w hl hH hHs hv _ _
    obtain rfl : l = [] := List.length_eq_zero_iff.1 (by omega)
    refine (root_nil H v w hH hHs hv).mono ?_
    rintro e w' ⟨rfl, hG⟩
    exact ⟨_, RootIs.nil, length_sha _, rfl, hG⟩
  | succ N ih =>
    intro l v w hl hH hHs hv hs hb
    by_cases h0 : l.length = 0
    · obtain rfl : l = [] := List.length_eq_zero_iff.1 h0
      refine (root_nil H v w hH hHs hv).mono ?_
      rintro e w' ⟨rfl, hG⟩
      exact ⟨_, RootIs.nil, length_sha _, rfl, hG⟩
    by_cases h1 : l.length = 1
    · obtain ⟨s, rfl⟩ := List.length_eq_one_iff.1 h1
      refine (root_one H s v w hH hHs hv (hs s (by simp))).mono ?_
      rintro e w' ⟨rfl, hG⟩
      exact ⟨_, RootIs.one s, length_sha _, rfl, hG⟩
    have hn2 : 2 ≤ l.length := by omega
    have hn63 : l.length < 9223372036854775808 := by omega
    obtain ⟨ha, hb', _, _⟩ := spl_spec l.length hn2 hn63
    have hk1 := spl_pos l.length
    have HH : Hid (RefAt w H) := hH
    have HIH : Hid _ := ih
    have HV : Hid (StrsIs w v l) := hv
    have HS : Hid _ := hs
    have HND : Hid (∀ a b, RootIs (l.take (spl l.length)) a → RootIs (l.drop (spl l.length)) b → RootIs l (sha (nodeL 1 a b))) := fun a b => RootIs.node l a b hn2
    obtain ⟨sp, cap, rfl, hcap, hsp⟩ := hv
    obtain ⟨g, o, rfl, hg, _⟩ := hsp (by omega)
    clear hH ih hs hsp
    have d0 : ((l.length : Int) == 0) = false := by rw [beq_eq_false_iff_ne]; omega
    have d1 : ((l.length : Int) == 1) = false := by rw [beq_eq_false_iff_ne]; omega
    go_enter Tryd.func20, Tryd.ntmps20
    go_wp2_with fail
    have hA := gr_alloc w (Obj.cells (brow 32 []).toArray 25)
    have hB0 : (w.alloc (Obj.cells (brow 32 []).toArray 25)).heap[w.heap.size]? = some (.cells (brow 32 []).toArray 25 (0, 0)) := heap_alloc_new _ _
    refine (rsplit_any l.length (w.alloc (Obj.cells (brow 32 []).toArray 25)) hn2 hn63).mono ?_
    rintro e w' ⟨rfl, hww⟩
    rw [hww]; clear hww w'
    generalize w.alloc (Obj.cells (brow 32 []).toArray 25) = W at hA hB0 ⊢
    generalize hk : spl l.length = k at *
    generalize hn : l.length = n at *
    have b0 : (0 : Int) ≤ (k : Int) := by omega
    have b1 : (k : Int) ≤ (n : Int) := by omega
    have b2 : (k : Int) ≤ (cap : Int) := by omega
    have b3 : (n : Int) ≤ (cap : Int) := by omega
    go_wp2_with fail
    have hv1 := HV.out.take k (by omega)
    have hl1 : (l.take k).length ≤ N := by rw [List.length_take]; omega
    refine (HIH.out (l.take k) _ W hl1 (RefAt.gr HH.out hHs hA) (by have := hA.size; omega) (hv1.gr hA) (fun s h => HS.out s (List.mem_of_mem_take h)) (by rw [List.length_take]; omega)).mono ?_
    rintro e w1 ⟨a, hRa, hal, rfl, hG1⟩
    have hG01 := gr_trans hA hG1
    have hB1 : w1.heap[w.heap.size]? = some (.cells (brow 32 []).toArray 25 (0, 0)) := (hG1.block _ (Array.getElem?_eq_some_iff.1 hB0).1 (by simp)).trans hB0
    have HRA : Hid _ := hRa
    obtain ⟨HIa, HOa, HNa⟩ := sum25 a hal
    clear hv1 hl1 hA hB0 hG1 hRa
    generalize eA : (a.map ub).toArray = A at *
    go_wp2_with (first | (refine store_new rfl 25 _ _ rfl A _ _ rfl rfl HIa.out HOa.out HNa.out ?_; intro W2 hW2 hs2 hG2))
    have hG02 := gr_trans hG01 hG2
    have hB2 : W2.heap[w.heap.size]? = some (.cells (brow 32 []).toArray 25 (0, 0)) := (hG2.block _ (Array.getElem?_eq_some_iff.1 hB1).1 (by simp)).trans hB1
    have hv2 := HV.out.drop k (by omega)
    have hl2 : (l.drop k).length ≤ N := by rw [List.length_drop]; omega
    have hl3 : (l.drop k).length < 1000000000 := by rw [List.length_drop]; omega
    refine (HIH.out (l.drop k) _ W2 hl2 (RefAt.gr HH.out hHs hG02) (by have := hG02.size; omega) (hv2.gr hG02) (fun s h => HS.out s (List.mem_of_mem_drop h)) hl3).mono ?_
    rintro e w3 ⟨b, hRb, hbl, rfl, hG3⟩
    have hG03 := gr_trans hG02 hG3
    have hB3 : w3.heap[w.heap.size]? = some (.cells (brow 32 []).toArray 25 (0, 0)) := (hG3.block _ (Array.getElem?_eq_some_iff.1 hB2).1 (by simp)).trans hB2
    have hW3 : w3.heap[w1.heap.size]? = some (.cells A 25 (0, 0)) := (hG3.block _ (by omega) (by simp)).trans hW2
    have HRB : Hid _ := hRb
    have hs13 : w1.heap.size < w3.heap.size := (Array.getElem?_eq_some_iff.1 hW3).1
    have hs03 : w.heap.size < w3.heap.size := (Array.getElem?_eq_some_iff.1 hB3).1
    obtain ⟨HIb, HOb, HNb⟩ := sum25 b hbl
    clear hv2 hl2 hl3 hB1 hB2 hG2 hW2 hG01 hG02 hG3 hRb HIH HV HS hs2
    generalize w1.heap.size = P1 at *
    generalize eB : (b.map ub).toArray = B at *
    go_wp2_with (first | (refine store_new rfl 25 _ _ rfl B _ _ rfl rfl HIb.out HOb.out HNb.out ?_; intro W4 hW4 hs4 hG4; have hP4 := (hG4.block _ hs13 (by simp)).trans hW3; have hB4 := (hG4.block _ hs03 (by simp)).trans hB3) | refine wpList_load_row rfl 25 _ rfl P1 rfl 25 _ (0, 0) _ hP4 Tryd.underlying25 rfl HIa.out ?_ | refine wpList_load_row rfl 25 _ rfl w3.heap.size rfl 25 _ (0, 0) _ hW4 Tryd.underlying25 rfl HIb.out ?_)
    have hG04 := gr_trans hG03 hG4
    have hnd := node_any H 1 a b hal hbl W4 (RefAt.gr HH.out hHs hG04) (by have := hG04.size; omega)
    rw [eA, eB] at hnd
    refine hnd.mono ?_
    clear hnd
    rintro e w5 ⟨rfl, hG5⟩
    have hG05 := gr_trans hG04 hG5
    have hB5 : w5.heap[w.heap.size]? = some (.cells (brow 32 []).toArray 25 (0, 0)) := (hG5.block _ (by omega) (by simp)).trans hB4
    clear hW3 hW4 hP4 hB4 hB3 hG03 hG04 hG4 hG5 HH HIa HOa HNa HIb HOb HNb
    obtain ⟨HI, HO, HN⟩ := sum25 _ (length_sha (nodeL 1 a b))
    generalize eX : ((sha (nodeL 1 a b)).map ub).toArray = X at *
    go_wp2_with (refine wpList_store_row rfl 25 _ _ rfl w.heap.size _ rfl rfl 25 _ hB5 HI.out HO.out HN.out ?_)
    exact bodyPost_ret (v := .agg X) (results_cell_row Tryd.results20 _ _ w.heap.size 25 _ (0, 0) _ rfl (setRow_heap w5 _ _ _ 25 _ hB5) Tryd.underlying25 rfl HI.out) rfl ⟨_, HND.out a b HRA.out HRB.out, length_sha _, by rw [eX], gr_row hG05 _ _ (Nat.le_refl _)⟩
end Go.Proofs.YtplhlhjakapaaaaDoor
