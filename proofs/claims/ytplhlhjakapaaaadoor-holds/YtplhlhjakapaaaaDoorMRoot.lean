/-
  rootsref's MapRoot: some hash.
-/
import Derived.Test.YtplhlhjakapaaaaDoorEntF
import Derived.Test.YtplhlhjakapaaaaDoorLeafR
namespace Go.Proofs.YtplhlhjakapaaaaDoor
open Go Go.RowKit

set_option maxHeartbeats 2000000 in
set_option maxRecDepth 100000 in
theorem mroot_nil (H lv : Nat) (hlv : lv ≤ 64) (v : Value) (w : World) (hE : EmptyAt w H) (hv : EntsIs w v []) :
    Calls Tryd.prog 49 #[.pointer (some ⟨H, 0, none⟩), v, .int .i64 (lv : Int)] w fun e w' => ∃ r : List UInt8, r.length = 32 ∧ e = .returned (.agg (r.map ub).toArray) ∧ w.grownBy w' none := by
  have HE : Hid (EmptyAt w H) := hE
  obtain ⟨_, sp, cap, rfl, _, _⟩ := hv
  clear hE
  have d0 : (lv : Int) < 65 := by omega
  have hel := length_er lv
  have HW : Hid (∀ W : World, w.grownBy W none → ∃ capE ge, W.cell? ⟨H, 1, none⟩ = some (.slice (some ⟨ge, 0, none⟩) 65 capE) ∧ W.rangeAt ge (lv * 32) ((er lv).map ub)) := fun W hW => by
    obtain ⟨T, ge, capE, hHc, hge, hcE, hEr⟩ := HE.out.gr hW
    exact ⟨capE, ge, by rw [cell_of_row W _ _ _ _ _ hHc]; rfl, hEr lv (by omega)⟩
  generalize er lv = y at hel HW
  obtain ⟨HI, HO, HN⟩ := sum25 y hel
  have HI' : Hid ((Tryd.prog.info? 25).map (·.size) = some (y.map ub).length) := by show _ = _; rw [HI.out]; simp
  go_enter Tryd.func49, Tryd.ntmps49
  refine wp_seq (wp_region_lit (wpList_alloc25 rfl rfl fun W1 hW1 hs1 hG1 => ?_))
  change Code.wp _ _ _ _ _
  simp only [Act.put, List.setIfInBounds_toArray, List.set_cons_zero, List.set_cons_succ]
  obtain ⟨capE, ge, cE, hR⟩ := HW.out W1 hG1
  have HR : Hid _ := hR
  clear hR HW hs1
  go_wp2_with (first | (refine wpList_load_mid rfl 25 _ rfl ge (lv * 32) rfl (y.map ub) _ HR.out Tryd.underlying25 rfl HI'.out ?_) | (refine wpList_store_row rfl 25 _ _ rfl w.heap.size (y.map ub).toArray rfl rfl 25 _ hW1 HI.out HO.out HN.out ?_))
  exact bodyPost_ret (results_cell_row Tryd.results49 _ _ w.heap.size 25 _ (0, 0) _ rfl (setRow_heap _ _ _ _ 25 _ hW1) Tryd.underlying25 rfl HI.out) rfl ⟨y, hel, rfl, gr_row hG1 _ _ (Nat.le_refl _)⟩

set_option maxHeartbeats 2000000 in
set_option maxRecDepth 100000 in
theorem mroot_one (H : Nat) (es : List Ent) (v : Value) (w : World) (hH : RefAt w H) (hHs : H < w.heap.size) (hv : EntsIs w v es) (hne : 0 < es.length) (hlen : es.length < 1000000) :
    Calls Tryd.prog 49 #[.pointer (some ⟨H, 0, none⟩), v, .int .i64 0] w fun e w' => ∃ r : List UInt8, r.length = 32 ∧ e = .returned (.agg (r.map ub).toArray) ∧ w.grownBy w' none := by
  have HV : Hid (EntsIs w v es) := hv
  have HH : Hid (RefAt w H) := hH
  obtain ⟨_, sp, cap, rfl, _, _⟩ := hv
  clear hH
  have d0 : (0 : Int) < (es.length : Int) := by omega
  have d1 : ((es.length : Int) == 0) = false := by rw [beq_eq_false_iff_ne]; omega
  go_enter Tryd.func49, Tryd.ntmps49
  refine wp_seq (wp_region_lit (wpList_alloc25 rfl rfl fun W1 hW1 hs1 hG1 => ?_))
  change Code.wp _ _ _ _ _
  simp only [Act.put, List.setIfInBounds_toArray, List.set_cons_zero, List.set_cons_succ]
  obtain ⟨g, o, e, rfl, hek, hok, hR, c0, _, _⟩ := (HV.out.gr hG1).at 0 hne
  rw [Nat.zero_mul, Nat.add_zero] at hR
  have HR : Hid _ := hR
  have HI : Hid _ := info112 e
  clear hR c0 hek hs1
  go_wp2_with (first | (refine wpList_load_mid rfl 112 _ rfl g o rfl (entC e) _ HR.out Tryd.underlying112 rfl HI.out ?_))
  refine (rleaf_any H e.k e.v (e.p : Int) W1 (RefAt.gr HH.out hHs hG1) (by have := hG1.size; omega) hok.2.1 hok.2.2).mono ?_
  rintro e' w2 ⟨rfl, hG2⟩
  have hyl := length_sha (nodeL 2 (sha e.k) (sha e.v))
  generalize sha (nodeL 2 (sha e.k) (sha e.v)) = y at hyl ⊢
  obtain ⟨HIy, HOy, HNy⟩ := sum25 y hyl
  have hW2 := (hG2.block _ (Array.getElem?_eq_some_iff.1 hW1).1 (by simp)).trans hW1
  have hG02 := gr_trans hG1 hG2
  clear hW1 hG1 hG2 HR HI
  go_wp2_with (refine wpList_store_row rfl 25 _ _ rfl w.heap.size (y.map ub).toArray rfl rfl 25 _ hW2 HIy.out HOy.out HNy.out ?_)
  exact bodyPost_ret (results_cell_row Tryd.results49 _ _ w.heap.size 25 _ (0, 0) _ rfl (setRow_heap _ _ _ _ 25 _ hW2) Tryd.underlying25 rfl HIy.out) rfl ⟨y, hyl, rfl, gr_row hG02 _ _ (Nat.le_refl _)⟩

set_option maxHeartbeats 4000000 in
set_option maxRecDepth 100000 in
theorem mroot_any (H : Nat) : ∀ (lv : Nat) (_ : lv ≤ 64) (es : List Ent) (v : Value) (w : World), RefAt w H → EmptyAt w H → H < w.heap.size → EntsIs w v es → es.length < 1000000 →
    Calls Tryd.prog 49 #[.pointer (some ⟨H, 0, none⟩), v, .int .i64 (lv : Int)] w fun e w' => ∃ r : List UInt8, r.length = 32 ∧ e = .returned (.agg (r.map ub).toArray) ∧ w.grownBy w' none := by
  intro lv
  induction lv with
  | zero =>
    intro _ es v w hH hE hHs hv hlen
    rcases Nat.eq_zero_or_pos es.length with h0 | h0
    · obtain rfl : es = [] := List.length_eq_zero_iff.1 h0
      exact mroot_nil H 0 (by omega) v w hE hv
    · exact mroot_one H es v w hH hHs hv h0 hlen
  | succ lv ih =>
    intro hlv es v w hH hE hHs hv hlen
    rcases Nat.eq_zero_or_pos es.length with h0 | h0
    · obtain rfl : es = [] := List.length_eq_zero_iff.1 h0
      exact mroot_nil H (lv + 1) hlv v w hE hv
    have HIH : Hid _ := ih (by omega)
    have HV : Hid (EntsIs w v es) := hv
    have HH : Hid (RefAt w H) := hH
    have HE : Hid (EmptyAt w H) := hE
    obtain ⟨_, sp, cap, rfl, _, _⟩ := hv
    clear hH hE ih
    have d1 : ((es.length : Int) == 0) = false := by rw [beq_eq_false_iff_ne]; omega
    have d2 : ((lv : Int) + 1 == 0) = false := by rw [beq_eq_false_iff_ne]; omega
    go_enter Tryd.func49, Tryd.ntmps49
    refine wp_seq (wp_region_lit (wpList_alloc25 rfl rfl fun W1 hW1 hs1 hG1 => ?_))
    change Code.wp _ _ _ _ _
    simp only [Act.put, List.setIfInBounds_toArray, List.set_cons_zero, List.set_cons_succ]
    go_wp2_with fail
    refine (half_any es _ lv 0 W1 (HV.out.gr hG1) (by omega) hlen).mono ?_
    rintro e w2 ⟨v1, fs, rfl, hO2, hfs, hG2⟩
    have hG02 := gr_trans hG1 hG2
    have HF2 : Hid (EntsIs w2 v1 fs) := hO2.is
    clear hO2 hs1
    go_wp2_with fail
    refine (half_any es _ lv 1 w2 (HV.out.gr hG02) (by omega) hlen).mono ?_
    rintro e w3 ⟨v2, gs, rfl, hO3, hgs, hG3⟩
    have hG03 := gr_trans hG02 hG3
    have HF3 : Hid (EntsIs w3 v1 fs) := HF2.out.gr hG3
    have HS3 : Hid (EntsIs w3 v2 gs) := hO3.is
    have hR3 := (hG3.block _ (by have := hG2.size; have := (Array.getElem?_eq_some_iff.1 hW1).1; omega) (by simp)).trans ((hG2.block _ (Array.getElem?_eq_some_iff.1 hW1).1 (by simp)).trans hW1)
    clear hO3 HF2 hG1 hG2 hG3 hG02 hW1
    go_wp2_with fail
    refine (HIH.out fs v1 w3 (RefAt.gr HH.out hHs hG03) (HE.out.gr hG03) (by have := hG03.size; omega) HF3.out (by omega)).mono ?_
    rintro e w4 ⟨a, hal, rfl, hG4⟩
    have hG04 := gr_trans hG03 hG4
    have HS4 : Hid (EntsIs w4 v2 gs) := HS3.out.gr hG4
    have hR4 := (hG4.block _ (Array.getElem?_eq_some_iff.1 hR3).1 (by simp)).trans hR3
    obtain ⟨HIa, HOa, HNa⟩ := sum25 a hal
    clear HF3 HS3 hG03 hG4 hR3
    go_wp2_with (first | (refine store_new rfl 25 _ _ rfl (a.map ub).toArray _ _ rfl rfl HIa.out HOa.out HNa.out ?_; intro W5 hW5 hs5 hG5; clear hs5))
    have hG05 := gr_trans hG04 hG5
    have hR5 := (hG5.block _ (Array.getElem?_eq_some_iff.1 hR4).1 (by simp)).trans hR4
    refine (HIH.out gs v2 W5 (RefAt.gr HH.out hHs hG05) (HE.out.gr hG05) (by have := hG05.size; omega) (HS4.out.gr hG5) (by omega)).mono ?_
    rintro e w6 ⟨b, hbl, rfl, hG6⟩
    have hG06 := gr_trans hG05 hG6
    have hR6 := (hG6.block _ (Array.getElem?_eq_some_iff.1 hR5).1 (by simp)).trans hR5
    have hA6 := (hG6.block _ (Array.getElem?_eq_some_iff.1 hW5).1 (by simp)).trans hW5
    obtain ⟨HIb, HOb, HNb⟩ := sum25 b hbl
    clear HS4 hG04 hG05 hG5 hG6 hR4 hR5 hW5
    go_wp2_with (first | (refine wpList_load_row rfl 25 _ rfl w4.heap.size rfl 25 _ (0, 0) _ hA7 Tryd.underlying25 rfl HIa.out ?_) | (refine wpList_load_row rfl 25 _ rfl w6.heap.size rfl 25 _ (0, 0) _ hW7 Tryd.underlying25 rfl HIb.out ?_) | (refine store_new rfl 25 _ _ rfl (b.map ub).toArray _ _ rfl rfl HIb.out HOb.out HNb.out ?_; intro W7 hW7 hs7 hG7; clear hs7; have hA7 := (hG7.block _ (Array.getElem?_eq_some_iff.1 hA6).1 (by simp)).trans hA6))
    have hG07 := gr_trans hG06 hG7
    have hR7 := (hG7.block _ (Array.getElem?_eq_some_iff.1 hR6).1 (by simp)).trans hR6
    refine (node_any H 3 a b hal hbl W7 (RefAt.gr HH.out hHs hG07) (by have := hG07.size; omega)).mono ?_
    rintro e w8 ⟨rfl, hG8⟩
    have hyl := length_sha (nodeL 3 a b)
    generalize sha (nodeL 3 a b) = y at hyl ⊢
    obtain ⟨HIy, HOy, HNy⟩ := sum25 y hyl
    have hG08 := gr_trans hG07 hG8
    have hR8 := (hG8.block _ (Array.getElem?_eq_some_iff.1 hR7).1 (by simp)).trans hR7
    clear hR7 hR6 hA6 hA7 hW7 hG7 hG8 hG07 hG06
    go_wp2_with (refine wpList_store_row rfl 25 _ _ rfl w.heap.size (y.map ub).toArray rfl rfl 25 _ hR8 HIy.out HOy.out HNy.out ?_)
    exact bodyPost_ret (results_cell_row Tryd.results49 _ _ w.heap.size 25 _ (0, 0) _ rfl (setRow_heap _ _ _ _ 25 _ hR8) Tryd.underlying25 rfl HIy.out) rfl ⟨y, hyl, rfl, gr_row hG08 _ _ (Nat.le_refl _)⟩
end Go.Proofs.YtplhlhjakapaaaaDoor
