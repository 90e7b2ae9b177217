/-
  rootslaw.Extended: true of all arguments.
-/
import Derived.Test.YtplhlhjakapaaaaDoorRExt
import Derived.Test.YtplhlhjakapaaaaDoorBetween
import Derived.Test.YtplhlhjakapaaaaDoorIncluded
namespace Go.Proofs.YtplhlhjakapaaaaDoor
open Go Go.RowKit

set_option maxHeartbeats 16000000 in
set_option maxRecDepth 100000 in
theorem extended_any (l : List (List UInt8)) (v : Value) (m n how k b : Int) (w : World) (hw : 1 < w.heap.size) (hT : Tab w) (hv : StrsIs w v l) (hl : l.length < 140737488355328) (hs : ∀ s ∈ l, s.length < 140737488355328)
    (hm : In64 m) (hn : In64 n) (hhow : In64 how) (hk : In64 k) (hb : In64 b) :
    Calls Tryd.prog 8 #[v, .int .i64 m, .int .i64 n, .int .i64 how, .int .i64 k, .int .i64 b] w fun e w' => e = .returned (.bool true) ∧ w.grownBy w' none := by
  have HV : Hid (StrsIs w v l) := hv
  have HT : Hid (Tab w) := hT
  have HS : Hid (∀ s ∈ l, s.length < 140737488355328) := hs
  have HK : Hid (In64 how ∧ In64 k ∧ In64 b) := ⟨hhow, hk, hb⟩
  obtain ⟨sp, cap, rfl, hcap, hsp⟩ := hv
  have HSP : Hid _ := hsp
  clear hT hs hsp hhow hk hb
  obtain ⟨hm1, hm2⟩ := hm
  obtain ⟨hn1, hn2⟩ := hn
  go_enter Tryd.func8, Tryd.ntmps8
  go_wp2_with fail
  refine (size_any l _ w HV.out hl HS.out).mono ?_
  rintro e w' ⟨z, rfl, hz, hww⟩
  rw [hww]; clear hww w'
  have HZ : Hid (z ≤ 16384 → bulkL l ≤ 16384) := hz
  clear hz
  by_cases c1 : 16384 < z
  · have d1 : decide ((z : Int) > 16384) = true := by simp; omega
    go_wp2
    go_ret
    exact ⟨rfl, gr_refl _⟩
  have d1 : decide ((z : Int) > 16384) = false := by simp; omega
  by_cases c2 : (l.length : Int) < n
  · have d2 : decide (n > (l.length : Int)) = true := by simp; omega
    go_wp2
    go_ret
    exact ⟨rfl, gr_refl _⟩
  have d2 : decide (n > (l.length : Int)) = false := by simp; omega
  by_cases c3 : m < 0
  · have d3 : decide (m < 0) = true := by simp; omega
    go_wp2
    go_ret
    exact ⟨rfl, gr_refl _⟩
  have d3 : decide (m < 0) = false := by simp; omega
  by_cases c4 : n < m
  · have d4 : decide (m > n) = true := by simp; omega
    go_wp2
    go_ret
    exact ⟨rfl, gr_refl _⟩
  have d4 : decide (m > n) = false := by simp; omega
  obtain ⟨hbl, hbs⟩ := bulk_mem (HZ.out (by omega))
  obtain ⟨N, rfl⟩ : ∃ N : Nat, n = (N : Int) := ⟨n.toNat, by omega⟩
  obtain ⟨M, rfl⟩ : ∃ M : Nat, m = (M : Int) := ⟨m.toNat, by omega⟩
  have d2' : decide (l.length < N) = false := by simp; omega
  have d4' : decide (N < M) = false := by simp; omega
  have HBS : Hid (∀ s ∈ l, s.length ≤ 16384) := hbs
  clear HSP HZ HS hbs
  go_wp2_with fail
  refine (new_any w).mono ?_
  rintro e w1 ⟨H, rfl, hR, hH, hG1⟩
  have HR : Hid (RefAt w1 H) := hR
  clear hR
  have b0 : (0 : Int) ≤ (N : Int) := by omega
  have b1 : (N : Int) ≤ (l.length : Int) := by omega
  have b2 : (N : Int) ≤ (cap : Int) := by omega
  have b3 : (0 : Int) ≤ (M : Int) := by omega
  have b4 : (M : Int) ≤ (l.length : Int) := by omega
  have b5 : (M : Int) ≤ (cap : Int) := by omega
  have hlt : (l.take N).length = N := by rw [List.length_take]; omega
  have hltM : (l.take M).length = M := by rw [List.length_take]; omega
  have HVT : Hid (StrsIs w (.slice sp N cap) (l.take N)) := HV.out.take N (by omega)
  have HVM : Hid (StrsIs w (.slice sp M cap) (l.take M)) := HV.out.take M (by omega)
  have HST : Hid (∀ s ∈ l.take N, s.length < 999999999) := fun s hs => by have := HBS.out s (List.mem_of_mem_take hs); omega
  have HSM : Hid (∀ s ∈ l.take M, s.length < 999999999) := fun s hs => by have := HBS.out s (List.mem_of_mem_take hs); omega
  clear hn1 hn2 hm1 hm2 hl
  go_upto_if 41 with fail
  go_cut [15] (fun s15 wc => ∃ p, SumsOwn wc w1.heap.size s15 p ∧ p.length ≤ 16384 ∧ w1.grownBy wc none)
  case first =>
    by_cases hM0 : 0 < M
    · have dM : decide ((M : Int) > 0) = true := by simp; omega
      have dM' : decide (0 < M) = true := by simp; omega
      go_wp2_with fail
      refine (bet_any H N (l.take N) M true _ w1 (by omega) (by omega) (by omega) HR.out hH (HVT.out.gr hG1) HST.out (by omega)).mono ?_
      rintro e w2 ⟨p, vp, hp, rfl, hown, hG2⟩
      have hpl := hp.short (by omega) (by omega)
      have hpl2 : p.length ≤ 16384 := by omega
      have HP : Hid (SumsOwn w2 w1.heap.size vp p) := hown
      clear hp hown
      go_wp2
      go_meet
      exact ⟨p, HP.out, hpl2, hG2⟩
    · obtain rfl : M = 0 := by omega
      go_wp2
      go_meet
      exact ⟨[], ⟨by simp, fun _ => rfl, World.ownsRow_nil _ _ _ _⟩, by simp, gr_refl _⟩
  case rest =>
    obtain ⟨p, hown, hpl, hGc⟩ := hcut
    have HOWN : Hid (SumsOwn wc w1.heap.size u15 p) := hown
    clear hown
    go_wp2_with fail
    refine (bent_any p _ u15 how k b wc HOWN.out (by omega) HK.out.1.1 HK.out.1.2 HK.out.2.1.1 HK.out.2.1.2 HK.out.2.2.1 HK.out.2.2.2).mono ?_
    rintro e w3 ⟨qs, vq, rfl, hq, hql, hG3⟩
    have HQ : Hid (SumsIs w3 vq qs) := hq
    have hG13 := gr_trans hGc hG3
    clear hq HOWN hGc hG3
    go_wp2_with fail
    have hG03 := gr_trans hG1 hG13
    refine (root_any H M (l.take M) _ w3 (by omega) (RefAt.gr HR.out hH hG13) (by have := hG13.size; omega) (HVM.out.gr hG03) HSM.out (by omega)).mono ?_
    rintro e w4 ⟨r1, _, hr1, rfl, hG4⟩
    have hG34 := hG4
    have hX0 : w3.heap.size ≤ w4.heap.size := hG4.size
    have hX00 : w1.heap.size ≤ w3.heap.size := hG13.size
    have hG14 := gr_trans hG13 hG4
    have hG04 := gr_trans hG1 hG14
    obtain ⟨HI1, HO1, HN1⟩ := sum25 r1 hr1
    generalize eR1 : (r1.map ub).toArray = R1 at *
    clear hG13 hG03 hG4
    go_wp2_with (first | (refine store_new rfl 25 _ _ rfl R1 _ _ rfl rfl HI1.out HO1.out HN1.out ?_; intro W5 hW5 hs5 hG5))
    have hG15 := gr_trans hG14 hG5
    have hG05 := gr_trans hG1 hG15
    have hG35 := gr_trans hG34 hG5
    clear hG14 hG04 hG34
    refine (root_any H N (l.take N) _ W5 (by omega) (RefAt.gr HR.out hH hG15) (by have := hG15.size; omega) (HVT.out.gr hG05) HST.out (by omega)).mono ?_
    rintro e w6 ⟨r2, _, hr2, rfl, hG6⟩
    have hW6 : w6.heap[w4.heap.size]? = some (.cells R1 25 (0, 0)) := (hG6.block _ (by omega) (by simp)).trans hW5
    have hs6 : w4.heap.size < w6.heap.size := (Array.getElem?_eq_some_iff.1 hW6).1
    have hG16 := gr_trans hG15 hG6
    have hG36 := gr_trans hG35 hG6
    obtain ⟨HI2, HO2, HN2⟩ := sum25 r2 hr2
    generalize eR2 : (r2.map ub).toArray = R2 at *
    clear hG15 hG05 hG35 hG6 hW5 hs5 hG5 HVT HVM HST HSM
    generalize w4.heap.size = X at *
    go_wp2_with (first | (refine store_new rfl 25 _ _ rfl R2 _ _ rfl rfl HI2.out HO2.out HN2.out ?_; intro W7 hW7 hs7 hG7; have hX7 := (hG7.block _ hs6 (by simp)).trans hW6))
    have hG17 := gr_trans hG16 hG7
    have hG37 := gr_trans hG36 hG7
    have hY0 : w3.heap.size ≤ w6.heap.size := hG36.size
    have hXY : X ≠ w6.heap.size := by omega
    have hX1 : w1.heap.size ≤ X := by omega
    have hY1 : w1.heap.size ≤ w6.heap.size := hG16.size
    have hYs : w6.heap.size < W7.heap.size := by omega
    have hXs : X < W7.heap.size := by omega
    clear hG16 hG36 hW6 hs6 hG7 hs7
    generalize w6.heap.size = Y at *
    refine (pick_any k 9 (by omega) (by omega) HK.out.2.1.1 HK.out.2.1.2 W7).mono ?_
    rintro e w' ⟨p9, rfl, _, hww⟩
    rw [hww]; clear hww w'
    have HZ1 : Hid (R1.size = 32) := by
      show _ = _
      rw [← eR1]; simp [hr1]
    have HZ2 : Hid (R2.size = 32) := by
      show _ = _
      rw [← eR2]; simp [hr2]
    have h9 : p9 = 0 ∨ p9 = 1 ∨ p9 = 2 ∨ p9 = 3 ∨ 3 < p9 := by omega
    rcases h9 with rfl | rfl | rfl | rfl | h9
    · go_wp2_with fail
      refine (mark_any b W7).mono ?_
      rintro e w8 ⟨s, hsl, rfl, hG8⟩
      obtain ⟨HIs, HOs, HNs⟩ := sum25 s hsl
      have hX8 : w8.heap[X]? = some (.cells R1 25 (0, 0)) := (hG8.block _ hXs (by simp)).trans hX7
      have hY8 : w8.heap[Y]? = some (.cells R2 25 (0, 0)) := (hG8.block _ hYs (by simp)).trans hW7
      have HZs : Hid (R1.size = (s.map ub).toArray.size) := by
        show _ = _
        rw [HZ1.out]; simp [hsl]
      go_upto_region 20 with (refine wpList_store_row rfl 25 _ _ rfl X (s.map ub).toArray rfl rfl 25 _ hX8 HIs.out HZs.out HNs.out ?_)
      have hXz := setRow_heap w8 X _ (s.map ub).toArray 25 _ hX8
      have hYz := (setRow_other w8 X Y (s.map ub).toArray (Ne.symm hXY)).trans hY8
      have hGz : w3.grownBy (w8.setRow X (s.map ub).toArray) none := gr_row (gr_trans hG37 hG8) _ _ hX0
      have hGz1 : w1.grownBy (w8.setRow X (s.map ub).toArray) none := gr_row (gr_trans hG17 hG8) _ _ hX1
      generalize w8.setRow X (s.map ub).toArray = Z at *
      obtain ⟨HIx, _, _⟩ := sum25 s hsl
      obtain ⟨HIy, _, _⟩ := sum25 r2 hr2
      have hG1Z := hGz1
      have hG0Z := gr_trans hG1 hG1Z
      have hQZ := HQ.out.gr (hGz)
      have HQZ : Hid (SumsIs Z vq qs) := hQZ
      have hXf : Z.heap[X]? = some (.cells ((s).map ub).toArray 25 (0, 0)) := hXz
      have hYf : Z.heap[Y]? = some (.cells ((r2).map ub).toArray 25 (0, 0)) := by rw [eR2]; exact hYz
      clear hQZ HQ hG37 hG17 hX7 hW7 eR1 eR2
      generalize eLx : ((s).map ub).toArray = LX at *
      generalize eLy : ((r2).map ub).toArray = LY at *
      go_wp2_with (first | refine wpList_load_row rfl 25 _ rfl X rfl 25 _ (0, 0) _ hXf Tryd.underlying25 rfl HIx.out ?_ | refine wpList_load_row rfl 25 _ rfl Y rfl 25 _ (0, 0) _ hYf Tryd.underlying25 rfl HIy.out ?_)
      have hE := extd_any qs (M : Int) (N : Int) (by omega) s r2 vq Z hsl hr2 (by have := hG0Z.size; omega) (HT.out.gr hG0Z hw) HQZ.out (by omega)
      rw [eLx, eLy] at hE
      refine hE.mono ?_
      clear hE
      rintro e w9 ⟨rfl, hG9⟩
      have hX9 : w9.heap[X]? = some (.cells LX 25 (0, 0)) := (hG9.block _ (Array.getElem?_eq_some_iff.1 hXf).1 (by simp)).trans hXf
      have hY9 : w9.heap[Y]? = some (.cells LY 25 (0, 0)) := (hG9.block _ (Array.getElem?_eq_some_iff.1 hYf).1 (by simp)).trans hYf
      have hG19 := gr_trans hG1Z hG9
      have hE2 := rext_any H qs (M : Int) (N : Int) (by omega) s r2 vq w9 hsl hr2 (RefAt.gr HR.out hH hG19) (by have := hG19.size; omega) (HQZ.out.gr hG9) (by omega)
      rw [eLx, eLy] at hE2
      generalize extB qs.reverse (M : Int) (N : Int) s r2 = BB at *
      have HE2 : Hid (Calls Tryd.prog 33 #[.pointer (some ⟨H, 0, none⟩), .int .i64 (M : Int), .int .i64 (N : Int), vq, .agg LX, .agg LY] w9 fun e w' => e = .returned (.bool BB) ∧ w9.grownBy w' none) := hE2
      clear hE2
      go_wp2_with (first | refine wpList_load_row rfl 25 _ rfl X rfl 25 _ (0, 0) _ hX9 Tryd.underlying25 rfl HIx.out ?_ | refine wpList_load_row rfl 25 _ rfl Y rfl 25 _ (0, 0) _ hY9 Tryd.underlying25 rfl HIy.out ?_)
      refine Calls.mono HE2.out ?_
      rintro e w10 ⟨rfl, hG10⟩
      have hGF := gr_trans hG1 (gr_trans hG19 hG10)
      clear HE2
      go_wp2
      go_ret
      exact ⟨rfl, hGF⟩
    · go_wp2_with fail
      refine (mark_any b W7).mono ?_
      rintro e w8 ⟨s, hsl, rfl, hG8⟩
      obtain ⟨HIs, HOs, HNs⟩ := sum25 s hsl
      have hX8 : w8.heap[X]? = some (.cells R1 25 (0, 0)) := (hG8.block _ hXs (by simp)).trans hX7
      have hY8 : w8.heap[Y]? = some (.cells R2 25 (0, 0)) := (hG8.block _ hYs (by simp)).trans hW7
      have HZs : Hid (R2.size = (s.map ub).toArray.size) := by
        show _ = _
        rw [HZ2.out]; simp [hsl]
      go_upto_region 20 with (refine wpList_store_row rfl 25 _ _ rfl Y (s.map ub).toArray rfl rfl 25 _ hY8 HIs.out HZs.out HNs.out ?_)
      have hYz := setRow_heap w8 Y _ (s.map ub).toArray 25 _ hY8
      have hXz := (setRow_other w8 Y X (s.map ub).toArray hXY).trans hX8
      have hGz : w3.grownBy (w8.setRow Y (s.map ub).toArray) none := gr_row (gr_trans hG37 hG8) _ _ hY0
      have hGz1 : w1.grownBy (w8.setRow Y (s.map ub).toArray) none := gr_row (gr_trans hG17 hG8) _ _ hY1
      generalize w8.setRow Y (s.map ub).toArray = Z at *
      obtain ⟨HIx, _, _⟩ := sum25 r1 hr1
      obtain ⟨HIy, _, _⟩ := sum25 s hsl
      have hG1Z := hGz1
      have hG0Z := gr_trans hG1 hG1Z
      have hQZ := HQ.out.gr (hGz)
      have HQZ : Hid (SumsIs Z vq qs) := hQZ
      have hXf : Z.heap[X]? = some (.cells ((r1).map ub).toArray 25 (0, 0)) := by rw [eR1]; exact hXz
      have hYf : Z.heap[Y]? = some (.cells ((s).map ub).toArray 25 (0, 0)) := hYz
      clear hQZ HQ hG37 hG17 hX7 hW7 eR1 eR2
      generalize eLx : ((r1).map ub).toArray = LX at *
      generalize eLy : ((s).map ub).toArray = LY at *
      go_wp2_with (first | refine wpList_load_row rfl 25 _ rfl X rfl 25 _ (0, 0) _ hXf Tryd.underlying25 rfl HIx.out ?_ | refine wpList_load_row rfl 25 _ rfl Y rfl 25 _ (0, 0) _ hYf Tryd.underlying25 rfl HIy.out ?_)
      have hE := extd_any qs (M : Int) (N : Int) (by omega) r1 s vq Z hr1 hsl (by have := hG0Z.size; omega) (HT.out.gr hG0Z hw) HQZ.out (by omega)
      rw [eLx, eLy] at hE
      refine hE.mono ?_
      clear hE
      rintro e w9 ⟨rfl, hG9⟩
      have hX9 : w9.heap[X]? = some (.cells LX 25 (0, 0)) := (hG9.block _ (Array.getElem?_eq_some_iff.1 hXf).1 (by simp)).trans hXf
      have hY9 : w9.heap[Y]? = some (.cells LY 25 (0, 0)) := (hG9.block _ (Array.getElem?_eq_some_iff.1 hYf).1 (by simp)).trans hYf
      have hG19 := gr_trans hG1Z hG9
      have hE2 := rext_any H qs (M : Int) (N : Int) (by omega) r1 s vq w9 hr1 hsl (RefAt.gr HR.out hH hG19) (by have := hG19.size; omega) (HQZ.out.gr hG9) (by omega)
      rw [eLx, eLy] at hE2
      generalize extB qs.reverse (M : Int) (N : Int) r1 s = BB at *
      have HE2 : Hid (Calls Tryd.prog 33 #[.pointer (some ⟨H, 0, none⟩), .int .i64 (M : Int), .int .i64 (N : Int), vq, .agg LX, .agg LY] w9 fun e w' => e = .returned (.bool BB) ∧ w9.grownBy w' none) := hE2
      clear hE2
      go_wp2_with (first | refine wpList_load_row rfl 25 _ rfl X rfl 25 _ (0, 0) _ hX9 Tryd.underlying25 rfl HIx.out ?_ | refine wpList_load_row rfl 25 _ rfl Y rfl 25 _ (0, 0) _ hY9 Tryd.underlying25 rfl HIy.out ?_)
      refine Calls.mono HE2.out ?_
      rintro e w10 ⟨rfl, hG10⟩
      have hGF := gr_trans hG1 (gr_trans hG19 hG10)
      clear HE2
      go_wp2
      go_ret
      exact ⟨rfl, hGF⟩
    · go_upto_region 20 with fail
      obtain ⟨HIx, _, _⟩ := sum25 r1 hr1
      obtain ⟨HIy, _, _⟩ := sum25 r2 hr2
      have hG1Z := gr_trans hG17 (gr_refl W7)
      have hG0Z := gr_trans hG1 hG1Z
      have hQZ := HQ.out.gr (gr_trans hG37 (gr_refl W7))
      have HQZ : Hid (SumsIs W7 vq qs) := hQZ
      have hXf : W7.heap[X]? = some (.cells ((r1).map ub).toArray 25 (0, 0)) := by rw [eR1]; exact hX7
      have hYf : W7.heap[Y]? = some (.cells ((r2).map ub).toArray 25 (0, 0)) := by rw [eR2]; exact hW7
      clear hQZ HQ hG37 hG17 hX7 hW7 eR1 eR2
      generalize eLx : ((r1).map ub).toArray = LX at *
      generalize eLy : ((r2).map ub).toArray = LY at *
      go_wp2_with (first | refine wpList_load_row rfl 25 _ rfl X rfl 25 _ (0, 0) _ hXf Tryd.underlying25 rfl HIx.out ?_ | refine wpList_load_row rfl 25 _ rfl Y rfl 25 _ (0, 0) _ hYf Tryd.underlying25 rfl HIy.out ?_)
      have hE := extd_any qs b (N : Int) (by omega) r1 r2 vq W7 hr1 hr2 (by have := hG0Z.size; omega) (HT.out.gr hG0Z hw) HQZ.out (by omega)
      rw [eLx, eLy] at hE
      refine hE.mono ?_
      clear hE
      rintro e w9 ⟨rfl, hG9⟩
      have hX9 : w9.heap[X]? = some (.cells LX 25 (0, 0)) := (hG9.block _ (Array.getElem?_eq_some_iff.1 hXf).1 (by simp)).trans hXf
      have hY9 : w9.heap[Y]? = some (.cells LY 25 (0, 0)) := (hG9.block _ (Array.getElem?_eq_some_iff.1 hYf).1 (by simp)).trans hYf
      have hG19 := gr_trans hG1Z hG9
      have hE2 := rext_any H qs b (N : Int) (by omega) r1 r2 vq w9 hr1 hr2 (RefAt.gr HR.out hH hG19) (by have := hG19.size; omega) (HQZ.out.gr hG9) (by omega)
      rw [eLx, eLy] at hE2
      generalize extB qs.reverse b (N : Int) r1 r2 = BB at *
      have HE2 : Hid (Calls Tryd.prog 33 #[.pointer (some ⟨H, 0, none⟩), .int .i64 b, .int .i64 (N : Int), vq, .agg LX, .agg LY] w9 fun e w' => e = .returned (.bool BB) ∧ w9.grownBy w' none) := hE2
      clear hE2
      go_wp2_with (first | refine wpList_load_row rfl 25 _ rfl X rfl 25 _ (0, 0) _ hX9 Tryd.underlying25 rfl HIx.out ?_ | refine wpList_load_row rfl 25 _ rfl Y rfl 25 _ (0, 0) _ hY9 Tryd.underlying25 rfl HIy.out ?_)
      refine Calls.mono HE2.out ?_
      rintro e w10 ⟨rfl, hG10⟩
      have hGF := gr_trans hG1 (gr_trans hG19 hG10)
      clear HE2
      go_wp2
      go_ret
      exact ⟨rfl, hGF⟩
    · go_upto_region 20 with fail
      obtain ⟨HIx, _, _⟩ := sum25 r1 hr1
      obtain ⟨HIy, _, _⟩ := sum25 r2 hr2
      have hG1Z := gr_trans hG17 (gr_refl W7)
      have hG0Z := gr_trans hG1 hG1Z
      have hQZ := HQ.out.gr (gr_trans hG37 (gr_refl W7))
      have HQZ : Hid (SumsIs W7 vq qs) := hQZ
      have hXf : W7.heap[X]? = some (.cells ((r1).map ub).toArray 25 (0, 0)) := by rw [eR1]; exact hX7
      have hYf : W7.heap[Y]? = some (.cells ((r2).map ub).toArray 25 (0, 0)) := by rw [eR2]; exact hW7
      clear hQZ HQ hG37 hG17 hX7 hW7 eR1 eR2
      generalize eLx : ((r1).map ub).toArray = LX at *
      generalize eLy : ((r2).map ub).toArray = LY at *
      go_wp2_with (first | refine wpList_load_row rfl 25 _ rfl X rfl 25 _ (0, 0) _ hXf Tryd.underlying25 rfl HIx.out ?_ | refine wpList_load_row rfl 25 _ rfl Y rfl 25 _ (0, 0) _ hYf Tryd.underlying25 rfl HIy.out ?_)
      have hE := extd_any qs (M : Int) b (HK.out.2.2.2) r1 r2 vq W7 hr1 hr2 (by have := hG0Z.size; omega) (HT.out.gr hG0Z hw) HQZ.out (by omega)
      rw [eLx, eLy] at hE
      refine hE.mono ?_
      clear hE
      rintro e w9 ⟨rfl, hG9⟩
      have hX9 : w9.heap[X]? = some (.cells LX 25 (0, 0)) := (hG9.block _ (Array.getElem?_eq_some_iff.1 hXf).1 (by simp)).trans hXf
      have hY9 : w9.heap[Y]? = some (.cells LY 25 (0, 0)) := (hG9.block _ (Array.getElem?_eq_some_iff.1 hYf).1 (by simp)).trans hYf
      have hG19 := gr_trans hG1Z hG9
      have hE2 := rext_any H qs (M : Int) b (HK.out.2.2.2) r1 r2 vq w9 hr1 hr2 (RefAt.gr HR.out hH hG19) (by have := hG19.size; omega) (HQZ.out.gr hG9) (by omega)
      rw [eLx, eLy] at hE2
      generalize extB qs.reverse (M : Int) b r1 r2 = BB at *
      have HE2 : Hid (Calls Tryd.prog 33 #[.pointer (some ⟨H, 0, none⟩), .int .i64 (M : Int), .int .i64 b, vq, .agg LX, .agg LY] w9 fun e w' => e = .returned (.bool BB) ∧ w9.grownBy w' none) := hE2
      clear hE2
      go_wp2_with (first | refine wpList_load_row rfl 25 _ rfl X rfl 25 _ (0, 0) _ hX9 Tryd.underlying25 rfl HIx.out ?_ | refine wpList_load_row rfl 25 _ rfl Y rfl 25 _ (0, 0) _ hY9 Tryd.underlying25 rfl HIy.out ?_)
      refine Calls.mono HE2.out ?_
      rintro e w10 ⟨rfl, hG10⟩
      have hGF := gr_trans hG1 (gr_trans hG19 hG10)
      clear HE2
      go_wp2
      go_ret
      exact ⟨rfl, hGF⟩
    · have e0 : ((p9 : Int) == 0) = false := by rw [beq_eq_false_iff_ne]; omega
      have e1 : ((p9 : Int) == 1) = false := by rw [beq_eq_false_iff_ne]; omega
      have e2 : ((p9 : Int) == 2) = false := by rw [beq_eq_false_iff_ne]; omega
      have e3 : ((p9 : Int) == 3) = false := by rw [beq_eq_false_iff_ne]; omega
      go_upto_region 20 with fail
      obtain ⟨HIx, _, _⟩ := sum25 r1 hr1
      obtain ⟨HIy, _, _⟩ := sum25 r2 hr2
      have hG1Z := gr_trans hG17 (gr_refl W7)
      have hG0Z := gr_trans hG1 hG1Z
      have hQZ := HQ.out.gr (gr_trans hG37 (gr_refl W7))
      have HQZ : Hid (SumsIs W7 vq qs) := hQZ
      have hXf : W7.heap[X]? = some (.cells ((r1).map ub).toArray 25 (0, 0)) := by rw [eR1]; exact hX7
      have hYf : W7.heap[Y]? = some (.cells ((r2).map ub).toArray 25 (0, 0)) := by rw [eR2]; exact hW7
      clear hQZ HQ hG37 hG17 hX7 hW7 eR1 eR2
      generalize eLx : ((r1).map ub).toArray = LX at *
      generalize eLy : ((r2).map ub).toArray = LY at *
      go_wp2_with (first | refine wpList_load_row rfl 25 _ rfl X rfl 25 _ (0, 0) _ hXf Tryd.underlying25 rfl HIx.out ?_ | refine wpList_load_row rfl 25 _ rfl Y rfl 25 _ (0, 0) _ hYf Tryd.underlying25 rfl HIy.out ?_)
      have hE := extd_any qs (M : Int) (N : Int) (by omega) r1 r2 vq W7 hr1 hr2 (by have := hG0Z.size; omega) (HT.out.gr hG0Z hw) HQZ.out (by omega)
      rw [eLx, eLy] at hE
      refine hE.mono ?_
      clear hE
      rintro e w9 ⟨rfl, hG9⟩
      have hX9 : w9.heap[X]? = some (.cells LX 25 (0, 0)) := (hG9.block _ (Array.getElem?_eq_some_iff.1 hXf).1 (by simp)).trans hXf
      have hY9 : w9.heap[Y]? = some (.cells LY 25 (0, 0)) := (hG9.block _ (Array.getElem?_eq_some_iff.1 hYf).1 (by simp)).trans hYf
      have hG19 := gr_trans hG1Z hG9
      have hE2 := rext_any H qs (M : Int) (N : Int) (by omega) r1 r2 vq w9 hr1 hr2 (RefAt.gr HR.out hH hG19) (by have := hG19.size; omega) (HQZ.out.gr hG9) (by omega)
      rw [eLx, eLy] at hE2
      generalize extB qs.reverse (M : Int) (N : Int) r1 r2 = BB at *
      have HE2 : Hid (Calls Tryd.prog 33 #[.pointer (some ⟨H, 0, none⟩), .int .i64 (M : Int), .int .i64 (N : Int), vq, .agg LX, .agg LY] w9 fun e w' => e = .returned (.bool BB) ∧ w9.grownBy w' none) := hE2
      clear hE2
      go_wp2_with (first | refine wpList_load_row rfl 25 _ rfl X rfl 25 _ (0, 0) _ hX9 Tryd.underlying25 rfl HIx.out ?_ | refine wpList_load_row rfl 25 _ rfl Y rfl 25 _ (0, 0) _ hY9 Tryd.underlying25 rfl HIy.out ?_)
      refine Calls.mono HE2.out ?_
      rintro e w10 ⟨rfl, hG10⟩
      have hGF := gr_trans hG1 (gr_trans hG19 hG10)
      clear HE2
      go_wp2
      go_ret
      exact ⟨rfl, hGF⟩
end Go.Proofs.YtplhlhjakapaaaaDoor
