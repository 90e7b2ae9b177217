/-
  rootskeep.Binding: true of all arguments.
-/
import Derived.Test.YtplhlhjakapaaaaDoorChain
import Derived.Test.YtplhlhjakapaaaaDoorSums
import Derived.Test.YtplhlhjakapaaaaDoorStands
import Derived.Deep.DeepCutAuto
namespace Go.Proofs.YtplhlhjakapaaaaDoor
open Go Go.RowKit

theorem mkS_toList (l : List UInt8) : (mkS l).toList = l := by
  rw [ByteArray.toList_eq] <;> simp [mkS]

set_option maxHeartbeats 8000000 in
set_option maxRecDepth 100000 in
theorem binding_any (x y p q : List UInt8) (i n : Int) (w : World) (hw : 1 < w.heap.size) (hT : Tab w) (hx : x.length < 140737488355328) (hy : y.length < 140737488355328) (hp : p.length < 140737488355328) (hq : q.length < 140737488355328) (hi : In64 i) (hn : In64 n) :
    Calls Tryd.prog 11 #[.string (mkS x), .string (mkS y), .int .i64 i, .int .i64 n, .string (mkS p), .string (mkS q)] w fun e w' => e = .returned (.bool true) ∧ w.grownBy w' none := by
  have HT : Hid (Tab w) := hT
  have hsz := size_mkS
  obtain ⟨hi1, hi2⟩ := hi
  obtain ⟨hn1, hn2⟩ := hn
  clear hT
  go_enter Tryd.func11, Tryd.ntmps11
  go_wp2_with fail
  refine (stands_any w hw HT.out).mono ?_
  rintro e w1 ⟨rfl, hG1⟩
  by_cases c1 : 4096 < x.length + y.length + p.length + q.length
  · have d1 : decide ((x.length : Int) + (y.length : Int) + (p.length : Int) + (q.length : Int) > 4096) = true := by simp; omega
    go_wp2
    go_ret
    exact ⟨rfl, hG1⟩
  have d1 : decide ((x.length : Int) + (y.length : Int) + (p.length : Int) + (q.length : Int) > 4096) = false := by simp; omega
  have d1' : decide (x.length + y.length + p.length + q.length > 4096) = false := by simp; omega
  clear hx hy hp hq
  go_wp2_with fail
  refine (sums_any p (by omega) w1).mono ?_
  rintro e w2 ⟨va, pa, rfl, hoa, hla, hG2⟩
  have HA2 : Hid (SumsIs w2 va pa) := hoa.is
  clear hoa
  go_wp2_with fail
  refine (sums_any q (by omega) w2).mono ?_
  rintro e w3 ⟨vb, pb, rfl, hob, hlb, hG3⟩
  have HB : Hid (SumsIs w3 vb pb) := hob.is
  have HA : Hid (SumsIs w3 va pa) := HA2.out.gr hG3
  have hG03 := gr_trans hG1 (gr_trans hG2 hG3)
  clear hob HA2 hG1 hG2 hG3
  by_cases early : i < 0 ∨ n ≤ i ∨ 1073741824 < n
  · by_cases a1 : i < 0
    · have d2 : decide (i < 0) = true := by simp; omega
      obtain ⟨cx, V, hcv, hGV, hSV⟩ := conv_slice w3 x
      have hG0V := gr_trans hG03 hGV
      go_wp2_with fail
      refine (incl_any x pa i n (List.replicate 32 0) _ va V rfl (by omega) (by have := hG0V.size; omega) (HT.out.gr hG0V hw) hSV (by omega) (HA.out.gr hGV) (by omega)).mono ?_
      rintro e w4 ⟨rfl, hG4⟩
      have hG04 := gr_trans hG0V hG4
      have hB : i < 0 → inclB pa.reverse i n (sha (0 :: x)) (List.replicate 32 0) = false := fun h => by
        unfold inclB; rw [decide_eq_false (by omega)]; rfl
      generalize inclB pa.reverse i n (sha (0 :: x)) (List.replicate 32 0) = B at hB ⊢
      clear hcv hGV hSV hG4 hG0V HA HB
      by_cases a5 : i < 0
      · rw [hB a5]
        go_wp2
        go_ret
        exact ⟨rfl, hG04⟩
      · have d5 : decide (i ≥ 0) = true := by simp; omega
        clear hB
        cases B
        · go_wp2
          go_ret
          exact ⟨rfl, hG04⟩
        · go_wp2
          go_ret
          exact ⟨rfl, hG04⟩
    have d2 : decide (i < 0) = false := by simp; omega
    by_cases a2 : n ≤ i
    · have d3 : decide (i ≥ n) = true := by simp; omega
      obtain ⟨cx, V, hcv, hGV, hSV⟩ := conv_slice w3 x
      have hG0V := gr_trans hG03 hGV
      go_wp2_with fail
      refine (incl_any x pa i n (List.replicate 32 0) _ va V rfl (by omega) (by have := hG0V.size; omega) (HT.out.gr hG0V hw) hSV (by omega) (HA.out.gr hGV) (by omega)).mono ?_
      rintro e w4 ⟨rfl, hG4⟩
      have hG04 := gr_trans hG0V hG4
      have hB : i < 0 → inclB pa.reverse i n (sha (0 :: x)) (List.replicate 32 0) = false := fun h => by
        unfold inclB; rw [decide_eq_false (by omega)]; rfl
      generalize inclB pa.reverse i n (sha (0 :: x)) (List.replicate 32 0) = B at hB ⊢
      clear hcv hGV hSV hG4 hG0V HA HB
      by_cases a5 : i < 0
      · rw [hB a5]
        go_wp2
        go_ret
        exact ⟨rfl, hG04⟩
      · have d5 : decide (i ≥ 0) = true := by simp; omega
        clear hB
        cases B
        · go_wp2
          go_ret
          exact ⟨rfl, hG04⟩
        · go_wp2
          go_ret
          exact ⟨rfl, hG04⟩
    have d3 : decide (i ≥ n) = false := by simp; omega
    have d4 : decide (n > 1073741824) = true := by simp; omega
    obtain ⟨cx, V, hcv, hGV, hSV⟩ := conv_slice w3 x
    have hG0V := gr_trans hG03 hGV
    go_wp2_with fail
    refine (incl_any x pa i n (List.replicate 32 0) _ va V rfl (by omega) (by have := hG0V.size; omega) (HT.out.gr hG0V hw) hSV (by omega) (HA.out.gr hGV) (by omega)).mono ?_
    rintro e w4 ⟨rfl, hG4⟩
    have hG04 := gr_trans hG0V hG4
    have hB : i < 0 → inclB pa.reverse i n (sha (0 :: x)) (List.replicate 32 0) = false := fun h => by
      unfold inclB; rw [decide_eq_false (by omega)]; rfl
    generalize inclB pa.reverse i n (sha (0 :: x)) (List.replicate 32 0) = B at hB ⊢
    clear hcv hGV hSV hG4 hG0V HA HB
    by_cases a5 : i < 0
    · rw [hB a5]
      go_wp2
      go_ret
      exact ⟨rfl, hG04⟩
    · have d5 : decide (i ≥ 0) = true := by simp; omega
      clear hB
      cases B
      · go_wp2
        go_ret
        exact ⟨rfl, hG04⟩
      · go_wp2
        go_ret
        exact ⟨rfl, hG04⟩
  obtain ⟨N, rfl⟩ : ∃ N : Nat, n = (N : Int) := ⟨n.toNat, by omega⟩
  obtain ⟨I, rfl⟩ : ∃ I : Nat, i = (I : Int) := ⟨i.toNat, by omega⟩
  have d2 : decide ((I : Int) < 0) = false := by simp
  have d3 : decide ((I : Int) ≥ (N : Int)) = false := by simp; omega
  have d3' : decide (N ≤ I) = false := by simp; omega
  have d4 : decide ((N : Int) > 1073741824) = false := by simp; omega
  clear hi1 hi2 hn1 hn2
  go_wp2_with fail
  have hpa : pa.reverse.reverse = pa := List.reverse_reverse pa
  have hpb : pb.reverse.reverse = pb := List.reverse_reverse pb
  refine (chain_any pa.reverse I N x va w3 (by omega) (by omega) (by omega) (by have := hG03.size; omega) (HT.out.gr hG03 hw) (by rw [hpa]; exact HA.out) (by rw [List.length_reverse]; omega)).mono ?_
  rintro e w4 ⟨v1, rfl, hv1, hG4⟩
  have hne := chainL_ne pa.reverse I N x
  have hlen1 := chainL_len pa.reverse I N x
  have hsh1 := chainL_short pa.reverse (fun s hs => HA.out.1 s (List.mem_reverse.1 hs)) I N x
  obtain ⟨o0, ot, hone⟩ : ∃ b0 bt, chainL pa.reverse I N x = b0 :: bt := by
    cases h : chainL pa.reverse I N x with
    | nil => exact absurd h hne
    | cons x y => exact ⟨x, y, rfl⟩
  have HV1 : Hid (StrsIs w4 v1 (o0 :: ot)) := hone ▸ hv1
  have HONE : Hid (chainL pa.reverse I N x = o0 :: ot) := hone
  rw [hone] at hlen1 hsh1
  have HSH1 : Hid (∀ t ∈ o0 :: ot, t.length ≤ x.length + 65) := hsh1
  clear hne hone hv1 hsh1
  obtain ⟨sp1, cp1, rfl, hcp1, hsp1⟩ := id HV1.out
  obtain ⟨g1, f1, rfl, hg1, hcl1⟩ := hsp1 (by simp)
  have c0 : w4.cell? ⟨g1, f1, none⟩ = some (.string (mkS o0)) := hcl1 0 o0 rfl
  have HCL1 : Hid (∀ k s, (o0 :: ot)[k]? = some s → w4.cell? ⟨g1, f1 + k, none⟩ = some (.string (mkS s))) := hcl1
  clear hcl1 hsp1
  rw [List.length_cons] at hcp1 hlen1 ⊢
  have z0 : (0 : Int) < (ot.length : Int) + 1 := by omega
  have ho0 : o0.length ≤ x.length + 65 := HSH1.out o0 (by simp)
  obtain ⟨cc, V, hcv, hGV, hSV⟩ := conv_slice w4 o0
  have hG04 := gr_trans hG03 hG4
  have hG0V := gr_trans hG04 hGV
  go_wp2_with fail
  refine (hash_any o0 _ V (by have := hG0V.size; omega) (HT.out.gr hG0V hw) (by omega) hSV).mono ?_
  rintro e w5 ⟨rfl, hG5⟩
  have hG45 := gr_trans hGV hG5
  have hG05 := gr_trans hG04 hG45
  have hG35 := gr_trans hG4 hG45
  clear hcv hGV hSV hG5 hG0V c0 z0 hG04 hG4
  have hrl := length_sha o0
  obtain ⟨HI, HO, HN⟩ := sum25 (sha o0) hrl
  generalize er : sha o0 = r at hrl HI HO HN ⊢
  have HER : Hid (sha o0 = r) := er
  clear er
  go_wp2_with (first | (refine wpList_load_row rfl 25 _ rfl w5.heap.size rfl 25 _ (0, 0) _ hWV6 Tryd.underlying25 rfl HI.out ?_) | (refine store_new rfl 25 _ _ rfl (r.map ub).toArray _ _ rfl rfl HI.out HO.out HN.out ?_; intro W6 hW6 hs6 hG6; clear hs6; obtain ⟨cx, V6, hcv6, hGV6, hSV6⟩ := conv_slice W6 x; have hWV6 := (hGV6.block _ (Array.getElem?_eq_some_iff.1 hW6).1 (by simp)).trans hW6))
  have hG56 := gr_trans hG6 hGV6
  have hG06 := gr_trans hG05 hG56
  have hG36 := gr_trans hG35 hG56
  have hG46 := gr_trans hG45 hG56
  refine (incl_any x pa (I : Int) (N : Int) r _ va V6 hrl (by omega) (by have := hG06.size; omega) (HT.out.gr hG06 hw) hSV6 (by omega) (HA.out.gr hG36) (by omega)).mono ?_
  rintro e w7 ⟨rfl, hG7⟩
  have hR7 := (hG7.block _ (Array.getElem?_eq_some_iff.1 hWV6).1 (by simp)).trans hWV6
  have hG07 := gr_trans hG06 hG7
  have hG37 := gr_trans hG36 hG7
  have hG47 := gr_trans hG46 hG7
  clear hcv6 hSV6 hGV6 hWV6 hW6 hG6 hG56 hG06 hG36 hG46 hG7 hG05 hG35 hG45
  obtain ⟨cy, V7, hcv7, hGV7, hSV7⟩ := conv_slice w7 y
  have hWV7 := (hGV7.block _ (Array.getElem?_eq_some_iff.1 hR7).1 (by simp)).trans hR7
  have hG0V := gr_trans hG07 hGV7
  generalize eB1 : inclB pa.reverse (I : Int) (N : Int) (sha (0 :: x)) r = B1
  go_wp2_with (first | (refine wpList_load_row rfl 25 _ rfl w5.heap.size rfl 25 _ (0, 0) _ hWV7 Tryd.underlying25 rfl HI.out ?_))
  refine (incl_any y pb (I : Int) (N : Int) r _ vb V7 hrl (by omega) (by have := hG0V.size; omega) (HT.out.gr hG0V hw) hSV7 (by omega) (HB.out.gr (gr_trans hG37 hGV7)) (by omega)).mono ?_
  rintro e w8 ⟨rfl, hG8⟩
  have hG78 := gr_trans hGV7 hG8
  have hG08 := gr_trans hG07 hG78
  have hG38 := gr_trans hG37 hG78
  have hG48 := gr_trans hG47 hG78
  generalize eB2 : inclB pb.reverse (I : Int) (N : Int) (sha (0 :: y)) r = B2
  have EB1 : Hid _ := eB1
  have EB2 : Hid _ := eB2
  clear hcv7 hSV7 hGV7 hWV7 hR7 hG0V hG8 hG78 hG07 hG37 hG47 eB1 eB2
  cases B1
  · go_wp2
    go_ret
    exact ⟨rfl, hG08⟩
  cases B2
  · go_wp2
    go_ret
    exact ⟨rfl, hG08⟩
  by_cases hxy : x = y
  · have dxy : ((mkS x).toList == (mkS y).toList) = true := by rw [hxy]; simp
    go_wp2
    go_ret
    exact ⟨rfl, hG08⟩
  have dxy : ((mkS x).toList == (mkS y).toList) = false := by rw [mkS_toList, mkS_toList]; simpa using hxy
  go_wp2_with fail
  refine (chain_any pb.reverse I N y vb w8 (by omega) (by omega) (by omega) (by have := hG08.size; omega) (HT.out.gr hG08 hw) (by rw [hpb]; exact HB.out.gr hG38) (by rw [List.length_reverse]; omega)).mono ?_
  rintro e w9 ⟨v2, rfl, hv2, hG9⟩
  have hne := chainL_ne pb.reverse I N y
  have hlen2 := chainL_len pb.reverse I N y
  have hsh2 := chainL_short pb.reverse (fun s hs => HB.out.1 s (List.mem_reverse.1 hs)) I N y
  have u1 : upR pa.reverse I N (sha (0 :: x)) = some r := by
    have h := EB1.out
    simp only [inclB, Bool.and_eq_true, decide_eq_true_eq, Int.toNat_natCast, beq_iff_eq] at h
    exact h.2
  have u2 : upR pb.reverse I N (sha (0 :: y)) = some r := by
    have h := EB2.out
    simp only [inclB, Bool.and_eq_true, decide_eq_true_eq, Int.toNat_natCast, beq_iff_eq] at h
    exact h.2
  obtain ⟨K, k1, k2, k3, k4, k5⟩ := chains_part pa.reverse pb.reverse I N x y r (fun s hs => HA.out.1 s (List.mem_reverse.1 hs)) (fun s hs => HB.out.1 s (List.mem_reverse.1 hs)) u1 u2 hxy
  rw [HONE.out] at k1 k3 k4 k5
  clear u1 u2 EB1 EB2 HONE HER HA HB dxy hpa hpb
  generalize chainL pb.reverse I N y = twos at *
  generalize hones : o0 :: ot = ones at *
  have ho1 : ot.length + 1 = ones.length := by rw [← hones]; simp
  clear hones
  have HV2 : Hid (StrsIs w9 v2 twos) := hv2
  have HSH2 : Hid (∀ t ∈ twos, t.length ≤ y.length + 65) := hsh2
  obtain ⟨sp2, cp2, rfl, hcp2, hsp2⟩ := hv2
  obtain ⟨g2, f2, rfl, hg2, hcl2⟩ := hsp2 (by omega)
  have HCL2 : Hid (∀ k s, twos[k]? = some s → w9.cell? ⟨g2, f2 + k, none⟩ = some (.string (mkS s))) := hcl2
  have HK3 : Hid (∀ j, j < K → ones.getD j [] = twos.getD j []) := k3
  have HK4 : Hid (ones.getD K [] ≠ twos.getD K []) := k4
  have HK5 : Hid (sha (ones.getD K []) = sha (twos.getD K [])) := k5
  have hG09 := gr_trans hG08 hG9
  have hG49 := gr_trans hG48 hG9
  clear hcl2 hsp2 hsh2 hne k3 k4 k5 hG9 hG08 hG38 hG48 HV1 HV2
  rw [ho1] at hcp1 hlen1 ⊢
  clear ho1 ho0
  have HCA : Hid (∀ (V : World) (k : Nat), w9.grownBy V none → k < ones.length → V.cell? ⟨g1, f1 + k, none⟩ = some (.string (mkS (ones.getD k [])))) := fun V k hV hk => by
    refine (gr_cell (gr_trans hG49 hV) (p := ⟨g1, f1 + k, none⟩) hg1).trans (HCL1.out k _ ?_)
    rw [List.getD_eq_getElem?_getD, List.getElem?_eq_getElem hk]; rfl
  have HCB : Hid (∀ (V : World) (k : Nat), w9.grownBy V none → k < twos.length → V.cell? ⟨g2, f2 + k, none⟩ = some (.string (mkS (twos.getD k [])))) := fun V k hV hk => by
    refine (gr_cell hV (p := ⟨g2, f2 + k, none⟩) hg2).trans (HCL2.out k _ ?_)
    rw [List.getD_eq_getElem?_getD, List.getElem?_eq_getElem hk]; rfl
  clear HCL1 HCL2
  have hK5 : K ≤ 5000 := by rw [List.length_reverse] at hlen1; omega
  have hx4 : x.length ≤ 4096 := by omega
  have hy4 : y.length ≤ 4096 := by omega
  clear hlen1 hlen2 c1 d1 d1' hla hlb early d2 d3 d3' d4 hG03 hG49 hrl hxy
  go_wp2
  go_loopw [22] (fun j wr => ∃ k : Nat, k ≤ K ∧ j = .int .i64 (k : Int) ∧ w9.grownBy wr none)
    (fun j _ => K - (intOf j).toNat)
  case atStart => exact ⟨0, by omega, rfl, gr_refl _⟩
  case round =>
    obtain ⟨k, hk, rfl, hG⟩ := hrel
    have hk5 : k ≤ 5000 := by omega
    have t1 : decide ((k : Int) < (ones.length : Int)) = true := by simp; omega
    have t2 : decide ((k : Int) < (twos.length : Int)) = true := by simp; omega
    have t1' : (k : Int) < (ones.length : Int) := by omega
    have t2' : (k : Int) < (twos.length : Int) := by omega
    have e1 := HCA.out wr k hG (by omega)
    have e2 := HCB.out wr k hG (by omega)
    by_cases hkK : k < K
    · have hab := HK3.out k hkK
      rw [hab] at e1
      generalize twos.getD k [] = a at e1 e2
      clear hab HK3 HK4 HK5 HCA HCB
      have dab : ((mkS a).toList == (mkS a).toList) = true := by simp
      go_wp2
      refine wp_region_still_tail 8 (by kernel_rfl) (by decide +kernel) ?_
      simp only [List.take_succ_cons, List.take_zero, List.drop_succ_cons, List.drop_zero]
      iterate 8 still_step
      refine wpStill_nil ?_
      have hGd : w9.grownBy wr.drew none := gr_drew hG
      clear e1 e2 hG
      go_wp2
      exact ⟨⟨k + 1, by omega, by go_num, hGd⟩, by simp [intOf]; omega⟩
    · obtain rfl : k = K := by omega
      have hma : ones.getD k [] ∈ ones := by
        rw [List.getD_eq_getElem?_getD, List.getElem?_eq_getElem k1]; exact List.getElem_mem _
      have hmb : twos.getD k [] ∈ twos := by
        rw [List.getD_eq_getElem?_getD, List.getElem?_eq_getElem k2]; exact List.getElem_mem _
      have hla := HSH1.out _ hma
      have hlb := HSH2.out _ hmb
      have hab := HK4.out
      have hse := HK5.out
      have HSE : Hid (sha (ones.getD k []) = sha (twos.getD k [])) := hse
      have HCB' : Hid (∀ V : World, w9.grownBy V none → V.cell? ⟨g2, f2 + k, none⟩ = some (.string (mkS (twos.getD k [])))) := fun V hV => HCB.out V k hV k2
      have HCA' : Hid (∀ V : World, w9.grownBy V none → V.cell? ⟨g1, f1 + k, none⟩ = some (.string (mkS (ones.getD k [])))) := fun V hV => HCA.out V k hV k1
      clear hma hmb HK3 HK4 HK5 HCA HCB HSH1 HSH2
      generalize ones.getD k [] = a at *
      generalize twos.getD k [] = b at *
      have dab : ((mkS a).toList == (mkS b).toList) = false := by rw [mkS_toList, mkS_toList]; simpa using hab
      go_wp2
      refine wp_region_still_tail 8 (by kernel_rfl) (by decide +kernel) ?_
      simp only [List.take_succ_cons, List.take_zero, List.drop_succ_cons, List.drop_zero]
      iterate 8 still_step
      refine wpStill_nil ?_
      have hGd : w9.grownBy wr.drew none := gr_drew hG
      clear e1 e2 hG
      have e1 := HCA'.out wr.drew hGd
      obtain ⟨ca, V, hcv, hGV, hSV⟩ := conv_slice wr.drew a
      have hG9V := gr_trans hGd hGV
      have hG0V := gr_trans hG09 hG9V
      go_wp2_with fail
      refine (hash_any a _ V (by have := hG0V.size; omega) (HT.out.gr hG0V hw) (by omega) hSV).mono ?_
      rintro e wA ⟨rfl, hGA⟩
      have hG9A := gr_trans hG9V hGA
      clear hcv hGV hSV hG9V hG0V hGA hGd e1
      have hal := length_sha a
      clear hse
      have HSB : Hid (∀ (v : Value) (V : World), 1 < V.heap.size → Tab V → b.length < 1152921504606846000 → SliceIs V v b → Calls Tryd.prog 15 #[v] V fun e w' => e = .returned (.agg ((sha a).map ub).toArray) ∧ V.grownBy w' none) := fun v V h1 h2 h3 h4 => by
        rw [HSE.out]; exact hash_any b v V h1 h2 h3 h4
      generalize sha a = ta at hal HSB ⊢
      clear HSE
      obtain ⟨HI, HO, HN⟩ := sum25 ta hal
      go_wp2_with (first | (refine store_new rfl 25 _ _ rfl (ta.map ub).toArray _ _ rfl rfl HI.out HO.out HN.out ?_; intro W1 hW1 hs1 hG1; clear hs1; have hG91 := gr_trans hG9A hG1; have e2 := HCB'.out W1 hG91; obtain ⟨cb, V1, hcv1, hGV1, hSV1⟩ := conv_slice W1 b))
      have hG9V := gr_trans hG91 hGV1
      have hG0V := gr_trans hG09 hG9V
      refine (HSB.out _ V1 (by have := hG0V.size; omega) (HT.out.gr hG0V hw) (by omega) hSV1).mono ?_
      rintro e wB ⟨rfl, hGB⟩
      have hG1B := gr_trans hGV1 hGB
      have hG9B := gr_trans hG91 hG1B
      have hB1 := (hG1B.block _ (Array.getElem?_eq_some_iff.1 hW1).1 (by simp)).trans hW1
      clear hcv1 hSV1 hG9V hG0V hGB hGV1 hG1B hG91 hG1 hW1 e2 HSB HCB' HCA' hG9A
      go_wp2_with (first | (refine wpList_load_row rfl 25 _ rfl wA.heap.size rfl 25 _ (0, 0) _ hW3 Tryd.underlying25 rfl HI.out ?_) | (refine wpList_load_row rfl 25 _ rfl wB.heap.size rfl 25 _ (0, 0) _ hW2 Tryd.underlying25 rfl HI.out ?_) | (refine wpList_eq25 rfl _ _ _ rfl ta ta _ _ rfl rfl hal hal rfl rfl ?_) | (refine store_new rfl 25 _ _ rfl (ta.map ub).toArray _ _ rfl rfl HI.out HO.out HN.out ?_; intro W2 hW2 hs2 hG2; clear hs2; have hW3 := (hG2.block _ (Array.getElem?_eq_some_iff.1 hB1).1 (by simp)).trans hB1))
      go_ret
      exact ⟨rfl, gr_trans hG09 (gr_trans hG9B hG2)⟩
end Go.Proofs.YtplhlhjakapaaaaDoor
