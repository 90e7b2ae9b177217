/-
  rootslaw.Included: true of all arguments.
-/
import Derived.Test.YtplhlhjakapaaaaDoorBent
import Derived.Test.YtplhlhjakapaaaaDoorConv
import Derived.Test.YtplhlhjakapaaaaDoorIncl2
import Derived.Test.YtplhlhjakapaaaaDoorIncl3
import Derived.Test.YtplhlhjakapaaaaDoorPath
import Derived.Test.YtplhlhjakapaaaaDoorRoot
import Derived.Deep.DeepCutAuto
namespace Go.Proofs.YtplhlhjakapaaaaDoor
open Go Go.RowKit

set_option maxHeartbeats 8000000 in
set_option maxRecDepth 100000 in
theorem included_any (l : List (List UInt8)) (v : Value) (j n i how k b : Int) (w : World) (hw : 1 < w.heap.size) (hT : Tab w) (hv : StrsIs w v l) (hl : l.length < 140737488355328) (hs : ∀ s ∈ l, s.length < 140737488355328)
    (hj : In64 j) (hn : In64 n) (hi : In64 i) (hhow : In64 how) (hk : In64 k) (hb : In64 b) :
    Calls Tryd.prog 7 #[v, .int .i64 j, .int .i64 n, .int .i64 i, .int .i64 how, .int .i64 k, .int .i64 b] w fun e w' => e = .returned (.bool true) ∧ w.grownBy w' none := by
  have HV : Hid (StrsIs w v l) := hv
  have HT : Hid (Tab w) := hT
  have HS : Hid (∀ s ∈ l, s.length < 140737488355328) := hs
  have HK : Hid (In64 i ∧ In64 how ∧ In64 k ∧ In64 b) := ⟨hi, hhow, hk, hb⟩
  obtain ⟨sp, cap, rfl, hcap, hsp⟩ := hv
  have HSP : Hid _ := hsp
  clear hT hs hsp hi hhow hk hb
  obtain ⟨hj1, hj2⟩ := hj
  obtain ⟨hn1, hn2⟩ := hn
  go_enter Tryd.func7, Tryd.ntmps7
  go_wp2_with fail
  refine (size_any l _ w HV.out hl HS.out).mono ?_
  rintro e w' ⟨z, rfl, hz, hww⟩
  rw [hww]; clear hww w'
  have HZ : Hid (z ≤ 16384 → bulkL l ≤ 16384) := hz
  clear hz
  by_cases c1 : 16384 < z
  · have d1 : decide ((z : Int) > 16384) = true := by simp; omega
    go_wp2
    go_ret
    exact ⟨rfl, gr_refl _⟩
  have d1 : decide ((z : Int) > 16384) = false := by simp; omega
  by_cases c2 : (l.length : Int) < n
  · have d2 : decide (n > (l.length : Int)) = true := by simp; omega
    go_wp2
    go_ret
    exact ⟨rfl, gr_refl _⟩
  have d2 : decide (n > (l.length : Int)) = false := by simp; omega
  by_cases c3 : j < 0
  · have d3 : decide (j < 0) = true := by simp; omega
    go_wp2
    go_ret
    exact ⟨rfl, gr_refl _⟩
  have d3 : decide (j < 0) = false := by simp; omega
  by_cases c4 : n ≤ j
  · have d4 : decide (j ≥ n) = true := by simp; omega
    go_wp2
    go_ret
    exact ⟨rfl, gr_refl _⟩
  have d4 : decide (j ≥ n) = false := by simp; omega
  obtain ⟨hbl, hbs⟩ := bulk_mem (HZ.out (by omega))
  obtain ⟨N, rfl⟩ : ∃ N : Nat, n = (N : Int) := ⟨n.toNat, by omega⟩
  obtain ⟨J, rfl⟩ : ∃ J : Nat, j = (J : Int) := ⟨j.toNat, by omega⟩
  have d2' : decide (l.length < N) = false := by simp; omega
  have d4' : decide (N ≤ J) = false := by simp; omega
  obtain ⟨g, o, rfl, hg, hcell⟩ := HSP.out (by omega)
  have HBS : Hid (∀ s ∈ l, s.length ≤ 16384) := hbs
  have HCELL : Hid _ := hcell
  clear HSP HZ HS hbs hcell
  go_wp2_with fail
  refine (new_any w).mono ?_
  rintro e w1 ⟨H, rfl, hR, hH, hG1⟩
  have HR : Hid (RefAt w1 H) := hR
  clear hR
  have b0 : (0 : Int) ≤ (N : Int) := by omega
  have b1 : (N : Int) ≤ (l.length : Int) := by omega
  have b2 : (N : Int) ≤ (cap : Int) := by omega
  go_wp2_with fail
  have hvt := HV.out.take N (by omega)
  have hlt : (l.take N).length = N := by rw [List.length_take]; omega
  have HVT : Hid (StrsIs w (.slice (some ⟨g, o, none⟩) N cap) (l.take N)) := hvt
  have HST : Hid (∀ s ∈ l.take N, s.length < 999999999) := fun s hs => by have := HBS.out s (List.mem_of_mem_take hs); omega
  clear hvt
  refine (path_any H N (l.take N) J _ w1 (by omega) (by omega) HR.out hH (HVT.out.gr hG1) HST.out (by omega)).mono ?_
  rintro e w2 ⟨p, vp, hp, rfl, hown, hG2⟩
  have hpl := hp.short (by omega)
  have HOWN : Hid (SumsOwn w2 w1.heap.size vp p) := hown
  clear hp hown
  go_wp2_with fail
  refine (bent_any p _ vp how k b w2 HOWN.out (by omega) HK.out.2.1.1 HK.out.2.1.2 HK.out.2.2.1.1 HK.out.2.2.1.2 HK.out.2.2.2.1 HK.out.2.2.2.2).mono ?_
  rintro e w3 ⟨qs, vq, rfl, hq, hql, hG3⟩
  have HQ : Hid (SumsIs w3 vq qs) := hq
  have hG13 := gr_trans hG2 hG3
  clear hq HOWN hG2 hG3
  go_wp2_with fail
  have hG03 := gr_trans hG1 hG13
  refine (root_any H N (l.take N) _ w3 (by omega) (RefAt.gr HR.out hH hG13) (by have := hG13.size; omega) (HVT.out.gr hG03) HST.out (by omega)).mono ?_
  rintro e w4 ⟨r, _, hrl, rfl, hG4⟩
  have hG04 := gr_trans hG03 hG4
  have hG14 := gr_trans hG13 hG4
  have HQ4 : Hid (SumsIs w4 vq qs) := HQ.out.gr hG4
  clear hG03 hG13 hG4 HQ HVT HST
  obtain ⟨HI, HO, HN⟩ := sum25 r hrl
  generalize eR : (r.map ub).toArray = R at *
  go_wp2_with (first | (refine store_new rfl 25 _ _ rfl R _ _ rfl rfl HI.out HO.out HN.out ?_; intro W5 hW5 hs5 hG5))
  have hG05 := gr_trans hG04 hG5
  have hG15 := gr_trans hG14 hG5
  have HQ5 : Hid (SumsIs W5 vq qs) := HQ4.out.gr hG5
  have hB0 : w.heap.size ≤ w4.heap.size := hG04.size
  have hB1 : w1.heap.size ≤ w4.heap.size := hG14.size
  have HQ6 : Hid (∀ Z : World, w4.grownBy Z none → SumsIs Z vq qs) := fun Z hZ => HQ4.out.gr hZ
  clear HQ4 HQ5 hn1 hn2 hj1 hj2 hl
  refine (pick_any k 9 (by omega) (by omega) HK.out.2.2.1.1 HK.out.2.2.1.2 W5).mono ?_
  rintro e w' ⟨p9, rfl, _, hww⟩
  rw [hww]; clear hww w'
  go_upto_if 60 with fail
  go_cut [] (fun wc => ∃ R1 : List UInt8, R1.length = 32 ∧ wc.heap[w4.heap.size]? = some (.cells (R1.map ub).toArray 25 (0, 0)) ∧ w4.grownBy wc none)
  case first =>
    by_cases hp0 : p9 = 0
    · subst hp0
      go_wp2_with fail
      refine (mark_any b W5).mono ?_
      rintro e w6 ⟨s, hsl, rfl, hG6⟩
      obtain ⟨HIs, HOs, HNs⟩ := sum25 s hsl
      have hW6 : w6.heap[w4.heap.size]? = some (.cells R 25 (0, 0)) := (hG6.block _ (by omega) (by simp)).trans hW5
      have HZ : Hid (R.size = (s.map ub).toArray.size) := by
        show _ = _
        rw [← eR]; simp [hrl, hsl]
      go_wp2_with (refine wpList_store_row rfl 25 _ _ rfl w4.heap.size (s.map ub).toArray rfl rfl 25 _ hW6 HIs.out HZ.out HNs.out ?_)
      go_meet
      exact ⟨s, hsl, setRow_heap _ _ _ _ 25 _ hW6, gr_row (gr_trans hG5 hG6) _ _ (Nat.le_refl _)⟩
    · have d5 : ((p9 : Int) == 0) = false := by rw [beq_eq_false_iff_ne]; omega
      go_wp2
      go_meet
      exact ⟨r, hrl, by rw [eR]; exact hW5, hG5⟩
  case rest =>
    obtain ⟨R1, hR1, hW6, hG6⟩ := hcut
    clear hW5 hG5 hs5 hG05 hG15 HI HO HN
    go_wp2_with fail
    refine (pick_any b 3 (by omega) (by omega) HK.out.2.2.2.1 HK.out.2.2.2.2 wc).mono ?_
    rintro e w' ⟨p3, rfl, _, hww⟩
    rw [hww]; clear hww w'
    go_upto_if 65 with fail
    go_cut [3] (fun s3 wd => ∃ i' : Int, s3 = .int .i64 i' ∧ wd = wc)
    case first =>
      by_cases hp0 : 0 < p3
      · have d5 : decide ((p3 : Int) > 0) = true := by simp; omega
        go_wp2
        go_meet
        exact ⟨_, rfl, rfl⟩
      · have d5 : decide ((p3 : Int) > 0) = false := by simp; omega
        go_wp2
        go_meet
        exact ⟨_, rfl, rfl⟩
    case rest =>
      obtain ⟨i', rfl, rfl⟩ := hcut
      go_wp2_with fail
      refine (pick_any b 7 (by omega) (by omega) HK.out.2.2.2.1 HK.out.2.2.2.2 _).mono ?_
      rintro e w' ⟨p7, rfl, _, hww⟩
      rw [hww]; clear hww w'
      go_upto_if 70 with fail
      go_cut [19] (fun s19 wd => ∃ m' : Int, s19 = .int .i64 m' ∧ Lt63 m' ∧ wd = wc)
      case first =>
        by_cases hp0 : p7 = 0
        · subst hp0
          go_wp2
          go_meet
          exact ⟨_, rfl, HK.out.2.2.1.2, rfl⟩
        · have d5 : ((p7 : Int) == 0) = false := by rw [beq_eq_false_iff_ne]; omega
          go_wp2
          go_meet
          exact ⟨_, rfl, by unfold Lt63; omega, rfl⟩
      case rest =>
        obtain ⟨m', rfl, hm', rfl⟩ := hcut
        obtain ⟨s, hsJ⟩ : ∃ s, l[J]? = some s := ⟨_, List.getElem?_eq_getElem (by omega)⟩
        have hsl : s.length ≤ 16384 := HBS.out s (List.mem_of_getElem? hsJ)
        have hG06 : w.grownBy wc none := gr_trans hG04 hG6
        have hG16 : w1.grownBy wc none := gr_trans hG14 hG6
        have HS : Hid (∀ V : World, wc.grownBy V none → V.cell? ⟨g, o + J, none⟩ = some (.string (mkS s)) ∧ V.rangeAt w4.heap.size 0 (R1.map ub)) := fun V hV =>
          ⟨(gr_cell (gr_trans hG06 hV) (p := ⟨g, o + J, none⟩) hg).trans (HCELL.out J s hsJ), fun q x hq => by
            have hb : V.heap[w4.heap.size]? = some (.cells (R1.map ub).toArray 25 (0, 0)) := (hV.block _ (Array.getElem?_eq_some_iff.1 hW6).1 (by simp)).trans hW6
            rw [Nat.zero_add, cell_of_row V _ _ _ _ _ hb]; simpa using hq⟩
        have HrI : Hid ((Tryd.prog.info? 25).map (·.size) = some (R1.map ub).length) := by
          show _ = _
          rw [info25' (R := (R1.map ub).toArray) rfl hR1]; simp
        have HQW : Hid (∀ V : World, wc.grownBy V none → SumsIs V vq qs) := fun V hV => HQ6.out V (gr_trans hG6 hV)
        have HRW : Hid (∀ V : World, wc.grownBy V none → RefAt V H ∧ H < V.heap.size) := fun V hV => ⟨RefAt.gr HR.out hH (gr_trans hG16 hV), by have := (gr_trans hG16 hV).size; omega⟩
        have HTW : Hid (∀ V : World, wc.grownBy V none → 1 < V.heap.size ∧ Tab V) := fun V hV => ⟨by have := (gr_trans hG06 hV).size; omega, HT.out.gr (gr_trans hG06 hV) hw⟩
        have hqs : qs.length < 1000000000 := by omega
        have bJ0 : (0 : Int) ≤ (J : Int) := by omega
        have bJ1 : (J : Int) < (l.length : Int) := by omega
        have HM : Hid (Lt63 m') := hm'
        clear hm' HR HT HQ6 HCELL HBS HV HK hG16 hG14 hG04 hG6 hW6 hG1 hH hsJ hpl hql hlt d1 d2 d3 d4 d2' d4' c1 c2 c3 c4 b0 b1 b2 hB0 hB1 eR hrl hbl hcap
        generalize w4.heap.size = B4 at *
        go_wp2_with fail
        obtain ⟨cc, V, hcv, hGV, hSl⟩ := conv_slice wc.drew s
        have hGD : wc.grownBy wc.drew none := gr_drew (gr_refl _)
        have hGV' := gr_trans hGD hGV
        refine wp_region_noPanic ?_
        refine wp_region_T (last := 10) (S := fun w' => w'.cell? ⟨g, o + J, none⟩ = some (.string (mkS s)) ∧ w'.rangeAt B4 0 (R1.map ub)) (by kernel_rfl) (HS.out _ hGD) (fun hHeld => ?_)
        refine wpAnyT_take (i := 0) (oi := { dst := some 72, op := Op.move (Operand.tmp 0), type := 30, pos := "calls.go:147", after := #[], guard := none }) (v := ?_) rfl (by kernel_rfl) (by kernel_rfl) (by kernel_rfl) (fun _ _ _ h => h) (by kernel_rfl) (Or.inl ⟨by rfl, ?_⟩) (by assumption) ?_
        rotate_left
        · intro w' hSw
          try dsimp only at hSw
          go_simp
          try with_reducible rfl
        simp only [Act.put, List.setIfInBounds_toArray, List.set_cons_zero, List.set_cons_succ]
        refine wpAnyT_take (i := 1) (oi := { dst := some 73, op := Op.move (Operand.tmp 1), type := 3, pos := "calls.go:147", after := #[], guard := none }) (v := ?_) rfl (by kernel_rfl) (by kernel_rfl) (by kernel_rfl) (fun _ _ _ h => h) (by kernel_rfl) (Or.inl ⟨by rfl, ?_⟩) (by assumption) ?_
        rotate_left
        · intro w' hSw
          try dsimp only at hSw
          go_simp
          try with_reducible rfl
        simp only [Act.put, List.setIfInBounds_toArray, List.set_cons_zero, List.set_cons_succ]
        refine wpAnyT_take (i := 2) (oi := { dst := some 74, op := Op.indexAddr 30 (Operand.tmp 72) (Operand.tmp 73), type := 0, pos := "calls.go:147", after := #[{ on := 0, ground := Ground.data }, { on := 1, ground := Ground.data }], guard := none }) (v := ?_) rfl (by kernel_rfl) (by kernel_rfl) (by kernel_rfl) (fun _ _ _ h => h) (by kernel_rfl) (Or.inl ⟨by rfl, ?_⟩) (by assumption) ?_
        rotate_left
        · intro w' hSw
          try dsimp only at hSw
          go_simp
          try with_reducible rfl
        simp only [Act.put, List.setIfInBounds_toArray, List.set_cons_zero, List.set_cons_succ]
        refine wpAnyT_take (i := 3) (oi := { dst := some 75, op := Op.load 9 (Operand.tmp 74), type := 9, pos := "calls.go:147", after := #[{ on := 2, ground := Ground.data }], guard := none }) (v := ?_) rfl (by kernel_rfl) (by kernel_rfl) (by kernel_rfl) (fun _ _ _ h => h) (by kernel_rfl) (Or.inl ⟨by rfl, ?_⟩) (by assumption) ?_
        rotate_left
        · intro w' hSw
          try dsimp only at hSw
          go_simp
          try with_reducible rfl
        simp only [Act.put, List.setIfInBounds_toArray, List.set_cons_zero, List.set_cons_succ]
        refine wpAnyT_take (i := 5) (oi := { dst := some 77, op := Op.move (Operand.tmp 3), type := 3, pos := "calls.go:147", after := #[], guard := none }) (v := ?_) rfl (by kernel_rfl) (by kernel_rfl) (by kernel_rfl) (fun _ _ _ h => h) (by kernel_rfl) (Or.inl ⟨by rfl, ?_⟩) (by assumption) ?_
        rotate_left
        · intro w' hSw
          try dsimp only at hSw
          go_simp
          try with_reducible rfl
        simp only [Act.put, List.setIfInBounds_toArray, List.set_cons_zero, List.set_cons_succ]
        refine wpAnyT_take (i := 6) (oi := { dst := some 78, op := Op.move (Operand.tmp 19), type := 3, pos := "calls.go:147", after := #[], guard := none }) (v := ?_) rfl (by kernel_rfl) (by kernel_rfl) (by kernel_rfl) (fun _ _ _ h => h) (by kernel_rfl) (Or.inl ⟨by rfl, ?_⟩) (by assumption) ?_
        rotate_left
        · intro w' hSw
          try dsimp only at hSw
          go_simp
          try with_reducible rfl
        simp only [Act.put, List.setIfInBounds_toArray, List.set_cons_zero, List.set_cons_succ]
        refine wpAnyT_take (i := 7) (oi := { dst := some 79, op := Op.move (Operand.tmp 17), type := 38, pos := "calls.go:147", after := #[], guard := none }) (v := ?_) rfl (by kernel_rfl) (by kernel_rfl) (by kernel_rfl) (fun _ _ _ h => h) (by kernel_rfl) (Or.inl ⟨by rfl, ?_⟩) (by assumption) ?_
        rotate_left
        · intro w' hSw
          try dsimp only at hSw
          go_simp
          try with_reducible rfl
        simp only [Act.put, List.setIfInBounds_toArray, List.set_cons_zero, List.set_cons_succ]
        refine wpAnyT_take (i := 8) (oi := { dst := some 80, op := Op.load 25 (Operand.tmp 18), type := 25, pos := "calls.go:147", after := #[], guard := none }) (v := .agg (R1.map ub).toArray) rfl (by kernel_rfl) (by kernel_rfl) (by kernel_rfl) (fun _ _ _ h => h) (by kernel_rfl) (yieldsIf_load_mid (by rfl) _ _ rfl B4 0 rfl (R1.map ub) _ (fun w' hSw => hSw.2) Tryd.underlying25 rfl HrI.out) (by assumption) ?_
        simp only [Act.put, List.setIfInBounds_toArray, List.set_cons_zero, List.set_cons_succ]
        refine wpAnyT_one (i := 4) (o := { dst := some 76, op := Op.convert 9 27 (Operand.tmp 75), type := 27, pos := "calls.go:147", after := #[{ on := 3, ground := Ground.data }], guard := none }) rfl (by kernel_rfl) (fun K hK => ?_)
        go_simp
        refine hK.out _ _ (fun _ => HS.out _ hGV') (fun _ => ?_)
        clear hK K hHeld hcv
        try simp only [Act.put, List.setIfInBounds_toArray, List.set_cons_zero, List.set_cons_succ]
        refine wpAnyT_one (i := 9) (o := { dst := some 81, op := Op.call { callee := Callee.value (Operand.func 30), args := #[Operand.tmp 76, Operand.tmp 77, Operand.tmp 78, Operand.tmp 79, Operand.tmp 80], argTypes := #[27, 3, 3, 38, 25] }, type := 4, pos := "calls.go:147", after := #[{ on := 4, ground := Ground.data }, { on := 5, ground := Ground.data }, { on := 6, ground := Ground.data }, { on := 7, ground := Ground.data }, { on := 8, ground := Ground.data }], guard := none }) rfl (by kernel_rfl) (fun K hK => ?_)
        go_simp
        refine (incl_any s qs i' m' R1 _ vq V hR1 HM.out (HTW.out V hGV').1 (HTW.out V hGV').2 hSl (by omega) (HQW.out V hGV') hqs).mono ?_
        rintro e w7 ⟨rfl, hG7⟩
        have hG07 := gr_trans hGV' hG7
        refine hK.out _ _ (fun _ => HS.out _ hG07) (fun _ => ?_)
        clear hK K hSl hGV hG7
        try simp only [Act.put, List.setIfInBounds_toArray, List.set_cons_zero, List.set_cons_succ]
        generalize eBB : inclB qs.reverse i' m' (sha (0 :: s)) R1 = BB
        refine wpAnyT_one (i := 10) (o := { dst := some 20, op := Op.assign (Operand.tmp 81), type := 4, pos := "calls.go:147", after := #[{ on := 9, ground := Ground.data }, { on := 9, ground := Ground.chain }, { on := 0, ground := Ground.phase }, { on := 1, ground := Ground.phase }, { on := 2, ground := Ground.phase }, { on := 3, ground := Ground.phase }, { on := 4, ground := Ground.phase }, { on := 5, ground := Ground.phase }, { on := 6, ground := Ground.phase }, { on := 7, ground := Ground.phase }, { on := 8, ground := Ground.phase }, { on := 9, ground := Ground.phase }], guard := none }) rfl (by kernel_rfl) (fun K hK => ?_)
        go_simp
        refine hK.out _ _ (fun h => absurd rfl h) (fun _ => ?_)
        clear hK K
        try simp only [Act.put, List.setIfInBounds_toArray, List.set_cons_zero, List.set_cons_succ]
        refine wpAnyT_done (by kernel_rfl) ?_ _
        refine NoPanic.normal ?_
        clear hGV'
        go_wp2
        obtain ⟨cS, rS⟩ := HS.out w7 hG07
        have rS' : World.rangeAt { w7 with drawn := w7.drawn + 1 } B4 0 (R1.map ub) := rS
        refine wp_region_still_tail 9 (by kernel_rfl) (by decide +kernel) ?_
        simp only [List.take_succ_cons, List.take_zero, List.drop_succ_cons, List.drop_zero]
        iterate 8 still_step
        refine still_load (by rfl) 25 _ rfl B4 0 rfl (R1.map ub) _ rS' Tryd.underlying25 rfl HrI.out ?_
        refine wpStill_nil ?_
        have hGd : wc.grownBy { w7 with drawn := w7.drawn + 1 } none := gr_drew hG07
        generalize ({ w7 with drawn := w7.drawn + 1 } : World) = V7 at hGd ⊢
        clear rS rS' cS
        go_wp2_with fail
        refine (rincl_any H s qs i' m' R1 vq V7 hR1 HM.out (HRW.out _ hGd).1 (HRW.out _ hGd).2 (by omega) (HQW.out _ hGd) hqs).mono ?_
        rintro e w8 ⟨rfl, hG8⟩
        rw [eBB]
        have hG08 := gr_trans hG06 (gr_trans hGd hG8)
        go_wp2
        go_ret
        exact ⟨rfl, hG08⟩
end Go.Proofs.YtplhlhjakapaaaaDoor
