/-
  tree.extend's contract.
-/
import Derived.Test.YtplhlhjakapaaaaDoorExt
import Derived.Test.YtplhlhjakapaaaaDoorClimb
namespace Go.Proofs.YtplhlhjakapaaaaDoor
open Go Go.RowKit

theorem wp_pair {o : Oper} {a : Act} {w : World} {K : Act → World → Prop} {Q : Exit → Act → World → Prop} (x y : Operand) (ho : o.op = .build 144 #[(0, x), (1, y)]) (F A : Value) (hx : a.eval x = F) (hy : a.eval y = A) (P : Array Value) (hP : Tryd.prog.built 144 [(0, F), (1, A)] = some P) (h : K (a.put o.dst (.agg P)) w) : Oper.wp Tryd.prog o a w K Q := by
  have e : Tryd.prog.built 144 (#[(0, x), (1, y)].map fun (i, x) => (i, a.eval x)).toList = some P := by simpa [hx, hy] using hP
  refine wp_build 144 _ ho (by rw [e]; rfl) ?_
  rw [e]
  exact h

theorem pair_range {w : World} {B : Nat} {F A : List UInt8} (hF : F.length = 32) (h : w.heap[B]? = some (.cells (pairC F A) 144 (0, 0))) : w.rangeAt B 0 (F.map ub) ∧ w.rangeAt B 32 (A.map ub) := by
  refine ⟨fun j v hj => ?_, fun j v hj => ?_⟩
  · have hj' : j < 32 := by have := (List.getElem?_eq_some_iff.1 hj).1; simpa [hF] using this
    rw [Nat.zero_add, cell_of_row w _ _ _ _ _ h]
    unfold pairC
    rw [List.getElem?_toArray, List.map_append, List.getElem?_append_left (by simpa [hF] using hj')]
    exact hj
  · rw [cell_of_row w _ _ _ _ _ h]
    unfold pairC
    rw [List.getElem?_toArray, List.map_append, List.getElem?_append_right (by simp [hF]), List.length_map, hF, Nat.add_sub_cancel_left]
    exact hj

set_option maxHeartbeats 40000000 in
set_option maxRecDepth 100000 in
theorem ext_any (rs : List (List UInt8)) : ∀ (m n : Nat) (a : List UInt8) (known : Bool) (v : Value) (w : World), a.length = 32 → 1 ≤ m → m ≤ n → n < 9223372036854775808 → 1 < w.heap.size → Tab w → SumsIs w v rs.reverse → rs.length < 1000000000 →
    Calls Tryd.prog 96 #[.int .i64 (m : Int), .int .i64 (n : Int), v, .agg (a.map ub).toArray, .bool known] w fun e w' => ∃ f al, f.length = 32 ∧ al.length = 32 ∧ e = .returned (.tuple #[.agg (pairC f al), .bool (extR rs m n a known).isSome]) ∧ (∀ t, extR rs m n a known = some t → (f, al) = t) ∧ w.grownBy w' none := by
  induction rs with
  | nil =>
    intro m n a known v w hl hm1 hmn hn hw hT hv hr
    by_cases h1 : m = n ∧ known = true
    · obtain ⟨rfl, rfl⟩ := h1
      refine (ext_known [] m a v w hl hv hr).mono ?_
      rintro e w' ⟨rfl, hG⟩
      exact ⟨a, a, hl, hl, by simp [extR], by simp [extR], hG⟩
    · refine (ext_nil m n a known v w hv (by cases known <;> simp_all)).mono ?_
      rintro e w' ⟨rfl, hG⟩
      have hu : extR [] m n a known = none := by simp only [extR]; rw [if_neg h1]
      exact ⟨z32, z32, rfl, rfl, by rw [hu]; rfl, by rw [hu]; simp, hG⟩
  | cons s rest ih =>
    intro m n a known v w hl hm1 hmn hn hw hT hv hr
    by_cases h1 : m = n
    · subst h1
      cases known
      · rw [List.reverse_cons] at hv
        rw [List.length_cons] at hr
        refine (ext_last s rest m a v w hv (by omega)).mono ?_
        rintro e w' ⟨rfl, hG⟩
        have hs : s.length = 32 := hv.1 s (by simp)
        exact ⟨s, s, hs, hs, by cases rest <;> simp [extR], by cases rest <;> simp [extR], hG⟩
      · refine (ext_known (s :: rest) m a v w hl hv hr).mono ?_
        rintro e w' ⟨rfl, hG⟩
        exact ⟨a, a, hl, hl, by simp [extR], by simp [extR], hG⟩
    have hs : s.length = 32 := hv.1 s (by simp)
    have d1 : ((m : Int) == (n : Int)) = false := by rw [beq_eq_false_iff_ne]; omega
    have d1' : (m == n) = false := by rw [beq_eq_false_iff_ne]; omega
    have hn2 : 2 ≤ n := by omega
    obtain ⟨ha, hb, _, _⟩ := spl_spec n hn2 hn
    have hk1 := spl_pos n
    rw [List.reverse_cons] at hv
    rw [List.length_cons] at hr
    have HV : Hid (SumsIs w v (rest.reverse ++ [s])) := hv
    have HIH : Hid _ := ih
    have HT : Hid (Tab w) := hT
    obtain ⟨_, sp, cap, rfl, _, _⟩ := hv
    clear hT ih
    simp only [List.length_append, List.length_reverse, List.length_singleton] at HV ⊢
    generalize eR : (a.map ub).toArray = R at *
    go_enter Tryd.func96, Tryd.ntmps96
    go_wp2_with fail
    have hA := gr_trans (gr_alloc w (Obj.cells R 25)) (gr_alloc _ (Obj.cells (brow 64 []).toArray 144))
    have hL0 : ((w.alloc (Obj.cells R 25)).alloc (Obj.cells (brow 64 []).toArray 144)).heap[w.heap.size]? = some (.cells R 25 (0, 0)) := heap_alloc2_old _ _ _
    have hB0 : ((w.alloc (Obj.cells R 25)).alloc (Obj.cells (brow 64 []).toArray 144)).heap[w.heap.size + 1]? = some (.cells (brow 64 []).toArray 144 (0, 0)) := heap_alloc2_new _ _ _
    refine (take_some rest.reverse s (.slice sp (rest.length + 1) cap) ((w.alloc (Obj.cells R 25)).alloc (Obj.cells (brow 64 []).toArray 144)) (HV.out.gr hA) (by rw [List.length_reverse]; omega)).mono ?_
    rintro e w1 ⟨v', rfl, hv', hG1⟩
    have HV' : Hid (SumsIs w1 v' rest.reverse) := hv'
    have hG01 := gr_trans hA hG1
    have hL1 : w1.heap[w.heap.size]? = some (.cells R 25 (0, 0)) := (hG1.block _ (by simp; omega) (by simp)).trans hL0
    have hB1 : w1.heap[w.heap.size + 1]? = some (.cells (brow 64 []).toArray 144 (0, 0)) := (hG1.block _ (by simp) (by simp)).trans hB0
    obtain ⟨HI, HO, HN⟩ := sum25 s hs
    obtain ⟨_, sp', cap', rfl, _, _⟩ := hv'
    clear hA hL0 hB0 hG1 HV
    generalize eS : (s.map ub).toArray = S at *
    go_wp2_with (first | (refine store_new rfl 25 _ _ rfl S _ _ rfl rfl HI.out HO.out HN.out ?_; intro W2 hW2 hs2 hG2))
    refine (tsplit_any n W2 hn2 hn).mono ?_
    rintro e w' ⟨rfl, hww⟩
    rw [hww]; clear hww w'
    have hL2 : W2.heap[w.heap.size]? = some (.cells R 25 (0, 0)) := (hG2.block _ (Array.getElem?_eq_some_iff.1 hL1).1 (by simp)).trans hL1
    have hB2 : W2.heap[w.heap.size + 1]? = some (.cells (brow 64 []).toArray 144 (0, 0)) := (hG2.block _ (Array.getElem?_eq_some_iff.1 hB1).1 (by simp)).trans hB1
    have hG02 := gr_trans hG01 hG2
    have HV2 : Hid (SumsIs W2 (.slice sp' rest.length cap') rest.reverse) := by
      have := SumsIs.gr HV'.out hG2
      rwa [List.length_reverse] at this
    have HUP : Hid (extR (s :: rest) m n a known = if m ≤ spl n then (extR rest m (spl n) a known).map (fun p => (p.1, sha (nodeL 1 p.2 s))) else (extR rest (m - spl n) (n - spl n) a false).map fun p => (sha (nodeL 1 s p.1), sha (nodeL 1 s p.2))) := by
      show _ = _
      rw [extR, if_neg h1]
    have hOx : w1.heap.size < W2.heap.size := by omega
    have hO1 : w.heap.size + 2 ≤ w1.heap.size := by have := (Array.getElem?_eq_some_iff.1 hB1).1; omega
    clear hL1 hB1 hG01 hG2 HV' hs2 h1 hn2 HI HO HN
    generalize hOs : w1.heap.size = O at *
    generalize hk : spl n = k at *
    have HsI : Hid ((Tryd.prog.info? 25).map (·.size) = some (s.map ub).length) := by
      show _ = _
      rw [info25' (R := (s.map ub).toArray) rfl hs]; simp
    by_cases hik : m ≤ k
    · have d2 : decide ((m : Int) ≤ (k : Int)) = true := by simp; omega
      rw [if_pos hik] at HUP
      go_wp2_with (first | refine wpList_load_row rfl 25 _ rfl w.heap.size rfl 25 _ (0, 0) _ hL2 Tryd.underlying25 rfl (info25' eR hl) ?_)
      have hT2 : Tab W2 := HT.out.gr hG02 hw
      have hih := HIH.out m k a known (.slice sp' rest.length cap') W2 hl (by omega) (by omega) (by omega) (by omega) hT2 HV2.out (by omega)
      rw [eR] at hih
      clear hT2
      refine hih.mono ?_
      rintro e w3 ⟨f, al, hfl, hall, rfl, htop, hG3⟩
      clear hih
      obtain ⟨HI, HO, HN⟩ := sum126 f al hfl hall
      have hW3 : w3.heap[O]? = some (.cells S 25 (0, 0)) := (hG3.block _ hOx (by simp)).trans hW2
      have hB3 : w3.heap[w.heap.size + 1]? = some (.cells (brow 64 []).toArray 144 (0, 0)) := (hG3.block _ (by omega) (by simp)).trans hB2
      have hG03 := gr_trans hG02 hG3
      have hs3 : O < w3.heap.size := by have := hG3.size; omega
      have HTOP : Hid (∀ t, extR rest m k a known = some t → (f, al) = t) := htop
      clear hW2 hB2 hL2 hG02 hG3 HV2 HIH htop hOx
      generalize eok : (extR rest m k a known).isSome = okk at *
      generalize eP : pairC f al = P at *
      go_wp2_with (first | (refine store_new rfl 144 _ _ rfl P _ _ rfl rfl HI.out HO.out HN.out ?_; intro W4 hW4 hs4 hG4))
      have hW3' : W4.heap[O]? = some (.cells S 25 (0, 0)) := (hG4.block _ hs3 (by simp)).trans hW3
      have hB4 : W4.heap[w.heap.size + 1]? = some (.cells (brow 64 []).toArray 144 (0, 0)) := (hG4.block _ (by omega) (by simp)).trans hB3
      have hG04 := gr_trans hG03 hG4
      have hBO : w.heap.size + 1 < W4.heap.size := (Array.getElem?_eq_some_iff.1 hB4).1
      generalize hBe : w3.heap.size = B at *
      have hBs : B < W4.heap.size := (Array.getElem?_eq_some_iff.1 hW4).1
      subst eP
      have hSb : ∀ U : World, U.heap[B]? = some (.cells (pairC f al) 144 (0, 0)) → U.heap[O]? = some (.cells S 25 (0, 0)) → (U.rangeAt B 0 (f.map ub) ∧ U.rangeAt B 32 (al.map ub)) ∧ U.rangeAt O 0 (s.map ub) := fun U hb ho => by
        refine ⟨pair_range hfl hb, fun j x hj => ?_⟩
        rw [Nat.zero_add, cell_of_row U _ _ _ _ _ ho, ← eS]; simpa using hj
      have hbl : ∀ U : World, W4.drew.grownBy U none → U.heap[B]? = some (.cells (pairC f al) 144 (0, 0)) ∧ U.heap[O]? = some (.cells S 25 (0, 0)) := fun U hU =>
        ⟨(hU.block _ hBs (by simp)).trans hW4, (hU.block _ (Array.getElem?_eq_some_iff.1 hW3').1 (by simp)).trans hW3'⟩
      have hS : ∀ U : World, W4.drew.grownBy U none → (U.rangeAt B 0 (f.map ub) ∧ U.rangeAt B 32 (al.map ub)) ∧ U.rangeAt O 0 (s.map ub) := fun U hU => hSb U (hbl U hU).1 (hbl U hU).2
      have hBn : B ≠ w.heap.size + 1 := by omega
      have hOn : O ≠ w.heap.size + 1 := by omega
      have hG0d : w.grownBy W4.drew none := gr_drew hG04
      have HfI : Hid ((Tryd.prog.info? 25).map (·.size) = some (f.map ub).length) := by
        show _ = _
        rw [info25' (R := (f.map ub).toArray) rfl hfl]; simp
      have HaI : Hid ((Tryd.prog.info? 25).map (·.size) = some (al.map ub).length) := by
        show _ = _
        rw [info25' (R := (al.map ub).toArray) rfl hall]; simp
      have HND : Hid (∀ (x y : List UInt8) (U : World), x.length = 32 → y.length = 32 → W4.drew.grownBy U none → Calls Tryd.prog 84 #[.agg (x.map ub).toArray, .agg (y.map ub).toArray] U fun e w' => e = .returned (.agg ((sha (nodeL 1 x y)).map ub).toArray) ∧ U.grownBy w' none) := fun x y U hx hy hU =>
        tnode_any x y U (by have := (gr_trans hG0d hU).size; omega) (HT.out.gr (gr_trans hG0d hU) hw) hx hy
      clear hW3 hB3 hG03 hG4 HI HO HN hs3 hW3' hW4 hBe
      clear eS eR
      refine wp_region_noPanic ?_
      refine wp_region_T (last := 9) (S := fun w' => (w'.rangeAt B 0 (f.map ub) ∧ w'.rangeAt B 32 (al.map ub)) ∧ w'.rangeAt O 0 (s.map ub)) (by kernel_rfl) (hS _ (gr_refl _)) (fun hHeld => ?_)
      refine wpAnyT_take (i := 0) (oi := { dst := some 62, op := Op.fieldAddr 144 (Operand.tmp 15) 0, type := 0, pos := "check.go:78", after := #[], guard := none }) (v := ?_) rfl (by kernel_rfl) (by kernel_rfl) (by kernel_rfl) (fun _ _ _ h => h) (by kernel_rfl) (Or.inl ⟨by rfl, ?_⟩) (by assumption) ?_
      rotate_left
      · intro w' hSw
        try dsimp only at hSw
        go_simp
        try with_reducible rfl
      simp only [Act.put, List.setIfInBounds_toArray, List.set_cons_zero, List.set_cons_succ]
      refine wpAnyT_take (i := 1) (oi := { dst := some 63, op := Op.load 25 (Operand.tmp 62), type := 25, pos := "check.go:78", after := #[{ on := 0, ground := Ground.data }], guard := none }) (v := .agg (f.map ub).toArray) rfl (by kernel_rfl) (by kernel_rfl) (by kernel_rfl) (fun _ _ _ h => h) (by kernel_rfl) (yieldsIf_load_mid (by rfl) _ _ rfl B 0 rfl (f.map ub) _ (fun w' hSw => hSw.1.1) Tryd.underlying25 rfl HfI.out) (by assumption) ?_
      simp only [Act.put, List.setIfInBounds_toArray, List.set_cons_zero, List.set_cons_succ]
      refine wpAnyT_take (i := 2) (oi := { dst := some 64, op := Op.fieldAddr 144 (Operand.tmp 15) 1, type := 0, pos := "check.go:78", after := #[], guard := none }) (v := ?_) rfl (by kernel_rfl) (by kernel_rfl) (by kernel_rfl) (fun _ _ _ h => h) (by kernel_rfl) (Or.inl ⟨by rfl, ?_⟩) (by assumption) ?_
      rotate_left
      · intro w' hSw
        try dsimp only at hSw
        go_simp
        try with_reducible rfl
      simp only [Act.put, List.setIfInBounds_toArray, List.set_cons_zero, List.set_cons_succ]
      refine wpAnyT_take (i := 3) (oi := { dst := some 65, op := Op.load 25 (Operand.tmp 64), type := 25, pos := "check.go:78", after := #[{ on := 2, ground := Ground.data }], guard := none }) (v := .agg (al.map ub).toArray) rfl (by kernel_rfl) (by kernel_rfl) (by kernel_rfl) (fun _ _ _ h => h) (by kernel_rfl) (yieldsIf_load_mid (by rfl) _ _ rfl B 32 rfl (al.map ub) _ (fun w' hSw => hSw.1.2) Tryd.underlying25 rfl HaI.out) (by assumption) ?_
      simp only [Act.put, List.setIfInBounds_toArray, List.set_cons_zero, List.set_cons_succ]
      refine wpAnyT_take (i := 4) (oi := { dst := some 66, op := Op.load 25 (Operand.tmp 13), type := 25, pos := "check.go:78", after := #[], guard := none }) (v := .agg (s.map ub).toArray) rfl (by kernel_rfl) (by kernel_rfl) (by kernel_rfl) (fun _ _ _ h => h) (by kernel_rfl) (yieldsIf_load_mid (by rfl) _ _ rfl O 0 rfl (s.map ub) _ (fun w' hSw => hSw.2) Tryd.underlying25 rfl HsI.out) (by assumption) ?_
      simp only [Act.put, List.setIfInBounds_toArray, List.set_cons_zero, List.set_cons_succ]
      refine wpAnyT_take (i := 7) (oi := { dst := some 69, op := Op.move (Operand.tmp 16), type := 4, pos := "check.go:78", after := #[{ on := 8, ground := Ground.gcOnly Go.Departure.lateStores }], guard := none }) (v := ?_) rfl (by kernel_rfl) (by kernel_rfl) (by kernel_rfl) (fun _ _ _ h => h) (by kernel_rfl) (Or.inl ⟨by rfl, ?_⟩) (by assumption) ?_
      rotate_left
      · intro w' hSw
        try dsimp only at hSw
        go_simp
        try with_reducible rfl
      simp only [Act.put, List.setIfInBounds_toArray, List.set_cons_zero, List.set_cons_succ]
      refine wpAnyT_one (i := 5) (o := { dst := some 67, op := Op.call { callee := Callee.value (Operand.func 84), args := #[Operand.tmp 65, Operand.tmp 66], argTypes := #[25, 25] }, type := 25, pos := "check.go:78", after := #[{ on := 3, ground := Ground.data }, { on := 4, ground := Ground.data }], guard := none }) rfl (by kernel_rfl) (fun K hK => ?_)
      go_simp
      refine (HND.out al s W4.drew hall hs (gr_refl W4.drew)).mono ?_
      rintro e w5 ⟨rfl, hGc0⟩
      have hGd0 := gr_trans (gr_refl W4.drew) hGc0
      refine hK.out _ _ (fun _ => hS _ hGd0) (fun _ => ?_)
      clear hK K
      try simp only [Act.put, List.setIfInBounds_toArray, List.set_cons_zero, List.set_cons_succ]
      clear hHeld HND
      obtain ⟨HI, HO, HN⟩ := sum126 f (sha (nodeL 1 al s)) hfl (length_sha (nodeL 1 al s))
      have HBP : Hid _ := built_pair f (sha (nodeL 1 al s)) hfl (length_sha (nodeL 1 al s))
      have hB5 : w5.heap[w.heap.size + 1]? = some (.cells (brow 64 []).toArray 144 (0, 0)) := (hGd0.block _ hBO (by simp)).trans hB4
      have hG05 := gr_trans hG0d hGd0
      refine wpAnyT_one (i := 6) (o := { dst := some 68, op := Op.build 144 #[(0, Operand.tmp 63), (1, Operand.tmp 67)], type := 144, pos := "check.go:78", after := #[{ on := 1, ground := Ground.data }, { on := 5, ground := Ground.data }], guard := none }) rfl (by kernel_rfl) (fun K hK => ?_)
      rw [if_pos (by rfl)]
      refine wp_pair _ _ rfl _ _ rfl rfl (pairC f (sha (nodeL 1 al s))) HBP.out ?_
      refine hK.out _ _ (fun _ => hS _ hGd0) (fun _ => ?_)
      clear hK K
      try simp only [Act.put, List.setIfInBounds_toArray, List.set_cons_zero, List.set_cons_succ]
      refine wpAnyT_one (i := 8) (o := { dst := none, op := Op.store 144 (Operand.tmp 10) (Operand.tmp 68), type := 0, pos := "check.go:78", after := #[{ on := 6, ground := Ground.data }, { on := 5, ground := Ground.chain }, { on := 0, ground := Ground.phase }, { on := 1, ground := Ground.phase }, { on := 2, ground := Ground.phase }, { on := 3, ground := Ground.phase }, { on := 4, ground := Ground.phase }, { on := 5, ground := Ground.phase }, { on := 6, ground := Ground.phase }, { on := 7, ground := Ground.textOnly Go.Departure.lateStores }], guard := none }) rfl (by kernel_rfl) (fun K hK => ?_)
      rw [if_pos (by rfl)]
      refine wp_store_row 144 _ _ rfl (w.heap.size + 1) (pairC f (sha (nodeL 1 al s))) rfl rfl 144 _ hB5 HI.out HO.out HN.out ?_
      have hZ5 := setRow_heap w5 (w.heap.size + 1) _ (pairC f (sha (nodeL 1 al s))) 144 _ hB5
      have hGF := gr_row hG05 (w.heap.size + 1) (pairC f (sha (nodeL 1 al s))) (by omega)
      have hSF := hSb (w5.setRow (w.heap.size + 1) (pairC f (sha (nodeL 1 al s)))) ((setRow_other _ _ B _ hBn).trans (hbl _ hGd0).1) ((setRow_other _ _ O _ hOn).trans (hbl _ hGd0).2)
      refine hK.out _ _ (fun _ => hSF) (fun _ => ?_)
      clear hK K
      simp only [Act.put]
      refine wpAnyT_one (i := 9) (o := { dst := some 11, op := Op.assign (Operand.tmp 69), type := 4, pos := "check.go:78", after := #[{ on := 7, ground := Ground.data }, { on := 8, ground := Ground.chain }, { on := 0, ground := Ground.phase }, { on := 1, ground := Ground.phase }, { on := 2, ground := Ground.phase }, { on := 3, ground := Ground.phase }, { on := 4, ground := Ground.phase }, { on := 5, ground := Ground.phase }, { on := 6, ground := Ground.phase }, { on := 7, ground := Ground.phase }, { on := 8, ground := Ground.phase }], guard := none }) rfl (by kernel_rfl) (fun K hK => ?_)
      go_simp
      refine hK.out _ _ (fun h => absurd rfl h) (fun _ => ?_)
      clear hK K
      try simp only [Act.put, List.setIfInBounds_toArray, List.set_cons_zero, List.set_cons_succ]
      refine wpAnyT_done (by kernel_rfl) ?_ _
      refine NoPanic.normal ?_
      clear hS hSb hbl hSF hB4 hB5 hG05 hG0d hG04
      generalize w5.setRow (w.heap.size + 1) (pairC f (sha (nodeL 1 al s))) = V at hZ5 hGF ⊢
      generalize eQ : pairC f (sha (nodeL 1 al s)) = PP at *
      go_wp2
      refine bodyPost_ret (results_ct Tryd.results96 _ _ (w.heap.size + 1) 144 _ (0, 0) _ _ rfl rfl hZ5 Tryd.underlying144 rfl HI.out) rfl ⟨f, (sha (nodeL 1 al s)), hfl, (length_sha (nodeL 1 al s)), ?_, ?_, hGF⟩
      · rw [HUP.out, Option.isSome_map, eok, eQ]; rfl
      · intro t ht
        rw [HUP.out] at ht
        obtain ⟨t', h1, rfl⟩ := Option.map_eq_some_iff.1 ht
        rw [← HTOP.out t' h1]
    · have d2 : decide ((m : Int) ≤ (k : Int)) = false := by simp; omega
      rw [if_neg hik] at HUP
      go_wp2_with (first | refine wpList_load_row rfl 25 _ rfl w.heap.size rfl 25 _ (0, 0) _ hL2 Tryd.underlying25 rfl (info25' eR hl) ?_)
      have hT2 : Tab W2 := HT.out.gr hG02 hw
      have hih := HIH.out (m - k) (n - k) a false (.slice sp' rest.length cap') W2 hl (by omega) (by omega) (by omega) (by omega) hT2 HV2.out (by omega)
      rw [eR] at hih
      rw [show ((m - k : Nat) : Int) = (m : Int) - (k : Int) by omega, show ((n - k : Nat) : Int) = (n : Int) - (k : Int) by omega] at hih
      clear hT2
      refine hih.mono ?_
      rintro e w3 ⟨f, al, hfl, hall, rfl, htop, hG3⟩
      clear hih
      obtain ⟨HI, HO, HN⟩ := sum126 f al hfl hall
      have hW3 : w3.heap[O]? = some (.cells S 25 (0, 0)) := (hG3.block _ hOx (by simp)).trans hW2
      have hB3 : w3.heap[w.heap.size + 1]? = some (.cells (brow 64 []).toArray 144 (0, 0)) := (hG3.block _ (by omega) (by simp)).trans hB2
      have hG03 := gr_trans hG02 hG3
      have hs3 : O < w3.heap.size := by have := hG3.size; omega
      have HTOP : Hid (∀ t, extR rest (m - k) (n - k) a false = some t → (f, al) = t) := htop
      clear hW2 hB2 hL2 hG02 hG3 HV2 HIH htop hOx
      generalize eok : (extR rest (m - k) (n - k) a false).isSome = okk at *
      generalize eP : pairC f al = P at *
      go_wp2_with (first | (refine store_new rfl 144 _ _ rfl P _ _ rfl rfl HI.out HO.out HN.out ?_; intro W4 hW4 hs4 hG4))
      have hW3' : W4.heap[O]? = some (.cells S 25 (0, 0)) := (hG4.block _ hs3 (by simp)).trans hW3
      have hB4 : W4.heap[w.heap.size + 1]? = some (.cells (brow 64 []).toArray 144 (0, 0)) := (hG4.block _ (by omega) (by simp)).trans hB3
      have hG04 := gr_trans hG03 hG4
      have hBO : w.heap.size + 1 < W4.heap.size := (Array.getElem?_eq_some_iff.1 hB4).1
      generalize hBe : w3.heap.size = B at *
      have hBs : B < W4.heap.size := (Array.getElem?_eq_some_iff.1 hW4).1
      subst eP
      have hSb : ∀ U : World, U.heap[B]? = some (.cells (pairC f al) 144 (0, 0)) → U.heap[O]? = some (.cells S 25 (0, 0)) → (U.rangeAt B 0 (f.map ub) ∧ U.rangeAt B 32 (al.map ub)) ∧ U.rangeAt O 0 (s.map ub) := fun U hb ho => by
        refine ⟨pair_range hfl hb, fun j x hj => ?_⟩
        rw [Nat.zero_add, cell_of_row U _ _ _ _ _ ho, ← eS]; simpa using hj
      have hbl : ∀ U : World, W4.drew.grownBy U none → U.heap[B]? = some (.cells (pairC f al) 144 (0, 0)) ∧ U.heap[O]? = some (.cells S 25 (0, 0)) := fun U hU =>
        ⟨(hU.block _ hBs (by simp)).trans hW4, (hU.block _ (Array.getElem?_eq_some_iff.1 hW3').1 (by simp)).trans hW3'⟩
      have hS : ∀ U : World, W4.drew.grownBy U none → (U.rangeAt B 0 (f.map ub) ∧ U.rangeAt B 32 (al.map ub)) ∧ U.rangeAt O 0 (s.map ub) := fun U hU => hSb U (hbl U hU).1 (hbl U hU).2
      have hBn : B ≠ w.heap.size + 1 := by omega
      have hOn : O ≠ w.heap.size + 1 := by omega
      have hG0d : w.grownBy W4.drew none := gr_drew hG04
      have HfI : Hid ((Tryd.prog.info? 25).map (·.size) = some (f.map ub).length) := by
        show _ = _
        rw [info25' (R := (f.map ub).toArray) rfl hfl]; simp
      have HaI : Hid ((Tryd.prog.info? 25).map (·.size) = some (al.map ub).length) := by
        show _ = _
        rw [info25' (R := (al.map ub).toArray) rfl hall]; simp
      have HND : Hid (∀ (x y : List UInt8) (U : World), x.length = 32 → y.length = 32 → W4.drew.grownBy U none → Calls Tryd.prog 84 #[.agg (x.map ub).toArray, .agg (y.map ub).toArray] U fun e w' => e = .returned (.agg ((sha (nodeL 1 x y)).map ub).toArray) ∧ U.grownBy w' none) := fun x y U hx hy hU =>
        tnode_any x y U (by have := (gr_trans hG0d hU).size; omega) (HT.out.gr (gr_trans hG0d hU) hw) hx hy
      clear hW3 hB3 hG03 hG4 HI HO HN hs3 hW3' hW4 hBe
      clear eS eR
      refine wp_region_noPanic ?_
      refine wp_region_T (last := 11) (S := fun w' => (w'.rangeAt B 0 (f.map ub) ∧ w'.rangeAt B 32 (al.map ub)) ∧ w'.rangeAt O 0 (s.map ub)) (by kernel_rfl) (hS _ (gr_refl _)) (fun hHeld => ?_)
      refine wpAnyT_take (i := 0) (oi := { dst := some 82, op := Op.load 25 (Operand.tmp 13), type := 25, pos := "check.go:81", after := #[], guard := none }) (v := .agg (s.map ub).toArray) rfl (by kernel_rfl) (by kernel_rfl) (by kernel_rfl) (fun _ _ _ h => h) (by kernel_rfl) (yieldsIf_load_mid (by rfl) _ _ rfl O 0 rfl (s.map ub) _ (fun w' hSw => hSw.2) Tryd.underlying25 rfl HsI.out) (by assumption) ?_
      simp only [Act.put, List.setIfInBounds_toArray, List.set_cons_zero, List.set_cons_succ]
      refine wpAnyT_take (i := 1) (oi := { dst := some 83, op := Op.fieldAddr 144 (Operand.tmp 17) 0, type := 0, pos := "check.go:81", after := #[], guard := none }) (v := ?_) rfl (by kernel_rfl) (by kernel_rfl) (by kernel_rfl) (fun _ _ _ h => h) (by kernel_rfl) (Or.inl ⟨by rfl, ?_⟩) (by assumption) ?_
      rotate_left
      · intro w' hSw
        try dsimp only at hSw
        go_simp
        try with_reducible rfl
      simp only [Act.put, List.setIfInBounds_toArray, List.set_cons_zero, List.set_cons_succ]
      refine wpAnyT_take (i := 2) (oi := { dst := some 84, op := Op.load 25 (Operand.tmp 83), type := 25, pos := "check.go:81", after := #[{ on := 1, ground := Ground.data }], guard := none }) (v := .agg (f.map ub).toArray) rfl (by kernel_rfl) (by kernel_rfl) (by kernel_rfl) (fun _ _ _ h => h) (by kernel_rfl) (yieldsIf_load_mid (by rfl) _ _ rfl B 0 rfl (f.map ub) _ (fun w' hSw => hSw.1.1) Tryd.underlying25 rfl HfI.out) (by assumption) ?_
      simp only [Act.put, List.setIfInBounds_toArray, List.set_cons_zero, List.set_cons_succ]
      refine wpAnyT_take (i := 4) (oi := { dst := some 86, op := Op.load 25 (Operand.tmp 13), type := 25, pos := "check.go:81", after := #[], guard := none }) (v := .agg (s.map ub).toArray) rfl (by kernel_rfl) (by kernel_rfl) (by kernel_rfl) (fun _ _ _ h => h) (by kernel_rfl) (yieldsIf_load_mid (by rfl) _ _ rfl O 0 rfl (s.map ub) _ (fun w' hSw => hSw.2) Tryd.underlying25 rfl HsI.out) (by assumption) ?_
      simp only [Act.put, List.setIfInBounds_toArray, List.set_cons_zero, List.set_cons_succ]
      refine wpAnyT_take (i := 5) (oi := { dst := some 87, op := Op.fieldAddr 144 (Operand.tmp 17) 1, type := 0, pos := "check.go:81", after := #[], guard := none }) (v := ?_) rfl (by kernel_rfl) (by kernel_rfl) (by kernel_rfl) (fun _ _ _ h => h) (by kernel_rfl) (Or.inl ⟨by rfl, ?_⟩) (by assumption) ?_
      rotate_left
      · intro w' hSw
        try dsimp only at hSw
        go_simp
        try with_reducible rfl
      simp only [Act.put, List.setIfInBounds_toArray, List.set_cons_zero, List.set_cons_succ]
      refine wpAnyT_take (i := 6) (oi := { dst := some 88, op := Op.load 25 (Operand.tmp 87), type := 25, pos := "check.go:81", after := #[{ on := 5, ground := Ground.data }], guard := none }) (v := .agg (al.map ub).toArray) rfl (by kernel_rfl) (by kernel_rfl) (by kernel_rfl) (fun _ _ _ h => h) (by kernel_rfl) (yieldsIf_load_mid (by rfl) _ _ rfl B 32 rfl (al.map ub) _ (fun w' hSw => hSw.1.2) Tryd.underlying25 rfl HaI.out) (by assumption) ?_
      simp only [Act.put, List.setIfInBounds_toArray, List.set_cons_zero, List.set_cons_succ]
      refine wpAnyT_take (i := 9) (oi := { dst := some 91, op := Op.move (Operand.tmp 11), type := 4, pos := "check.go:81", after := #[{ on := 10, ground := Ground.gcOnly Go.Departure.lateStores }], guard := none }) (v := ?_) rfl (by kernel_rfl) (by kernel_rfl) (by kernel_rfl) (fun _ _ _ h => h) (by kernel_rfl) (Or.inl ⟨by rfl, ?_⟩) (by assumption) ?_
      rotate_left
      · intro w' hSw
        try dsimp only at hSw
        go_simp
        try with_reducible rfl
      simp only [Act.put, List.setIfInBounds_toArray, List.set_cons_zero, List.set_cons_succ]
      refine wpAnyT_one (i := 3) (o := { dst := some 85, op := Op.call { callee := Callee.value (Operand.func 84), args := #[Operand.tmp 82, Operand.tmp 84], argTypes := #[25, 25] }, type := 25, pos := "check.go:81", after := #[{ on := 0, ground := Ground.data }, { on := 2, ground := Ground.data }], guard := none }) rfl (by kernel_rfl) (fun K hK => ?_)
      go_simp
      refine (HND.out s f W4.drew hs hfl (gr_refl W4.drew)).mono ?_
      rintro e w5 ⟨rfl, hGc0⟩
      have hGd0 := gr_trans (gr_refl W4.drew) hGc0
      refine hK.out _ _ (fun _ => hS _ hGd0) (fun _ => ?_)
      clear hK K
      try simp only [Act.put, List.setIfInBounds_toArray, List.set_cons_zero, List.set_cons_succ]
      refine wpAnyT_one (i := 7) (o := { dst := some 89, op := Op.call { callee := Callee.value (Operand.func 84), args := #[Operand.tmp 86, Operand.tmp 88], argTypes := #[25, 25] }, type := 25, pos := "check.go:81", after := #[{ on := 4, ground := Ground.data }, { on := 6, ground := Ground.data }, { on := 3, ground := Ground.chain }], guard := none }) rfl (by kernel_rfl) (fun K hK => ?_)
      go_simp
      refine (HND.out s al w5 hs hall hGd0).mono ?_
      rintro e w6 ⟨rfl, hGc1⟩
      have hGd1 := gr_trans hGd0 hGc1
      refine hK.out _ _ (fun _ => hS _ hGd1) (fun _ => ?_)
      clear hK K
      try simp only [Act.put, List.setIfInBounds_toArray, List.set_cons_zero, List.set_cons_succ]
      clear hHeld HND
      obtain ⟨HI, HO, HN⟩ := sum126 (sha (nodeL 1 s f)) (sha (nodeL 1 s al)) (length_sha (nodeL 1 s f)) (length_sha (nodeL 1 s al))
      have HBP : Hid _ := built_pair (sha (nodeL 1 s f)) (sha (nodeL 1 s al)) (length_sha (nodeL 1 s f)) (length_sha (nodeL 1 s al))
      have hB5 : w6.heap[w.heap.size + 1]? = some (.cells (brow 64 []).toArray 144 (0, 0)) := (hGd1.block _ hBO (by simp)).trans hB4
      have hG05 := gr_trans hG0d hGd1
      refine wpAnyT_one (i := 8) (o := { dst := some 90, op := Op.build 144 #[(0, Operand.tmp 85), (1, Operand.tmp 89)], type := 144, pos := "check.go:81", after := #[{ on := 3, ground := Ground.data }, { on := 7, ground := Ground.data }], guard := none }) rfl (by kernel_rfl) (fun K hK => ?_)
      rw [if_pos (by rfl)]
      refine wp_pair _ _ rfl _ _ rfl rfl (pairC (sha (nodeL 1 s f)) (sha (nodeL 1 s al))) HBP.out ?_
      refine hK.out _ _ (fun _ => hS _ hGd1) (fun _ => ?_)
      clear hK K
      try simp only [Act.put, List.setIfInBounds_toArray, List.set_cons_zero, List.set_cons_succ]
      refine wpAnyT_one (i := 10) (o := { dst := none, op := Op.store 144 (Operand.tmp 10) (Operand.tmp 90), type := 0, pos := "check.go:81", after := #[{ on := 8, ground := Ground.data }, { on := 7, ground := Ground.chain }, { on := 0, ground := Ground.phase }, { on := 1, ground := Ground.phase }, { on := 2, ground := Ground.phase }, { on := 3, ground := Ground.phase }, { on := 4, ground := Ground.phase }, { on := 5, ground := Ground.phase }, { on := 6, ground := Ground.phase }, { on := 7, ground := Ground.phase }, { on := 8, ground := Ground.phase }, { on := 9, ground := Ground.textOnly Go.Departure.lateStores }], guard := none }) rfl (by kernel_rfl) (fun K hK => ?_)
      rw [if_pos (by rfl)]
      refine wp_store_row 144 _ _ rfl (w.heap.size + 1) (pairC (sha (nodeL 1 s f)) (sha (nodeL 1 s al))) rfl rfl 144 _ hB5 HI.out HO.out HN.out ?_
      have hZ5 := setRow_heap w6 (w.heap.size + 1) _ (pairC (sha (nodeL 1 s f)) (sha (nodeL 1 s al))) 144 _ hB5
      have hGF := gr_row hG05 (w.heap.size + 1) (pairC (sha (nodeL 1 s f)) (sha (nodeL 1 s al))) (by omega)
      have hSF := hSb (w6.setRow (w.heap.size + 1) (pairC (sha (nodeL 1 s f)) (sha (nodeL 1 s al)))) ((setRow_other _ _ B _ hBn).trans (hbl _ hGd1).1) ((setRow_other _ _ O _ hOn).trans (hbl _ hGd1).2)
      refine hK.out _ _ (fun _ => hSF) (fun _ => ?_)
      clear hK K
      simp only [Act.put]
      refine wpAnyT_one (i := 11) (o := { dst := some 11, op := Op.assign (Operand.tmp 91), type := 4, pos := "check.go:81", after := #[{ on := 9, ground := Ground.data }, { on := 10, ground := Ground.chain }, { on := 0, ground := Ground.phase }, { on := 1, ground := Ground.phase }, { on := 2, ground := Ground.phase }, { on := 3, ground := Ground.phase }, { on := 4, ground := Ground.phase }, { on := 5, ground := Ground.phase }, { on := 6, ground := Ground.phase }, { on := 7, ground := Ground.phase }, { on := 8, ground := Ground.phase }, { on := 9, ground := Ground.phase }, { on := 10, ground := Ground.phase }], guard := none }) rfl (by kernel_rfl) (fun K hK => ?_)
      go_simp
      refine hK.out _ _ (fun h => absurd rfl h) (fun _ => ?_)
      clear hK K
      try simp only [Act.put, List.setIfInBounds_toArray, List.set_cons_zero, List.set_cons_succ]
      refine wpAnyT_done (by kernel_rfl) ?_ _
      refine NoPanic.normal ?_
      clear hS hSb hbl hSF hB4 hB5 hG05 hG0d hG04
      generalize w6.setRow (w.heap.size + 1) (pairC (sha (nodeL 1 s f)) (sha (nodeL 1 s al))) = V at hZ5 hGF ⊢
      generalize eQ : pairC (sha (nodeL 1 s f)) (sha (nodeL 1 s al)) = PP at *
      go_wp2
      refine bodyPost_ret (results_ct Tryd.results96 _ _ (w.heap.size + 1) 144 _ (0, 0) _ _ rfl rfl hZ5 Tryd.underlying144 rfl HI.out) rfl ⟨(sha (nodeL 1 s f)), (sha (nodeL 1 s al)), (length_sha (nodeL 1 s f)), (length_sha (nodeL 1 s al)), ?_, ?_, hGF⟩
      · rw [HUP.out, Option.isSome_map, eok, eQ]; rfl
      · intro t ht
        rw [HUP.out] at ht
        obtain ⟨t', h1, rfl⟩ := Option.map_eq_some_iff.1 ht
        rw [← HTOP.out t' h1]
end Go.Proofs.YtplhlhjakapaaaaDoor
