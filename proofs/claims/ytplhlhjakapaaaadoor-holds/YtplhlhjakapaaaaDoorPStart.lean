/-
  places.start: from what a proof starts.
-/
import Derived.Test.YtplhlhjakapaaaaDoorPClimb
import Derived.Test.YtplhlhjakapaaaaDoorPlaceC
import Derived.Test.YtplhlhjakapaaaaDoorGuard
namespace Go.Proofs.YtplhlhjakapaaaaDoor
open Go Go.RowKit

def startS (ks value pk pv : List UInt8) (present taken : Bool) : List UInt8 := if present then sha (nodeL 2 ks (sha value)) else if taken then sha (nodeL 2 pk pv) else List.replicate 32 0
def startB (ks pk : List UInt8) (present taken : Bool) : Bool := if present then !taken else if taken then (!(pk == ks)) && (numL (pk.take 8) == numL (ks.take 8)) else true
theorem length_startS (ks value pk pv : List UInt8) (present taken : Bool) : (startS ks value pk pv present taken).length = 32 := by
  unfold startS; split
  · exact length_sha _
  · split
    · exact length_sha _
    · rfl

theorem yields_ne25 {ops : Array Oper} {S : World → Prop} {o : Oper} {a : Act} (hw : Region.wanted o (yielded ops a.tmps) = true) (x y : Operand) (tt : TypeId) (ho : o.op = .binOp .neq 25 x y tt)
    (p q : List UInt8) (hp : p.length = 32) (hq : q.length = 32) (hx : a.eval x = .agg (p.map ub).toArray) (hy : a.eval y = .agg (q.map ub).toArray) : YieldsIf Tryd.prog ops S o (.bool (!(p == q))) a :=
  .inl ⟨hw, fun w _ => by
    unfold execOp
    simp only [ho, hx, hy, Sem.run_bind, run_eqGuard_agg w .neq 25 x y _ _ guard25, Result.andThen_ok, run_ne25 w p q hp hq, Sem.run_pure]⟩

theorem info76' (C : List Value) (h : C.length = 67) : (Tryd.prog.info? 76).map (·.size) = some C.toArray.size := by
  rw [show C.toArray.size = 67 by simpa using h]; kernel_rfl

set_option maxHeartbeats 4000000 in
set_option maxRecDepth 100000 in
theorem start_any (ks value : List UInt8) (v : Value) (present : Bool) (mask : Nat) (path : Value) (taken : Bool) (pk pv : List UInt8) (w : World) (hw : 1 < w.heap.size) (hT : Tab w)
    (hks : ks.length = 32) (hpk : pk.length = 32) (hpv : pv.length = 32) (hv : SliceIs w v value) (hvl : value.length < 999999999) :
    Calls Tryd.prog 98 #[.agg (ks.map ub).toArray, .bool present, v, .agg (proofC mask path taken pk pv).toArray] w
      fun e w' => e = .returned (.tuple #[.agg ((startS ks value pk pv present taken).map ub).toArray, .bool (startB ks pk present taken)]) ∧ w.grownBy w' none := by
  have HT : Hid (Tab w) := hT
  have HV : Hid (SliceIs w v value) := hv
  have hP2 : (proofC mask path taken pk pv)[2]? = some (.bool taken) := rfl
  have hP3 : ∀ j u, (pk.map ub)[j]? = some u → (proofC mask path taken pk pv)[3 + j]? = some u := fun j u hj => by
    rw [proofC, show 3 + j = j + 1 + 1 + 1 by omega, List.getElem?_cons_succ, List.getElem?_cons_succ, List.getElem?_cons_succ, List.getElem?_append_left (List.getElem?_eq_some_iff.1 hj).1]; exact hj
  have hP35 : ∀ j u, (pv.map ub)[j]? = some u → (proofC mask path taken pk pv)[35 + j]? = some u := fun j u hj => by
    rw [proofC, show 35 + j = (32 + j) + 1 + 1 + 1 by omega, List.getElem?_cons_succ, List.getElem?_cons_succ, List.getElem?_cons_succ, List.getElem?_append_right (by simp [hpk]), show 32 + j - (pk.map ub).length = j by simp [hpk]]; exact hj
  have hPl : (proofC mask path taken pk pv).length = 67 := by simp [proofC, hpk, hpv]
  generalize proofC mask path taken pk pv = C at hP2 hP3 hP35 hPl ⊢
  have hC2 : ∀ h : 2 < C.length, C[2] = .bool taken := fun h => Option.some.inj ((List.getElem?_eq_getElem h).symm.trans hP2)
  obtain ⟨HIk, HOk, HNk⟩ := sum25 ks hks
  have HIk' : Hid ((Tryd.prog.info? 25).map (·.size) = some (ks.map ub).length) := by show _ = _; rw [HIk.out]; simp
  obtain ⟨HIp, _, _⟩ := sum25 pk hpk
  have HIp' : Hid ((Tryd.prog.info? 25).map (·.size) = some (pk.map ub).length) := by show _ = _; rw [HIp.out]; simp
  obtain ⟨HIq, _, _⟩ := sum25 pv hpv
  have HIq' : Hid ((Tryd.prog.info? 25).map (·.size) = some (pv.map ub).length) := by show _ = _; rw [HIq.out]; simp
  clear hT hv
  have hs3 : ((w.alloc (Obj.cells (ks.map ub).toArray 25)).alloc (Obj.cells C.toArray 76)).heap.size = w.heap.size + 1 + 1 := by simp
  have hA := gr_trans (gr_trans (gr_alloc w (Obj.cells (ks.map ub).toArray 25)) (gr_alloc _ (Obj.cells C.toArray 76))) (gr_alloc _ (Obj.cells (brow 32 []).toArray 25))
  have hK0 : (((w.alloc (Obj.cells (ks.map ub).toArray 25)).alloc (Obj.cells C.toArray 76)).alloc (Obj.cells (brow 32 []).toArray 25)).heap[w.heap.size]? = some (.cells (ks.map ub).toArray 25 (0, 0)) := ((gr_alloc _ _).block _ (by simp; omega) (by simp)).trans (heap_alloc2_old _ _ _)
  have hC0 : (((w.alloc (Obj.cells (ks.map ub).toArray 25)).alloc (Obj.cells C.toArray 76)).alloc (Obj.cells (brow 32 []).toArray 25)).heap[w.heap.size + 1]? = some (.cells C.toArray 76 (0, 0)) := ((gr_alloc _ _).block _ (by simp) (by simp)).trans (heap_alloc2_new _ _ _)
  have hB0 : (((w.alloc (Obj.cells (ks.map ub).toArray 25)).alloc (Obj.cells C.toArray 76)).alloc (Obj.cells (brow 32 []).toArray 25)).heap[w.heap.size + 1 + 1]? = some (.cells (brow 32 []).toArray 25 (0, 0)) := by rw [← hs3]; exact heap_alloc_new _ _
  have HW : Hid (∀ W0 : World, (((w.alloc (Obj.cells (ks.map ub).toArray 25)).alloc (Obj.cells C.toArray 76)).alloc (Obj.cells (brow 32 []).toArray 25)) = W0 → ∀ V, W0.grownBy V none → w.grownBy V none ∧ V.heap[w.heap.size + 1 + 1]? = some (.cells (brow 32 []).toArray 25 (0, 0)) ∧ (V.rangeAt w.heap.size 0 (ks.map ub) ∧ V.cell? ⟨w.heap.size + 1, 2, none⟩ = some (.bool taken) ∧ V.rangeAt (w.heap.size + 1) 3 (pk.map ub) ∧ V.rangeAt (w.heap.size + 1) 35 (pv.map ub))) := fun W0 e V hV => by
    subst e
    have hK1 := (hV.block _ (Array.getElem?_eq_some_iff.1 hK0).1 (by simp)).trans hK0
    have hC1 := (hV.block _ (Array.getElem?_eq_some_iff.1 hC0).1 (by simp)).trans hC0
    refine ⟨gr_trans hA hV, (hV.block _ (Array.getElem?_eq_some_iff.1 hB0).1 (by simp)).trans hB0, fun j u hj => ?_, ?_, fun j u hj => ?_, fun j u hj => ?_⟩
    · rw [Nat.zero_add, cell_of_row V _ _ _ _ _ hK1]; simpa using hj
    · rw [cell_of_row V _ _ _ _ _ hC1]; simpa using hP2
    · rw [cell_of_row V _ _ _ _ _ hC1]; simpa using hP3 j u hj
    · rw [cell_of_row V _ _ _ _ _ hC1]; simpa using hP35 j u hj
  clear hs3 hA hK0 hC0 hB0 hP2 hP3 hP35
  cases present with
  | true =>
    go_enter Tryd.func98, Tryd.ntmps98
    go_wp2
    change Code.wp _ _ _ _ (((w.alloc (Obj.cells (ks.map ub).toArray 25)).alloc (Obj.cells C.toArray 76)).alloc (Obj.cells (brow 32 []).toArray 25))
    generalize eW : ((w.alloc (Obj.cells (ks.map ub).toArray 25)).alloc (Obj.cells C.toArray 76)).alloc (Obj.cells (brow 32 []).toArray 25) = W0
    have HF : Hid _ := HW.out W0 eW
    clear HW eW
    refine wp_region_noPanic ?_
    refine wp_region_T (last := 8) (S := fun w' => w'.rangeAt w.heap.size 0 (ks.map ub) ∧ w'.cell? ⟨w.heap.size + 1, 2, none⟩ = some (.bool taken) ∧ w'.rangeAt (w.heap.size + 1) 3 (pk.map ub) ∧ w'.rangeAt (w.heap.size + 1) 35 (pv.map ub)) (by kernel_rfl) (HF.out _ (gr_drew (gr_refl W0))).2.2 (fun hHeld => ?_)
    refine wpAnyT_take (i := 0) (oi := { dst := some 12, op := Op.load 25 (Operand.tmp 4), type := 25, pos := "proof.go:56", after := #[], guard := none }) (v := .agg (ks.map ub).toArray) rfl (by kernel_rfl) (by kernel_rfl) (by kernel_rfl) (fun _ _ _ h => h) (by kernel_rfl) (yieldsIf_load_mid (by rfl) _ _ rfl w.heap.size 0 rfl (ks.map ub) _ (fun w' hSw => hSw.1) Tryd.underlying25 rfl HIk'.out) (by assumption) ?_
    simp only [Act.put, List.setIfInBounds_toArray, List.set_cons_zero, List.set_cons_succ]
    refine wpAnyT_take (i := 1) (oi := { dst := some 13, op := Op.move (Operand.tmp 2), type := 27, pos := "proof.go:56", after := #[], guard := none }) (v := ?_) rfl (by kernel_rfl) (by kernel_rfl) (by kernel_rfl) (fun _ _ _ h => h) (by kernel_rfl) (Or.inl ⟨by rfl, ?_⟩) (by assumption) ?_
    rotate_left
    · intro w' hSw
      try dsimp only at hSw
      go_simp
      try with_reducible rfl
    simp only [Act.put, List.setIfInBounds_toArray, List.set_cons_zero, List.set_cons_succ]
    refine wpAnyT_take (i := 4) (oi := { dst := some 16, op := Op.fieldAddr 76 (Operand.tmp 7) 2, type := 0, pos := "proof.go:56", after := #[{ on := 7, ground := Ground.gcOnly Go.Departure.lateStores }], guard := none }) (v := ?_) rfl (by kernel_rfl) (by kernel_rfl) (by kernel_rfl) (fun _ _ _ h => h) (by kernel_rfl) (Or.inl ⟨by rfl, ?_⟩) (by assumption) ?_
    rotate_left
    · intro w' hSw
      try dsimp only at hSw
      go_simp
      try with_reducible rfl
    simp only [Act.put, List.setIfInBounds_toArray, List.set_cons_zero, List.set_cons_succ]
    refine wpAnyT_take (i := 5) (oi := { dst := some 17, op := Op.load 4 (Operand.tmp 16), type := 4, pos := "proof.go:56", after := #[{ on := 4, ground := Ground.data }, { on := 7, ground := Ground.gcOnly Go.Departure.lateStores }], guard := none }) (v := ?_) rfl (by kernel_rfl) (by kernel_rfl) (by kernel_rfl) (fun _ _ _ h => h) (by kernel_rfl) (Or.inl ⟨by rfl, ?_⟩) (by assumption) ?_
    rotate_left
    · intro w' hSw
      try dsimp only at hSw
      obtain ⟨_, hSc, _, _⟩ := hSw
      go_simp
      try with_reducible rfl
    simp only [Act.put, List.setIfInBounds_toArray, List.set_cons_zero, List.set_cons_succ]
    refine wpAnyT_take (i := 6) (oi := { dst := some 18, op := Op.unOp UnOp.not 4 (Operand.tmp 17), type := 4, pos := "proof.go:56", after := #[{ on := 5, ground := Ground.data }, { on := 7, ground := Ground.gcOnly Go.Departure.lateStores }], guard := none }) (v := ?_) rfl (by kernel_rfl) (by kernel_rfl) (by kernel_rfl) (fun _ _ _ h => h) (by kernel_rfl) (Or.inl ⟨by rfl, ?_⟩) (by assumption) ?_
    rotate_left
    · intro w' hSw
      try dsimp only at hSw
      go_simp
      try with_reducible rfl
    simp only [Act.put, List.setIfInBounds_toArray, List.set_cons_zero, List.set_cons_succ]
    refine wpAnyT_one (i := 2) (o := { dst := some 14, op := Op.call { callee := Callee.value (Operand.func 57), args := #[Operand.tmp 13], argTypes := #[27] }, type := 25, pos := "proof.go:56", after := #[{ on := 1, ground := Ground.data }], guard := none }) rfl (by kernel_rfl) (fun K hK => ?_)
    go_simp
    have hd0 := gr_drew (gr_refl W0)
    refine (sum_any value v W0.drew (by have := (HF.out _ hd0).1.size; omega) (HT.out.gr (HF.out _ hd0).1 hw) (HV.out.gr (HF.out _ hd0).1) (by omega)).mono ?_
    rintro e w1 ⟨rfl, hG1⟩
    have hG01 := gr_trans hd0 hG1
    refine hK.out _ _ (fun _ => (HF.out _ hG01).2.2) (fun _ => ?_)
    clear hK K hHeld
    try simp only [Act.put, List.setIfInBounds_toArray, List.set_cons_zero, List.set_cons_succ]
    have hvs := length_sha value
    generalize evs : sha value = vs at hvs ⊢
    refine wpAnyT_one (i := 3) (o := { dst := some 15, op := Op.call { callee := Callee.value (Operand.func 129), args := #[Operand.tmp 12, Operand.tmp 14], argTypes := #[25, 25] }, type := 25, pos := "proof.go:56", after := #[{ on := 0, ground := Ground.data }, { on := 2, ground := Ground.data }, { on := 2, ground := Ground.chain }], guard := none }) rfl (by kernel_rfl) (fun K hK => ?_)
    go_simp
    refine (entry_any ks vs w1 (by have := (HF.out _ hG01).1.size; omega) (HT.out.gr (HF.out _ hG01).1 hw) hks hvs).mono ?_
    rintro e w2 ⟨rfl, hG2⟩
    have hG02 := gr_trans hG01 hG2
    refine hK.out _ _ (fun _ => (HF.out _ hG02).2.2) (fun _ => ?_)
    clear hK K
    try simp only [Act.put, List.setIfInBounds_toArray, List.set_cons_zero, List.set_cons_succ]
    have hyl := length_sha (nodeL 2 ks vs)
    generalize ey : sha (nodeL 2 ks vs) = y at hyl ⊢
    obtain ⟨HIy, HOy, HNy⟩ := sum25 y hyl
    refine wpAnyT_one (i := 7) (o := { dst := none, op := Op.store 25 (Operand.tmp 8) (Operand.tmp 15), type := 0, pos := "proof.go:56", after := #[{ on := 3, ground := Ground.data }, { on := 3, ground := Ground.chain }, { on := 0, ground := Ground.phase }, { on := 1, ground := Ground.phase }, { on := 2, ground := Ground.phase }, { on := 3, ground := Ground.phase }, { on := 4, ground := Ground.textOnly Go.Departure.lateStores }, { on := 5, ground := Ground.textOnly Go.Departure.lateStores }, { on := 6, ground := Ground.textOnly Go.Departure.lateStores }], guard := none }) rfl (by kernel_rfl) (fun K hK => ?_)
    rw [if_pos (by rfl)]
    refine wp_store_row 25 _ _ rfl (w.heap.size + 1 + 1) (y.map ub).toArray rfl rfl 25 _ (HF.out _ hG02).2.1 HIy.out HOy.out HNy.out ?_
    refine hK.out _ _ (fun _ => ?_) (fun _ => ?_)
    · have hS := (HF.out _ hG02).2.2
      have hof : ∀ (g j : Nat), g ≠ w.heap.size + 1 + 1 → (w2.setRow (w.heap.size + 1 + 1) (y.map ub).toArray).cell? ⟨g, j, none⟩ = w2.cell? ⟨g, j, none⟩ := fun g j hg => World.cell?_of_block (a := ⟨g, j, none⟩) (setRow_other _ _ _ _ hg)
      exact ⟨fun j u hj => (hof _ _ (by omega)).trans (hS.1 j u hj), (hof _ _ (by omega)).trans hS.2.1, fun j u hj => (hof _ _ (by omega)).trans (hS.2.2.1 j u hj), fun j u hj => (hof _ _ (by omega)).trans (hS.2.2.2 j u hj)⟩
    clear hK K
    simp only [Act.put]
    refine wpAnyT_one (i := 8) (o := { dst := some 9, op := Op.assign (Operand.tmp 18), type := 4, pos := "proof.go:56", after := #[{ on := 6, ground := Ground.data }, { on := 7, ground := Ground.chain }, { on := 0, ground := Ground.phase }, { on := 1, ground := Ground.phase }, { on := 2, ground := Ground.phase }, { on := 3, ground := Ground.phase }, { on := 4, ground := Ground.phase }, { on := 5, ground := Ground.phase }, { on := 6, ground := Ground.phase }, { on := 7, ground := Ground.phase }], guard := none }) rfl (by kernel_rfl) (fun K hK => ?_)
    go_simp
    refine hK.out _ _ (fun h => absurd rfl h) (fun _ => ?_)
    clear hK K
    try simp only [Act.put, List.setIfInBounds_toArray, List.set_cons_zero, List.set_cons_succ]
    refine wpAnyT_done (by kernel_rfl) ?_ _
    refine NoPanic.normal ?_
    have hR := setRow_heap w2 (w.heap.size + 1 + 1) _ (y.map ub).toArray 25 _ (HF.out _ hG02).2.1
    have hGF := gr_row (HF.out _ hG02).1 (w.heap.size + 1 + 1) (y.map ub).toArray (by omega)
    generalize w2.setRow (w.heap.size + 1 + 1) (y.map ub).toArray = V at hR hGF ⊢
    have HR : Hid _ := hR
    clear hR
    go_wp2
    exact bodyPost_ret (results_ct Tryd.results98 _ _ (w.heap.size + 1 + 1) 25 _ (0, 0) _ _ rfl rfl HR.out Tryd.underlying25 rfl HIy.out) rfl ⟨by rw [startS, startB, if_pos rfl, if_pos rfl, evs, ey]; rfl, hGF⟩
  | false =>
    cases taken with
    | false =>
      obtain ⟨HIz, HOz, HNz⟩ := sum25 (List.replicate 32 0) rfl
      go_enter Tryd.func98, Tryd.ntmps98
      have HB0 : Hid _ := (HW.out _ rfl _ (gr_refl _)).2.1
      have hG0 := (HW.out _ rfl _ (gr_refl _)).1
      clear HW
      go_wp2_with (refine wpList_store_row rfl 25 _ _ rfl (w.heap.size + 1 + 1) ((List.replicate 32 (0 : UInt8)).map ub).toArray rfl rfl 25 _ HB0.out HIz.out HOz.out HNz.out ?_)
      exact bodyPost_ret (results_ct Tryd.results98 _ _ (w.heap.size + 1 + 1) 25 _ (0, 0) _ _ rfl rfl (setRow_heap _ _ _ _ 25 _ HB0.out) Tryd.underlying25 rfl HIz.out) rfl ⟨rfl, gr_row hG0 _ _ (by omega)⟩
    | true =>
      go_enter Tryd.func98, Tryd.ntmps98
      go_wp2_with fail
      change Code.wp _ _ _ _ (((w.alloc (Obj.cells (ks.map ub).toArray 25)).alloc (Obj.cells C.toArray 76)).alloc (Obj.cells (brow 32 []).toArray 25))
      generalize eW : ((w.alloc (Obj.cells (ks.map ub).toArray 25)).alloc (Obj.cells C.toArray 76)).alloc (Obj.cells (brow 32 []).toArray 25) = W0
      have HF : Hid _ := HW.out W0 eW
      clear HW eW hC2
      have hd0 := gr_drew (gr_refl W0)
      refine wp_region_noPanic ?_
      refine wp_region_T (last := 18) (S := fun w' => w'.rangeAt w.heap.size 0 (ks.map ub) ∧ w'.cell? ⟨w.heap.size + 1, 2, none⟩ = some (.bool true) ∧ w'.rangeAt (w.heap.size + 1) 3 (pk.map ub) ∧ w'.rangeAt (w.heap.size + 1) 35 (pv.map ub)) (by kernel_rfl) (HF.out _ hd0).2.2 (fun hHeld => ?_)
      refine wpAnyT_take (i := 0) (oi := { dst := some 22, op := Op.fieldAddr 76 (Operand.tmp 7) 3, type := 0, pos := "proof.go:58", after := #[], guard := none }) (v := ?_) rfl (by kernel_rfl) (by kernel_rfl) (by kernel_rfl) (fun _ _ _ h => h) (by kernel_rfl) (Or.inl ⟨by rfl, ?_⟩) (by assumption) ?_
      rotate_left
      · intro w' hSw
        try dsimp only at hSw
        go_simp
        try with_reducible rfl
      simp only [Act.put, List.setIfInBounds_toArray, List.set_cons_zero, List.set_cons_succ]
      refine wpAnyT_take (i := 1) (oi := { dst := some 23, op := Op.load 25 (Operand.tmp 22), type := 25, pos := "proof.go:58", after := #[{ on := 0, ground := Ground.data }], guard := none }) (v := .agg (pk.map ub).toArray) rfl (by kernel_rfl) (by kernel_rfl) (by kernel_rfl) (fun _ _ _ h => h) (by kernel_rfl) (yieldsIf_load_mid (by rfl) _ _ rfl (w.heap.size + 1) 3 rfl (pk.map ub) _ (fun w' hSw => hSw.2.2.1) Tryd.underlying25 rfl HIp'.out) (by assumption) ?_
      simp only [Act.put, List.setIfInBounds_toArray, List.set_cons_zero, List.set_cons_succ]
      refine wpAnyT_take (i := 2) (oi := { dst := some 24, op := Op.fieldAddr 76 (Operand.tmp 7) 4, type := 0, pos := "proof.go:58", after := #[], guard := none }) (v := ?_) rfl (by kernel_rfl) (by kernel_rfl) (by kernel_rfl) (fun _ _ _ h => h) (by kernel_rfl) (Or.inl ⟨by rfl, ?_⟩) (by assumption) ?_
      rotate_left
      · intro w' hSw
        try dsimp only at hSw
        go_simp
        try with_reducible rfl
      simp only [Act.put, List.setIfInBounds_toArray, List.set_cons_zero, List.set_cons_succ]
      refine wpAnyT_take (i := 3) (oi := { dst := some 25, op := Op.load 25 (Operand.tmp 24), type := 25, pos := "proof.go:58", after := #[{ on := 2, ground := Ground.data }], guard := none }) (v := .agg (pv.map ub).toArray) rfl (by kernel_rfl) (by kernel_rfl) (by kernel_rfl) (fun _ _ _ h => h) (by kernel_rfl) (yieldsIf_load_mid (by rfl) _ _ rfl (w.heap.size + 1) 35 rfl (pv.map ub) _ (fun w' hSw => hSw.2.2.2) Tryd.underlying25 rfl HIq'.out) (by assumption) ?_
      simp only [Act.put, List.setIfInBounds_toArray, List.set_cons_zero, List.set_cons_succ]
      refine wpAnyT_take (i := 5) (oi := { dst := some 27, op := Op.fieldAddr 76 (Operand.tmp 7) 3, type := 0, pos := "proof.go:58", after := #[], guard := none }) (v := ?_) rfl (by kernel_rfl) (by kernel_rfl) (by kernel_rfl) (fun _ _ _ h => h) (by kernel_rfl) (Or.inl ⟨by rfl, ?_⟩) (by assumption) ?_
      rotate_left
      · intro w' hSw
        try dsimp only at hSw
        go_simp
        try with_reducible rfl
      simp only [Act.put, List.setIfInBounds_toArray, List.set_cons_zero, List.set_cons_succ]
      refine wpAnyT_take (i := 6) (oi := { dst := some 28, op := Op.load 25 (Operand.tmp 27), type := 25, pos := "proof.go:58", after := #[{ on := 5, ground := Ground.data }], guard := none }) (v := .agg (pk.map ub).toArray) rfl (by kernel_rfl) (by kernel_rfl) (by kernel_rfl) (fun _ _ _ h => h) (by kernel_rfl) (yieldsIf_load_mid (by rfl) _ _ rfl (w.heap.size + 1) 3 rfl (pk.map ub) _ (fun w' hSw => hSw.2.2.1) Tryd.underlying25 rfl HIp'.out) (by assumption) ?_
      simp only [Act.put, List.setIfInBounds_toArray, List.set_cons_zero, List.set_cons_succ]
      refine wpAnyT_take (i := 7) (oi := { dst := some 29, op := Op.load 25 (Operand.tmp 4), type := 25, pos := "proof.go:58", after := #[], guard := none }) (v := .agg (ks.map ub).toArray) rfl (by kernel_rfl) (by kernel_rfl) (by kernel_rfl) (fun _ _ _ h => h) (by kernel_rfl) (yieldsIf_load_mid (by rfl) _ _ rfl w.heap.size 0 rfl (ks.map ub) _ (fun w' hSw => hSw.1) Tryd.underlying25 rfl HIk'.out) (by assumption) ?_
      simp only [Act.put, List.setIfInBounds_toArray, List.set_cons_zero, List.set_cons_succ]
      refine wpAnyT_take (i := 8) (oi := { dst := some 30, op := Op.binOp BinOp.neq 25 (Operand.tmp 28) (Operand.tmp 29) 25, type := 4, pos := "proof.go:58", after := #[{ on := 6, ground := Ground.data }, { on := 7, ground := Ground.data }], guard := none }) (v := .bool (!(pk == ks))) rfl (by kernel_rfl) (by kernel_rfl) (by kernel_rfl) (fun _ _ _ h => h) (by kernel_rfl) (yields_ne25 (by rfl) _ _ _ rfl pk ks hpk hks rfl rfl) (by assumption) ?_
      simp only [Act.put, List.setIfInBounds_toArray, List.set_cons_zero, List.set_cons_succ]
      refine wpAnyT_one (i := 4) (o := { dst := some 26, op := Op.call { callee := Callee.value (Operand.func 129), args := #[Operand.tmp 23, Operand.tmp 25], argTypes := #[25, 25] }, type := 25, pos := "proof.go:58", after := #[{ on := 1, ground := Ground.data }, { on := 3, ground := Ground.data }], guard := none }) rfl (by kernel_rfl) (fun K hK => ?_)
      go_simp
      refine (entry_any pk pv W0.drew (by have := (HF.out _ hd0).1.size; omega) (HT.out.gr (HF.out _ hd0).1 hw) hpk hpv).mono ?_
      rintro e w2 ⟨rfl, hG2⟩
      have hG02 := gr_trans hd0 hG2
      refine hK.out _ _ (fun _ => (HF.out _ hG02).2.2) (fun hH2 => ?_)
      have hHb := hH2 (by decide)
      clear hK K hHeld hH2
      try simp only [Act.put, List.setIfInBounds_toArray, List.set_cons_zero, List.set_cons_succ]
      have hyl := length_sha (nodeL 2 pk pv)
      generalize ey : sha (nodeL 2 pk pv) = y at hyl ⊢
      obtain ⟨HIy, HOy, HNy⟩ := sum25 y hyl
      have HRES : Hid (startS ks value pk pv false true = y ∧ startB ks pk false true = ((!(pk == ks)) && (numL (pk.take 8) == numL (ks.take 8)))) := ⟨ey, rfl⟩
      clear ey
      generalize eq : (pk == ks) = q at HRES ⊢
      clear eq
      cases q with
      | true =>
        refine wpAnyT_one (i := 9) (o := { dst := some 31, op := Op.move (Operand.tmp 30), type := 4, pos := "proof.go:58", after := #[{ on := 8, ground := Ground.data }, { on := 4, ground := Ground.chain }], guard := none }) rfl (by kernel_rfl) (fun K hK => ?_)
        go_simp
        refine hK.out _ _ (fun _ => hHb) (fun _ => ?_)
        clear hK K
        try simp only [Act.put, List.setIfInBounds_toArray, List.set_cons_zero, List.set_cons_succ]
        refine wpAnyT_take (i := 10) (oi := { dst := some 32, op := Op.fieldAddr 76 (Operand.tmp 7) 3, type := 0, pos := "proof.go:58", after := #[{ on := 9, ground := Ground.guard }], guard := some (9, true) }) (v := undef) rfl (by kernel_rfl) (by kernel_rfl) (by kernel_rfl) (fun _ _ _ h => h) (by kernel_rfl) (Or.inr ⟨by rfl, rfl⟩) (by assumption) ?_
        simp only [Act.put, List.setIfInBounds_toArray, List.set_cons_zero, List.set_cons_succ]
        refine wpAnyT_take (i := 11) (oi := { dst := some 33, op := Op.load 25 (Operand.tmp 32), type := 25, pos := "proof.go:58", after := #[{ on := 10, ground := Ground.data }, { on := 9, ground := Ground.guard }], guard := some (9, true) }) (v := undef) rfl (by kernel_rfl) (by kernel_rfl) (by kernel_rfl) (fun _ _ _ h => h) (by kernel_rfl) (Or.inr ⟨by rfl, rfl⟩) (by assumption) ?_
        simp only [Act.put, List.setIfInBounds_toArray, List.set_cons_zero, List.set_cons_succ]
        refine wpAnyT_take (i := 12) (oi := { dst := some 34, op := Op.call { callee := Callee.value (Operand.func 100), args := #[Operand.tmp 33], argTypes := #[25] }, type := 74, pos := "proof.go:58", after := #[{ on := 11, ground := Ground.data }, { on := 9, ground := Ground.chain }, { on := 9, ground := Ground.guard }], guard := some (9, true) }) (v := undef) rfl (by kernel_rfl) (by kernel_rfl) (by kernel_rfl) (fun _ _ _ h => h) (by kernel_rfl) (Or.inr ⟨by rfl, rfl⟩) (by assumption) ?_
        simp only [Act.put, List.setIfInBounds_toArray, List.set_cons_zero, List.set_cons_succ]
        refine wpAnyT_take (i := 13) (oi := { dst := some 35, op := Op.load 25 (Operand.tmp 4), type := 25, pos := "proof.go:58", after := #[{ on := 9, ground := Ground.guard }], guard := some (9, true) }) (v := undef) rfl (by kernel_rfl) (by kernel_rfl) (by kernel_rfl) (fun _ _ _ h => h) (by kernel_rfl) (Or.inr ⟨by rfl, rfl⟩) (by assumption) ?_
        simp only [Act.put, List.setIfInBounds_toArray, List.set_cons_zero, List.set_cons_succ]
        refine wpAnyT_take (i := 14) (oi := { dst := some 36, op := Op.call { callee := Callee.value (Operand.func 100), args := #[Operand.tmp 35], argTypes := #[25] }, type := 74, pos := "proof.go:58", after := #[{ on := 13, ground := Ground.data }, { on := 12, ground := Ground.chain }, { on := 9, ground := Ground.guard }], guard := some (9, true) }) (v := undef) rfl (by kernel_rfl) (by kernel_rfl) (by kernel_rfl) (fun _ _ _ h => h) (by kernel_rfl) (Or.inr ⟨by rfl, rfl⟩) (by assumption) ?_
        simp only [Act.put, List.setIfInBounds_toArray, List.set_cons_zero, List.set_cons_succ]
        refine wpAnyT_take (i := 15) (oi := { dst := some 37, op := Op.binOp BinOp.eql 74 (Operand.tmp 34) (Operand.tmp 36) 74, type := 4, pos := "proof.go:58", after := #[{ on := 12, ground := Ground.data }, { on := 14, ground := Ground.data }, { on := 9, ground := Ground.guard }, { on := 17, ground := Ground.gcOnly Go.Departure.lateStores }], guard := some (9, true) }) (v := undef) rfl (by kernel_rfl) (by kernel_rfl) (by kernel_rfl) (fun _ _ _ h => h) (by kernel_rfl) (Or.inr ⟨by rfl, rfl⟩) (by assumption) ?_
        simp only [Act.put, List.setIfInBounds_toArray, List.set_cons_zero, List.set_cons_succ]
        refine wpAnyT_take (i := 16) (oi := { dst := some 38, op := Op.pick (Operand.tmp 31) (Operand.tmp 37) (Operand.const (Value.bool false)), type := 4, pos := "proof.go:58", after := #[{ on := 9, ground := Ground.data }, { on := 15, ground := Ground.data }, { on := 17, ground := Ground.gcOnly Go.Departure.lateStores }], guard := none }) (v := ?_) rfl (by kernel_rfl) (by kernel_rfl) (by kernel_rfl) (fun _ _ _ h => h) (by kernel_rfl) (Or.inl ⟨by rfl, ?_⟩) (by assumption) ?_
        rotate_left
        · intro w' hSw
          try dsimp only at hSw
          go_simp
          try with_reducible rfl
        simp only [Act.put, List.setIfInBounds_toArray, List.set_cons_zero, List.set_cons_succ]
        refine wpAnyT_one (i := 17) (o := { dst := none, op := Op.store 25 (Operand.tmp 8) (Operand.tmp 26), type := 0, pos := "proof.go:58", after := #[{ on := 4, ground := Ground.data }, { on := 14, ground := Ground.chain }, { on := 0, ground := Ground.phase }, { on := 1, ground := Ground.phase }, { on := 2, ground := Ground.phase }, { on := 3, ground := Ground.phase }, { on := 4, ground := Ground.phase }, { on := 5, ground := Ground.textOnly Go.Departure.lateStores }, { on := 6, ground := Ground.textOnly Go.Departure.lateStores }, { on := 7, ground := Ground.textOnly Go.Departure.lateStores }, { on := 8, ground := Ground.textOnly Go.Departure.lateStores }, { on := 9, ground := Ground.textOnly Go.Departure.lateStores }, { on := 10, ground := Ground.textOnly Go.Departure.lateStores }, { on := 11, ground := Ground.textOnly Go.Departure.lateStores }, { on := 12, ground := Ground.textOnly Go.Departure.lateStoresUnsure }, { on := 13, ground := Ground.textOnly Go.Departure.lateStores }, { on := 14, ground := Ground.textOnly Go.Departure.lateStoresUnsure }, { on := 15, ground := Ground.textOnly Go.Departure.lateStores }, { on := 16, ground := Ground.textOnly Go.Departure.lateStores }], guard := none }) rfl (by kernel_rfl) (fun K hK => ?_)
        rw [if_pos (by rfl)]
        refine wp_store_row 25 _ _ rfl (w.heap.size + 1 + 1) (y.map ub).toArray rfl rfl 25 _ (HF.out _ hG02).2.1 HIy.out HOy.out HNy.out ?_
        refine hK.out _ _ (fun _ => ?_) (fun _ => ?_)
        · have hS := (HF.out _ hG02).2.2
          have hof : ∀ (g j : Nat), g ≠ w.heap.size + 1 + 1 → (w2.setRow (w.heap.size + 1 + 1) (y.map ub).toArray).cell? ⟨g, j, none⟩ = w2.cell? ⟨g, j, none⟩ := fun g j hg => World.cell?_of_block (a := ⟨g, j, none⟩) (setRow_other _ _ _ _ hg)
          exact ⟨fun j u hj => (hof _ _ (by omega)).trans (hS.1 j u hj), (hof _ _ (by omega)).trans hS.2.1, fun j u hj => (hof _ _ (by omega)).trans (hS.2.2.1 j u hj), fun j u hj => (hof _ _ (by omega)).trans (hS.2.2.2 j u hj)⟩
        clear hK K
        simp only [Act.put]
        refine wpAnyT_one (i := 18) (o := { dst := some 9, op := Op.assign (Operand.tmp 38), type := 4, pos := "proof.go:58", after := #[{ on := 16, ground := Ground.data }, { on := 17, ground := Ground.chain }, { on := 0, ground := Ground.phase }, { on := 1, ground := Ground.phase }, { on := 2, ground := Ground.phase }, { on := 3, ground := Ground.phase }, { on := 4, ground := Ground.phase }, { on := 5, ground := Ground.phase }, { on := 6, ground := Ground.phase }, { on := 7, ground := Ground.phase }, { on := 8, ground := Ground.phase }, { on := 9, ground := Ground.phase }, { on := 10, ground := Ground.phase }, { on := 11, ground := Ground.phase }, { on := 12, ground := Ground.phase }, { on := 13, ground := Ground.phase }, { on := 14, ground := Ground.phase }, { on := 15, ground := Ground.phase }, { on := 16, ground := Ground.phase }, { on := 17, ground := Ground.phase }], guard := none }) rfl (by kernel_rfl) (fun K hK => ?_)
        go_simp
        refine hK.out _ _ (fun h => absurd rfl h) (fun _ => ?_)
        clear hK K
        try simp only [Act.put, List.setIfInBounds_toArray, List.set_cons_zero, List.set_cons_succ]
        refine wpAnyT_done (by kernel_rfl) ?_ _
        refine NoPanic.normal ?_
        have hR := setRow_heap w2 (w.heap.size + 1 + 1) _ (y.map ub).toArray 25 _ (HF.out _ hG02).2.1
        have hGF := gr_row (HF.out _ hG02).1 (w.heap.size + 1 + 1) (y.map ub).toArray (by omega)
        generalize w2.setRow (w.heap.size + 1 + 1) (y.map ub).toArray = V at hR hGF ⊢
        have HR : Hid _ := hR
        clear hR
        go_wp2
        exact bodyPost_ret (results_ct Tryd.results98 _ _ (w.heap.size + 1 + 1) 25 _ (0, 0) _ _ rfl rfl HR.out Tryd.underlying25 rfl HIy.out) rfl ⟨by rw [HRES.out.1, HRES.out.2]; rfl, hGF⟩
      | false =>
        refine wpAnyT_one (i := 9) (o := { dst := some 31, op := Op.move (Operand.tmp 30), type := 4, pos := "proof.go:58", after := #[{ on := 8, ground := Ground.data }, { on := 4, ground := Ground.chain }], guard := none }) rfl (by kernel_rfl) (fun K hK => ?_)
        go_simp
        refine hK.out _ _ (fun _ => hHb) (fun _ => ?_)
        clear hK K
        try simp only [Act.put, List.setIfInBounds_toArray, List.set_cons_zero, List.set_cons_succ]
        refine wpAnyT_take (i := 10) (oi := { dst := some 32, op := Op.fieldAddr 76 (Operand.tmp 7) 3, type := 0, pos := "proof.go:58", after := #[{ on := 9, ground := Ground.guard }], guard := some (9, true) }) (v := ?_) rfl (by kernel_rfl) (by kernel_rfl) (by kernel_rfl) (fun _ _ _ h => h) (by kernel_rfl) (Or.inl ⟨by rfl, ?_⟩) (by assumption) ?_
        rotate_left
        · intro w' hSw
          try dsimp only at hSw
          go_simp
          try with_reducible rfl
        simp only [Act.put, List.setIfInBounds_toArray, List.set_cons_zero, List.set_cons_succ]
        refine wpAnyT_take (i := 11) (oi := { dst := some 33, op := Op.load 25 (Operand.tmp 32), type := 25, pos := "proof.go:58", after := #[{ on := 10, ground := Ground.data }, { on := 9, ground := Ground.guard }], guard := some (9, true) }) (v := .agg (pk.map ub).toArray) rfl (by kernel_rfl) (by kernel_rfl) (by kernel_rfl) (fun _ _ _ h => h) (by kernel_rfl) (yieldsIf_load_mid (by rfl) _ _ rfl (w.heap.size + 1) 3 rfl (pk.map ub) _ (fun w' hSw => hSw.2.2.1) Tryd.underlying25 rfl HIp'.out) (by assumption) ?_
        simp only [Act.put, List.setIfInBounds_toArray, List.set_cons_zero, List.set_cons_succ]
        refine wpAnyT_take (i := 13) (oi := { dst := some 35, op := Op.load 25 (Operand.tmp 4), type := 25, pos := "proof.go:58", after := #[{ on := 9, ground := Ground.guard }], guard := some (9, true) }) (v := .agg (ks.map ub).toArray) rfl (by kernel_rfl) (by kernel_rfl) (by kernel_rfl) (fun _ _ _ h => h) (by kernel_rfl) (yieldsIf_load_mid (by rfl) _ _ rfl w.heap.size 0 rfl (ks.map ub) _ (fun w' hSw => hSw.1) Tryd.underlying25 rfl HIk'.out) (by assumption) ?_
        simp only [Act.put, List.setIfInBounds_toArray, List.set_cons_zero, List.set_cons_succ]
        refine wpAnyT_one (i := 12) (o := { dst := some 34, op := Op.call { callee := Callee.value (Operand.func 100), args := #[Operand.tmp 33], argTypes := #[25] }, type := 74, pos := "proof.go:58", after := #[{ on := 11, ground := Ground.data }, { on := 9, ground := Ground.chain }, { on := 9, ground := Ground.guard }], guard := some (9, true) }) rfl (by kernel_rfl) (fun K hK => ?_)
        rw [if_pos (by rfl)]
        go_simp
        refine (place_any pk hpk w2).mono ?_
        rintro e w3 ⟨rfl, hG3⟩
        have hG03 := gr_trans hG02 hG3
        refine hK.out _ _ (fun _ => (HF.out _ hG03).2.2) (fun hH3 => ?_)
        clear hK K hH3 hHb
        try simp only [Act.put, List.setIfInBounds_toArray, List.set_cons_zero, List.set_cons_succ]
        refine wpAnyT_one (i := 14) (o := { dst := some 36, op := Op.call { callee := Callee.value (Operand.func 100), args := #[Operand.tmp 35], argTypes := #[25] }, type := 74, pos := "proof.go:58", after := #[{ on := 13, ground := Ground.data }, { on := 12, ground := Ground.chain }, { on := 9, ground := Ground.guard }], guard := some (9, true) }) rfl (by kernel_rfl) (fun K hK => ?_)
        rw [if_pos (by rfl)]
        go_simp
        refine (place_any ks hks w3).mono ?_
        rintro e w4 ⟨rfl, hG4⟩
        have hG04 := gr_trans hG03 hG4
        refine hK.out _ _ (fun _ => (HF.out _ hG04).2.2) (fun hH4 => ?_)
        have hHc := hH4 (by decide)
        clear hK K hH4
        try simp only [Act.put, List.setIfInBounds_toArray, List.set_cons_zero, List.set_cons_succ]
        generalize numL (pk.take 8) = P1 at HRES ⊢
        generalize numL (ks.take 8) = P2 at HRES ⊢
        have hcast : ((P1 : Int) == (P2 : Int)) = (P1 == P2) := by rw [Bool.eq_iff_iff]; simp; omega
        refine wpAnyT_take (i := 15) (oi := { dst := some 37, op := Op.binOp BinOp.eql 74 (Operand.tmp 34) (Operand.tmp 36) 74, type := 4, pos := "proof.go:58", after := #[{ on := 12, ground := Ground.data }, { on := 14, ground := Ground.data }, { on := 9, ground := Ground.guard }, { on := 17, ground := Ground.gcOnly Go.Departure.lateStores }], guard := some (9, true) }) (v := ?_) rfl (by kernel_rfl) (by kernel_rfl) (by kernel_rfl) (fun _ _ _ h => h) (by kernel_rfl) (Or.inl ⟨by rfl, ?_⟩) (by assumption) ?_
        rotate_left
        · intro w' hSw
          try dsimp only at hSw
          go_simp
          try with_reducible rfl
        simp only [Act.put, List.setIfInBounds_toArray, List.set_cons_zero, List.set_cons_succ]
        refine wpAnyT_take (i := 16) (oi := { dst := some 38, op := Op.pick (Operand.tmp 31) (Operand.tmp 37) (Operand.const (Value.bool false)), type := 4, pos := "proof.go:58", after := #[{ on := 9, ground := Ground.data }, { on := 15, ground := Ground.data }, { on := 17, ground := Ground.gcOnly Go.Departure.lateStores }], guard := none }) (v := ?_) rfl (by kernel_rfl) (by kernel_rfl) (by kernel_rfl) (fun _ _ _ h => h) (by kernel_rfl) (Or.inl ⟨by rfl, ?_⟩) (by assumption) ?_
        rotate_left
        · intro w' hSw
          try dsimp only at hSw
          go_simp
          try with_reducible rfl
        simp only [Act.put, List.setIfInBounds_toArray, List.set_cons_zero, List.set_cons_succ]
        refine wpAnyT_one (i := 17) (o := { dst := none, op := Op.store 25 (Operand.tmp 8) (Operand.tmp 26), type := 0, pos := "proof.go:58", after := #[{ on := 4, ground := Ground.data }, { on := 14, ground := Ground.chain }, { on := 0, ground := Ground.phase }, { on := 1, ground := Ground.phase }, { on := 2, ground := Ground.phase }, { on := 3, ground := Ground.phase }, { on := 4, ground := Ground.phase }, { on := 5, ground := Ground.textOnly Go.Departure.lateStores }, { on := 6, ground := Ground.textOnly Go.Departure.lateStores }, { on := 7, ground := Ground.textOnly Go.Departure.lateStores }, { on := 8, ground := Ground.textOnly Go.Departure.lateStores }, { on := 9, ground := Ground.textOnly Go.Departure.lateStores }, { on := 10, ground := Ground.textOnly Go.Departure.lateStores }, { on := 11, ground := Ground.textOnly Go.Departure.lateStores }, { on := 12, ground := Ground.textOnly Go.Departure.lateStoresUnsure }, { on := 13, ground := Ground.textOnly Go.Departure.lateStores }, { on := 14, ground := Ground.textOnly Go.Departure.lateStoresUnsure }, { on := 15, ground := Ground.textOnly Go.Departure.lateStores }, { on := 16, ground := Ground.textOnly Go.Departure.lateStores }], guard := none }) rfl (by kernel_rfl) (fun K hK => ?_)
        rw [if_pos (by rfl)]
        refine wp_store_row 25 _ _ rfl (w.heap.size + 1 + 1) (y.map ub).toArray rfl rfl 25 _ (HF.out _ hG04).2.1 HIy.out HOy.out HNy.out ?_
        refine hK.out _ _ (fun _ => ?_) (fun _ => ?_)
        · have hS := (HF.out _ hG04).2.2
          have hof : ∀ (g j : Nat), g ≠ w.heap.size + 1 + 1 → (w4.setRow (w.heap.size + 1 + 1) (y.map ub).toArray).cell? ⟨g, j, none⟩ = w4.cell? ⟨g, j, none⟩ := fun g j hg => World.cell?_of_block (a := ⟨g, j, none⟩) (setRow_other _ _ _ _ hg)
          exact ⟨fun j u hj => (hof _ _ (by omega)).trans (hS.1 j u hj), (hof _ _ (by omega)).trans hS.2.1, fun j u hj => (hof _ _ (by omega)).trans (hS.2.2.1 j u hj), fun j u hj => (hof _ _ (by omega)).trans (hS.2.2.2 j u hj)⟩
        clear hK K
        simp only [Act.put]
        refine wpAnyT_one (i := 18) (o := { dst := some 9, op := Op.assign (Operand.tmp 38), type := 4, pos := "proof.go:58", after := #[{ on := 16, ground := Ground.data }, { on := 17, ground := Ground.chain }, { on := 0, ground := Ground.phase }, { on := 1, ground := Ground.phase }, { on := 2, ground := Ground.phase }, { on := 3, ground := Ground.phase }, { on := 4, ground := Ground.phase }, { on := 5, ground := Ground.phase }, { on := 6, ground := Ground.phase }, { on := 7, ground := Ground.phase }, { on := 8, ground := Ground.phase }, { on := 9, ground := Ground.phase }, { on := 10, ground := Ground.phase }, { on := 11, ground := Ground.phase }, { on := 12, ground := Ground.phase }, { on := 13, ground := Ground.phase }, { on := 14, ground := Ground.phase }, { on := 15, ground := Ground.phase }, { on := 16, ground := Ground.phase }, { on := 17, ground := Ground.phase }], guard := none }) rfl (by kernel_rfl) (fun K hK => ?_)
        go_simp
        refine hK.out _ _ (fun h => absurd rfl h) (fun _ => ?_)
        clear hK K
        try simp only [Act.put, List.setIfInBounds_toArray, List.set_cons_zero, List.set_cons_succ]
        refine wpAnyT_done (by kernel_rfl) ?_ _
        refine NoPanic.normal ?_
        have hR := setRow_heap w4 (w.heap.size + 1 + 1) _ (y.map ub).toArray 25 _ (HF.out _ hG04).2.1
        have hGF := gr_row (HF.out _ hG04).1 (w.heap.size + 1 + 1) (y.map ub).toArray (by omega)
        generalize w4.setRow (w.heap.size + 1 + 1) (y.map ub).toArray = V at hR hGF ⊢
        have HR : Hid _ := hR
        clear hR
        go_wp2
        exact bodyPost_ret (results_ct Tryd.results98 _ _ (w.heap.size + 1 + 1) 25 _ (0, 0) _ _ rfl rfl HR.out Tryd.underlying25 rfl HIy.out) rfl ⟨by rw [HRES.out.1, HRES.out.2]; rfl, hGF⟩
end Go.Proofs.YtplhlhjakapaaaaDoor
