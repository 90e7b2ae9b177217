/-
  places.Holds and roots.Holds.
-/
import Derived.Test.YtplhlhjakapaaaaDoorPStart
import Derived.Test.YtplhlhjakapaaaaDoorHoldsR
namespace Go.Proofs.YtplhlhjakapaaaaDoor
open Go Go.RowKit

/-- The program's way to the same answer. -/
theorem holds_way (key value : List UInt8) (present : Bool) (mask : Nat) (ps : List (List UInt8)) (taken : Bool) (pk pv root : List UInt8) (hd : ps.length = digs 2 64 mask) :
    holdsB key value present mask ps taken pk pv root = (startB (sha key) pk present taken && (climbL (numL ((sha key).take 8)) mask 64 0 (startS (sha key) value pk pv present taken) ps == root)) := by
  have hL : ∀ pl x, leadO pl mask 64 0 x ps = some (climbL pl mask 64 0 x ps) := fun pl x => leadO_climb pl mask 64 0 x ps (by simpa using hd)
  unfold holdsB startB startS
  simp only [hL, Option.some_beq_some]
  generalize sha key = ks
  cases present with
  | true => cases taken <;> rfl
  | false =>
    cases taken with
    | false => rfl
    | true =>
      simp only [Bool.false_eq_true, if_false, if_true]
      by_cases h1 : pk = ks
      · rw [if_pos (Or.inl h1)]; simp [h1]
      · by_cases h2 : numL (pk.take 8) = numL (ks.take 8)
        · rw [if_neg (by simp [h1, h2])]; simp [h1, h2]
        · rw [if_pos (Or.inr h2)]; simp [h2]
theorem holds_not (key value : List UInt8) (present : Bool) (mask : Nat) (ps : List (List UInt8)) (taken : Bool) (pk pv root : List UInt8) (hd : ps.length ≠ digs 2 64 mask) :
    holdsB key value present mask ps taken pk pv root = false := by
  have hL : ∀ pl x, leadO pl mask 64 0 x ps = none := fun pl x => leadO_none pl mask 64 0 x ps (by simpa using hd)
  unfold holdsB
  simp only [hL]
  cases present <;> cases taken <;> simp

theorem length_climbL (pl mask : Nat) : ∀ (f k : Nat) (x : List UInt8) (ps : List (List UInt8)), x.length = 32 → (climbL pl mask f k x ps).length = 32
  | 0, _, _, _, h => h
  | f + 1, k, x, ps, _ => by
    rw [climbL]; split
    · exact length_climbL pl mask f _ _ _ (length_stepL _ _ _ _)
    · exact length_climbL pl mask f _ _ _ (length_stepL _ _ _ _)

set_option maxHeartbeats 4000000 in
set_option maxRecDepth 100000 in
theorem pholds_any (key value : List UInt8) (kv vv : Value) (present : Bool) (mask : Nat) (ps : List (List UInt8)) (path : Value) (taken : Bool) (pk pv root : List UInt8) (w : World) (hw : 1 < w.heap.size) (hT : Tab w)
    (hkv : SliceIs w kv key) (hvv : SliceIs w vv value) (hkl : key.length < 999999999) (hvl : value.length < 999999999) (hm : mask < 18446744073709551616) (hpk : pk.length = 32) (hpv : pv.length = 32) (hr : root.length = 32) (hp : SumsIs w path ps) (hps : ps.length < 1000000) :
    Calls Tryd.prog 75 #[kv, .bool present, vv, .agg (proofC mask path taken pk pv).toArray, .agg (root.map ub).toArray] w
      fun e w' => e = .returned (.bool (holdsB key value present mask ps taken pk pv root)) ∧ w.grownBy w' none := by
  have HT : Hid (Tab w) := hT
  have HKV : Hid (SliceIs w kv key) := hkv
  have HVV : Hid (SliceIs w vv value) := hvv
  have HP : Hid (SumsIs w path ps) := hp
  have HM : Hid (mask < 18446744073709551616) := hm
  have HST : Hid (∀ (ks : List UInt8) (V : World), w.grownBy V none → ks.length = 32 → Calls Tryd.prog 98 #[.agg (ks.map ub).toArray, .bool present, vv, .agg (proofC mask path taken pk pv).toArray] V
      fun e w' => e = .returned (.tuple #[.agg ((startS ks value pk pv present taken).map ub).toArray, .bool (startB ks pk present taken)]) ∧ V.grownBy w' none) := fun ks V hV hks =>
    start_any ks value vv present mask path taken pk pv V (by have := hV.size; omega) (HT.out.gr hV hw) hks hpk hpv (HVV.out.gr hV) hvl
  have HCL : Hid (ps.length = digs 2 64 mask → ∀ (pl : Nat) (x0 : List UInt8) (V : World), w.grownBy V none → pl < 18446744073709551616 → x0.length = 32 → Calls Tryd.prog 99 #[.agg (x0.map ub).toArray, .int .u64 (pl : Int), .agg (proofC mask path taken pk pv).toArray] V
      fun e w' => e = .returned (.agg ((climbL pl mask 64 0 x0 ps).map ub).toArray) ∧ V.grownBy w' none) := fun hd pl x0 V hV hpl hx =>
    pclimb_any pl mask x0 pk pv ps path taken V (by have := hV.size; omega) (HT.out.gr hV hw) hpl HM.out hx hpk hpv (HP.out.gr hV) hps hd
  have HON : Hid (∀ V : World, Calls Tryd.prog 97 #[.int .u64 (mask : Int)] V fun e w' => e = .returned (.int .i64 (digs 2 64 mask : Int)) ∧ w' = V) := fun V => ones_any mask HM.out V
  obtain ⟨_, sp, cap, rfl, _, _⟩ := hp
  have hPl : (proofC mask (.slice sp ps.length cap) taken pk pv).length = 67 := by simp [proofC, hpk, hpv]
  have hP0 : (proofC mask (.slice sp ps.length cap) taken pk pv)[0]? = some (.int .u64 (mask : Int)) := rfl
  have hP1 : (proofC mask (.slice sp ps.length cap) taken pk pv)[1]? = some (.slice sp ps.length cap) := rfl
  generalize proofC mask (.slice sp ps.length cap) taken pk pv = C at HST HCL hPl hP0 hP1 ⊢
  have HI76 : Hid _ := info76' C hPl
  have HI76' : Hid ((Tryd.prog.info? 76).map (·.size) = some C.length) := by show _ = _; rw [HI76.out]; simp
  have HW0 : Hid (holdsB key value present mask ps taken pk pv root = holdsB key value present mask ps taken pk pv root) := rfl
  have HNOT : Hid (ps.length ≠ digs 2 64 mask → holdsB key value present mask ps taken pk pv root = false) := holds_not key value present mask ps taken pk pv root
  have HWAY : Hid (ps.length = digs 2 64 mask → holdsB key value present mask ps taken pk pv root = (startB (sha key) pk present taken && (climbL (numL ((sha key).take 8)) mask 64 0 (startS (sha key) value pk pv present taken) ps == root))) := holds_way key value present mask ps taken pk pv root
  clear hT hkv hvv hm HW0
  have hA := gr_trans (gr_alloc w (Obj.cells C.toArray 76)) (gr_alloc _ (Obj.cells (root.map ub).toArray 25))
  have hC0 : ((w.alloc (Obj.cells C.toArray 76)).alloc (Obj.cells (root.map ub).toArray 25)).heap[w.heap.size]? = some (.cells C.toArray 76 (0, 0)) := heap_alloc2_old _ _ _
  have hR0 : ((w.alloc (Obj.cells C.toArray 76)).alloc (Obj.cells (root.map ub).toArray 25)).heap[w.heap.size + 1]? = some (.cells (root.map ub).toArray 25 (0, 0)) := heap_alloc2_new _ _ _
  go_enter Tryd.func75, Tryd.ntmps75
  go_wp2_with fail
  generalize (w.alloc (Obj.cells C.toArray 76)).alloc (Obj.cells (root.map ub).toArray 25) = W0 at hA hC0 hR0 ⊢
  have HF : Hid (∀ V : World, W0.grownBy V none → w.grownBy V none ∧ (V.cell? ⟨w.heap.size, 0, none⟩ = some (.int .u64 (mask : Int)) ∧ V.cell? ⟨w.heap.size, 1, none⟩ = some (.slice sp ps.length cap)) ∧ V.rangeAt w.heap.size 0 C ∧ V.rangeAt (w.heap.size + 1) 0 (root.map ub) ∧ V.heap[w.heap.size]? = some (.cells C.toArray 76 (0, 0)) ∧ w.heap.size + 1 < V.heap.size) := fun V hV => by
    have hC1 := (hV.block _ (Array.getElem?_eq_some_iff.1 hC0).1 (by simp)).trans hC0
    have hR1 := (hV.block _ (Array.getElem?_eq_some_iff.1 hR0).1 (by simp)).trans hR0
    refine ⟨gr_trans hA hV, ⟨?_, ?_⟩, fun j u hj => ?_, fun j u hj => ?_, hC1, (Array.getElem?_eq_some_iff.1 hR1).1⟩
    · rw [cell_of_row V _ _ _ _ _ hC1]; simpa using hP0
    · rw [cell_of_row V _ _ _ _ _ hC1]; simpa using hP1
    · rw [Nat.zero_add, cell_of_row V _ _ _ _ _ hC1]; simpa using hj
    · rw [Nat.zero_add, cell_of_row V _ _ _ _ _ hR1]; simpa using hj
  clear hA hC0 hR0 hP0 hP1
  have hd0 := gr_drew (gr_refl W0)
  refine wp_region_noPanic ?_
  refine wp_region_held_drew (S := fun w' => w'.cell? ⟨w.heap.size, 0, none⟩ = some (.int .u64 (mask : Int)) ∧ w'.cell? ⟨w.heap.size, 1, none⟩ = some (.slice sp ps.length cap)) (by kernel_rfl) (HF.out _ hd0).2.1 (fun hHeld => ?_)
  refine wpAnyH_take (i := 0) (oi := { dst := some 14, op := Op.fieldAddr 76 (Operand.tmp 8) 1, type := 0, pos := "proof.go:44", after := #[], guard := none }) (v := ?_) rfl (by kernel_rfl) (by kernel_rfl) (by kernel_rfl) (fun _ _ _ h => h) (Or.inl ⟨by rfl, ?_⟩) (by assumption) ?_
  rotate_left
  · intro w' hSw
    try dsimp only at hSw
    obtain ⟨hSa, hSb⟩ := hSw
    go_simp
    try with_reducible rfl
  simp only [Act.put, List.setIfInBounds_toArray, List.set_cons_zero, List.set_cons_succ]
  refine wpAnyH_take (i := 1) (oi := { dst := some 15, op := Op.load 38 (Operand.tmp 14), type := 38, pos := "proof.go:44", after := #[{ on := 0, ground := Ground.data }], guard := none }) (v := ?_) rfl (by kernel_rfl) (by kernel_rfl) (by kernel_rfl) (fun _ _ _ h => h) (Or.inl ⟨by rfl, ?_⟩) (by assumption) ?_
  rotate_left
  · intro w' hSw
    try dsimp only at hSw
    obtain ⟨hSa, hSb⟩ := hSw
    go_simp
    try with_reducible rfl
  simp only [Act.put, List.setIfInBounds_toArray, List.set_cons_zero, List.set_cons_succ]
  refine wpAnyH_take (i := 2) (oi := { dst := some 16, op := Op.call { callee := Callee.builtin Builtin.len, args := #[Operand.tmp 15], argTypes := #[38] }, type := 3, pos := "proof.go:44", after := #[{ on := 1, ground := Ground.data }], guard := none }) (v := ?_) rfl (by kernel_rfl) (by kernel_rfl) (by kernel_rfl) (fun _ _ _ h => h) (Or.inl ⟨by rfl, ?_⟩) (by assumption) ?_
  rotate_left
  · intro w' hSw
    try dsimp only at hSw
    obtain ⟨hSa, hSb⟩ := hSw
    go_simp
    try with_reducible rfl
  simp only [Act.put, List.setIfInBounds_toArray, List.set_cons_zero, List.set_cons_succ]
  refine wpAnyH_take (i := 3) (oi := { dst := some 17, op := Op.fieldAddr 76 (Operand.tmp 8) 0, type := 0, pos := "proof.go:44", after := #[], guard := none }) (v := ?_) rfl (by kernel_rfl) (by kernel_rfl) (by kernel_rfl) (fun _ _ _ h => h) (Or.inl ⟨by rfl, ?_⟩) (by assumption) ?_
  rotate_left
  · intro w' hSw
    try dsimp only at hSw
    obtain ⟨hSa, hSb⟩ := hSw
    go_simp
    try with_reducible rfl
  simp only [Act.put, List.setIfInBounds_toArray, List.set_cons_zero, List.set_cons_succ]
  refine wpAnyH_take (i := 4) (oi := { dst := some 18, op := Op.load 74 (Operand.tmp 17), type := 74, pos := "proof.go:44", after := #[{ on := 3, ground := Ground.data }], guard := none }) (v := ?_) rfl (by kernel_rfl) (by kernel_rfl) (by kernel_rfl) (fun _ _ _ h => h) (Or.inl ⟨by rfl, ?_⟩) (by assumption) ?_
  rotate_left
  · intro w' hSw
    try dsimp only at hSw
    obtain ⟨hSa, hSb⟩ := hSw
    go_simp
    try with_reducible rfl
  simp only [Act.put, List.setIfInBounds_toArray, List.set_cons_zero, List.set_cons_succ]
  refine wpAnyH_one (i := 5) (o := { dst := some 19, op := Op.call { callee := Callee.value (Operand.func 97), args := #[Operand.tmp 18], argTypes := #[74] }, type := 3, pos := "proof.go:44", after := #[{ on := 4, ground := Ground.data }], guard := none }) rfl (by kernel_rfl) (fun K hK => ?_)
  go_simp
  refine (HON.out W0.drew).mono ?_
  rintro e w' ⟨rfl, hw'⟩
  rw [hw']
  clear hw' w'
  refine hK.out _ _ hHeld (fun _ => ?_)
  clear hK K
  try simp only [Act.put, List.setIfInBounds_toArray, List.set_cons_zero, List.set_cons_succ]
  generalize eD : digs 2 64 mask = D at HCL HNOT HWAY ⊢
  clear eD HON
  by_cases hdd : ps.length = D
  · have hcl := HCL.out hdd
    have HC2 : Hid _ := hcl
    have HW2 : Hid _ := HWAY.out hdd
    have dn : ((ps.length : Int) != (D : Int)) = false := by simp [hdd]
    clear HCL HWAY HNOT hcl hdd
    refine wpAnyH_one (i := 6) (o := { dst := some 20, op := Op.binOp BinOp.neq 3 (Operand.tmp 16) (Operand.tmp 19) 3, type := 4, pos := "proof.go:44", after := #[{ on := 2, ground := Ground.data }, { on := 5, ground := Ground.data }], guard := none }) rfl (by kernel_rfl) (fun K hK => ?_)
    go_simp
    refine hK.out _ _ hHeld (fun _ => ?_)
    clear hK K hHeld
    try simp only [Act.put, List.setIfInBounds_toArray, List.set_cons_zero, List.set_cons_succ]
    refine wpAnyH_done (by kernel_rfl) ?_ _
    refine NoPanic.normal ?_
    go_wp2_with fail
    refine (sum_any key kv W0.drew (by have := (HF.out _ hd0).1.size; omega) (HT.out.gr (HF.out _ hd0).1 hw) (HKV.out.gr (HF.out _ hd0).1) (by omega)).mono ?_
    rintro e w1 ⟨rfl, hG1⟩
    have hG01 := gr_trans hd0 hG1
    have hsl := length_sha key
    generalize sha key = s at hsl HW2 ⊢
    obtain ⟨HIs, HOs, HNs⟩ := sum25 s hsl
    have HIs' : Hid ((Tryd.prog.info? 25).map (·.size) = some (s.map ub).length) := by show _ = _; rw [HIs.out]; simp
    clear hG1
    go_wp2_with (first | (refine wpList_load_row rfl 25 _ rfl w1.heap.size rfl 25 _ (0, 0) _ hW2 Tryd.underlying25 rfl HIs.out ?_) | (refine wpList_load_row rfl 76 _ rfl w.heap.size rfl 76 _ (0, 0) _ hC2 Tryd.underlying76 rfl HI76.out ?_) | (refine store_new rfl 25 _ _ rfl (s.map ub).toArray _ _ rfl rfl HIs.out HOs.out HNs.out ?_; intro W2 hW2 hs2 hG2; clear hs2; obtain ⟨hGw, _, _, _, hC2, _⟩ := HF.out W2 (gr_trans hG01 hG2)))
    have hG02 := gr_trans hG01 hG2
    have hb1 : w.heap.size + 1 < w1.heap.size := (HF.out _ hG01).2.2.2.2.2
    refine (HST.out s W2 hGw hsl).mono ?_
    rintro e w3 ⟨rfl, hG3⟩
    have hG03 := gr_trans hG02 hG3
    have hS3 := (hG3.block _ (Array.getElem?_eq_some_iff.1 hW2).1 (by simp)).trans hW2
    have hb3 : w1.heap.size < w3.heap.size := (Array.getElem?_eq_some_iff.1 hS3).1
    have hxl := length_startS s value pk pv present taken
    clear HST
    generalize startS s value pk pv present taken = x at hxl HW2 ⊢
    generalize startB s pk present taken = ok at HW2 ⊢
    obtain ⟨HIx, HOx, HNx⟩ := sum25 x hxl
    have HIx' : Hid ((Tryd.prog.info? 25).map (·.size) = some (x.map ub).length) := by show _ = _; rw [HIx.out]; simp
    obtain ⟨HIr, _, _⟩ := sum25 root hr
    have HIr' : Hid ((Tryd.prog.info? 25).map (·.size) = some (root.map ub).length) := by show _ = _; rw [HIr.out]; simp
    clear hW2 hG2 hC2 hGw hG3 hG02 hG01
    cases ok with
    | false =>
      go_wp2_with (first | (refine store_new rfl 25 _ _ rfl (x.map ub).toArray _ _ rfl rfl HIx.out HOx.out HNx.out ?_; intro W4 hW4 hs4 hG4; clear hs4))
      have hG04 := gr_trans hG03 hG4
      have hGE := (HF.out _ hG04).1
      have hd4 := gr_drew (gr_refl W4)
      refine wp_region_noPanic ?_
      refine wp_region_T (last := 10) (S := fun _ => True) (by kernel_rfl) trivial (fun hHeld => ?_)
      refine wpAnyT_take (i := 0) (oi := { dst := some 31, op := Op.move (Operand.tmp 13), type := 4, pos := "proof.go:49", after := #[], guard := none }) (v := ?_) rfl (by kernel_rfl) (by kernel_rfl) (by kernel_rfl) (fun _ _ _ h => h) (by kernel_rfl) (Or.inl ⟨by rfl, ?_⟩) (by assumption) ?_
      rotate_left
      · intro w' hSw
        try dsimp only at hSw
        go_simp
        try with_reducible rfl
      simp only [Act.put, List.setIfInBounds_toArray, List.set_cons_zero, List.set_cons_succ]
      refine wpAnyT_take (i := 1) (oi := { dst := some 32, op := Op.move (Operand.tmp 31), type := 4, pos := "proof.go:49", after := #[{ on := 0, ground := Ground.data }], guard := none }) (v := ?_) rfl (by kernel_rfl) (by kernel_rfl) (by kernel_rfl) (fun _ _ _ h => h) (by kernel_rfl) (Or.inl ⟨by rfl, ?_⟩) (by assumption) ?_
      rotate_left
      · intro w' hSw
        try dsimp only at hSw
        go_simp
        try with_reducible rfl
      simp only [Act.put, List.setIfInBounds_toArray, List.set_cons_zero, List.set_cons_succ]
      refine wpAnyT_take (i := 2) (oi := { dst := some 33, op := Op.load 25 (Operand.tmp 12), type := 25, pos := "proof.go:49", after := #[{ on := 1, ground := Ground.guard }], guard := some (1, true) }) (v := undef) rfl (by kernel_rfl) (by kernel_rfl) (by kernel_rfl) (fun _ _ _ h => h) (by kernel_rfl) (Or.inr ⟨by rfl, rfl⟩) (by assumption) ?_
      simp only [Act.put, List.setIfInBounds_toArray, List.set_cons_zero, List.set_cons_succ]
      refine wpAnyT_take (i := 3) (oi := { dst := some 34, op := Op.load 25 (Operand.tmp 11), type := 25, pos := "proof.go:49", after := #[{ on := 1, ground := Ground.guard }], guard := some (1, true) }) (v := undef) rfl (by kernel_rfl) (by kernel_rfl) (by kernel_rfl) (fun _ _ _ h => h) (by kernel_rfl) (Or.inr ⟨by rfl, rfl⟩) (by assumption) ?_
      simp only [Act.put, List.setIfInBounds_toArray, List.set_cons_zero, List.set_cons_succ]
      refine wpAnyT_take (i := 4) (oi := { dst := some 35, op := Op.call { callee := Callee.value (Operand.func 100), args := #[Operand.tmp 34], argTypes := #[25] }, type := 74, pos := "proof.go:49", after := #[{ on := 3, ground := Ground.data }, { on := 1, ground := Ground.chain }, { on := 1, ground := Ground.guard }], guard := some (1, true) }) (v := undef) rfl (by kernel_rfl) (by kernel_rfl) (by kernel_rfl) (fun _ _ _ h => h) (by kernel_rfl) (Or.inr ⟨by rfl, rfl⟩) (by assumption) ?_
      simp only [Act.put, List.setIfInBounds_toArray, List.set_cons_zero, List.set_cons_succ]
      refine wpAnyT_take (i := 5) (oi := { dst := some 36, op := Op.load 76 (Operand.tmp 8), type := 76, pos := "proof.go:49", after := #[{ on := 1, ground := Ground.guard }], guard := some (1, true) }) (v := undef) rfl (by kernel_rfl) (by kernel_rfl) (by kernel_rfl) (fun _ _ _ h => h) (by kernel_rfl) (Or.inr ⟨by rfl, rfl⟩) (by assumption) ?_
      simp only [Act.put, List.setIfInBounds_toArray, List.set_cons_zero, List.set_cons_succ]
      refine wpAnyT_take (i := 6) (oi := { dst := some 37, op := Op.call { callee := Callee.value (Operand.func 99), args := #[Operand.tmp 33, Operand.tmp 35, Operand.tmp 36], argTypes := #[25, 74, 76] }, type := 25, pos := "proof.go:49", after := #[{ on := 2, ground := Ground.data }, { on := 4, ground := Ground.data }, { on := 5, ground := Ground.data }, { on := 4, ground := Ground.chain }, { on := 1, ground := Ground.guard }], guard := some (1, true) }) (v := undef) rfl (by kernel_rfl) (by kernel_rfl) (by kernel_rfl) (fun _ _ _ h => h) (by kernel_rfl) (Or.inr ⟨by rfl, rfl⟩) (by assumption) ?_
      simp only [Act.put, List.setIfInBounds_toArray, List.set_cons_zero, List.set_cons_succ]
      refine wpAnyT_take (i := 7) (oi := { dst := some 38, op := Op.load 25 (Operand.tmp 9), type := 25, pos := "proof.go:49", after := #[{ on := 1, ground := Ground.guard }], guard := some (1, true) }) (v := undef) rfl (by kernel_rfl) (by kernel_rfl) (by kernel_rfl) (fun _ _ _ h => h) (by kernel_rfl) (Or.inr ⟨by rfl, rfl⟩) (by assumption) ?_
      simp only [Act.put, List.setIfInBounds_toArray, List.set_cons_zero, List.set_cons_succ]
      refine wpAnyT_take (i := 8) (oi := { dst := some 39, op := Op.binOp BinOp.eql 25 (Operand.tmp 37) (Operand.tmp 38) 25, type := 4, pos := "proof.go:49", after := #[{ on := 6, ground := Ground.data }, { on := 7, ground := Ground.data }, { on := 1, ground := Ground.guard }], guard := some (1, true) }) (v := undef) rfl (by kernel_rfl) (by kernel_rfl) (by kernel_rfl) (fun _ _ _ h => h) (by kernel_rfl) (Or.inr ⟨by rfl, rfl⟩) (by assumption) ?_
      simp only [Act.put, List.setIfInBounds_toArray, List.set_cons_zero, List.set_cons_succ]
      refine wpAnyT_take (i := 9) (oi := { dst := some 40, op := Op.pick (Operand.tmp 32) (Operand.tmp 39) (Operand.const (Value.bool false)), type := 4, pos := "proof.go:49", after := #[{ on := 1, ground := Ground.data }, { on := 8, ground := Ground.data }], guard := none }) (v := ?_) rfl (by kernel_rfl) (by kernel_rfl) (by kernel_rfl) (fun _ _ _ h => h) (by kernel_rfl) (Or.inl ⟨by rfl, ?_⟩) (by assumption) ?_
      rotate_left
      · intro w' hSw
        try dsimp only at hSw
        go_simp
        try with_reducible rfl
      simp only [Act.put, List.setIfInBounds_toArray, List.set_cons_zero, List.set_cons_succ]
      refine wpAnyT_one (i := 10) (o := { dst := some 10, op := Op.assign (Operand.tmp 40), type := 4, pos := "proof.go:49", after := #[{ on := 9, ground := Ground.data }, { on := 6, ground := Ground.chain }, { on := 0, ground := Ground.phase }, { on := 1, ground := Ground.phase }, { on := 2, ground := Ground.phase }, { on := 3, ground := Ground.phase }, { on := 4, ground := Ground.phase }, { on := 5, ground := Ground.phase }, { on := 6, ground := Ground.phase }, { on := 7, ground := Ground.phase }, { on := 8, ground := Ground.phase }, { on := 9, ground := Ground.phase }], guard := none }) rfl (by kernel_rfl) (fun K hK => ?_)
      go_simp
      refine hK.out _ _ (fun h => absurd rfl h) (fun _ => ?_)
      clear hK K
      try simp only [Act.put, List.setIfInBounds_toArray, List.set_cons_zero, List.set_cons_succ]
      refine wpAnyT_done (by kernel_rfl) ?_ _
      refine NoPanic.normal ?_
      have hGZ := gr_drew hGE
      clear HF
      generalize W4.drew = V at hGZ ⊢
      go_wp2
      go_ret
      exact ⟨by rw [HW2.out]; rfl, hGZ⟩
    | true =>
      go_wp2_with (first | (refine store_new rfl 25 _ _ rfl (x.map ub).toArray _ _ rfl rfl HIx.out HOx.out HNx.out ?_; intro W4 hW4 hs4 hG4; clear hs4))
      have hG04 := gr_trans hG03 hG4
      have hS4 := (hG4.block _ (Array.getElem?_eq_some_iff.1 hS3).1 (by simp)).trans hS3
      have hd4 := gr_drew (gr_refl W4)
      have HS : Hid (∀ V : World, W4.grownBy V none → V.rangeAt w3.heap.size 0 (x.map ub) ∧ V.rangeAt w1.heap.size 0 (s.map ub) ∧ V.rangeAt w.heap.size 0 C ∧ V.rangeAt (w.heap.size + 1) 0 (root.map ub)) := fun V hV => by
        have hx1 := (hV.block _ (Array.getElem?_eq_some_iff.1 hW4).1 (by simp)).trans hW4
        have hs1 := (hV.block _ (Array.getElem?_eq_some_iff.1 hS4).1 (by simp)).trans hS4
        have hf := HF.out V (gr_trans hG04 hV)
        refine ⟨fun j u hj => ?_, fun j u hj => ?_, hf.2.2.1, hf.2.2.2.1⟩
        · rw [Nat.zero_add, cell_of_row V _ _ _ _ _ hx1]; simpa using hj
        · rw [Nat.zero_add, cell_of_row V _ _ _ _ _ hs1]; simpa using hj
      have hGd4 : w.grownBy W4.drew none := gr_drew (HF.out _ hG04).1
      clear hS3 hG03 hG4 hW4 hS4 HF
      refine wp_region_noPanic ?_
      refine wp_region_T (last := 10) (S := fun w' => w'.rangeAt w3.heap.size 0 (x.map ub) ∧ w'.rangeAt w1.heap.size 0 (s.map ub) ∧ w'.rangeAt w.heap.size 0 C ∧ w'.rangeAt (w.heap.size + 1) 0 (root.map ub)) (by kernel_rfl) (HS.out _ hd4) (fun hHeld => ?_)
      refine wpAnyT_take (i := 0) (oi := { dst := some 31, op := Op.move (Operand.tmp 13), type := 4, pos := "proof.go:49", after := #[], guard := none }) (v := ?_) rfl (by kernel_rfl) (by kernel_rfl) (by kernel_rfl) (fun _ _ _ h => h) (by kernel_rfl) (Or.inl ⟨by rfl, ?_⟩) (by assumption) ?_
      rotate_left
      · intro w' hSw
        try dsimp only at hSw
        go_simp
        try with_reducible rfl
      simp only [Act.put, List.setIfInBounds_toArray, List.set_cons_zero, List.set_cons_succ]
      refine wpAnyT_take (i := 1) (oi := { dst := some 32, op := Op.move (Operand.tmp 31), type := 4, pos := "proof.go:49", after := #[{ on := 0, ground := Ground.data }], guard := none }) (v := ?_) rfl (by kernel_rfl) (by kernel_rfl) (by kernel_rfl) (fun _ _ _ h => h) (by kernel_rfl) (Or.inl ⟨by rfl, ?_⟩) (by assumption) ?_
      rotate_left
      · intro w' hSw
        try dsimp only at hSw
        go_simp
        try with_reducible rfl
      simp only [Act.put, List.setIfInBounds_toArray, List.set_cons_zero, List.set_cons_succ]
      refine wpAnyT_take (i := 2) (oi := { dst := some 33, op := Op.load 25 (Operand.tmp 12), type := 25, pos := "proof.go:49", after := #[{ on := 1, ground := Ground.guard }], guard := some (1, true) }) (v := .agg (x.map ub).toArray) rfl (by kernel_rfl) (by kernel_rfl) (by kernel_rfl) (fun _ _ _ h => h) (by kernel_rfl) (yieldsIf_load_mid (by rfl) _ _ rfl w3.heap.size 0 rfl (x.map ub) _ (fun w' hSw => hSw.1) Tryd.underlying25 rfl HIx'.out) (by assumption) ?_
      simp only [Act.put, List.setIfInBounds_toArray, List.set_cons_zero, List.set_cons_succ]
      refine wpAnyT_take (i := 3) (oi := { dst := some 34, op := Op.load 25 (Operand.tmp 11), type := 25, pos := "proof.go:49", after := #[{ on := 1, ground := Ground.guard }], guard := some (1, true) }) (v := .agg (s.map ub).toArray) rfl (by kernel_rfl) (by kernel_rfl) (by kernel_rfl) (fun _ _ _ h => h) (by kernel_rfl) (yieldsIf_load_mid (by rfl) _ _ rfl w1.heap.size 0 rfl (s.map ub) _ (fun w' hSw => hSw.2.1) Tryd.underlying25 rfl HIs'.out) (by assumption) ?_
      simp only [Act.put, List.setIfInBounds_toArray, List.set_cons_zero, List.set_cons_succ]
      refine wpAnyT_take (i := 5) (oi := { dst := some 36, op := Op.load 76 (Operand.tmp 8), type := 76, pos := "proof.go:49", after := #[{ on := 1, ground := Ground.guard }], guard := some (1, true) }) (v := .agg C.toArray) rfl (by kernel_rfl) (by kernel_rfl) (by kernel_rfl) (fun _ _ _ h => h) (by kernel_rfl) (yieldsIf_load_mid (by rfl) _ _ rfl w.heap.size 0 rfl C _ (fun w' hSw => hSw.2.2.1) Tryd.underlying76 rfl HI76'.out) (by assumption) ?_
      simp only [Act.put, List.setIfInBounds_toArray, List.set_cons_zero, List.set_cons_succ]
      refine wpAnyT_take (i := 7) (oi := { dst := some 38, op := Op.load 25 (Operand.tmp 9), type := 25, pos := "proof.go:49", after := #[{ on := 1, ground := Ground.guard }], guard := some (1, true) }) (v := .agg (root.map ub).toArray) rfl (by kernel_rfl) (by kernel_rfl) (by kernel_rfl) (fun _ _ _ h => h) (by kernel_rfl) (yieldsIf_load_mid (by rfl) _ _ rfl (w.heap.size + 1) 0 rfl (root.map ub) _ (fun w' hSw => hSw.2.2.2) Tryd.underlying25 rfl HIr'.out) (by assumption) ?_
      simp only [Act.put, List.setIfInBounds_toArray, List.set_cons_zero, List.set_cons_succ]
      refine wpAnyT_one (i := 4) (o := { dst := some 35, op := Op.call { callee := Callee.value (Operand.func 100), args := #[Operand.tmp 34], argTypes := #[25] }, type := 74, pos := "proof.go:49", after := #[{ on := 3, ground := Ground.data }, { on := 1, ground := Ground.chain }, { on := 1, ground := Ground.guard }], guard := some (1, true) }) rfl (by kernel_rfl) (fun K hK => ?_)
      rw [if_pos (by rfl)]
      go_simp
      refine (place_any s hsl W4.drew).mono ?_
      rintro e w5 ⟨rfl, hG5⟩
      have hG45 := gr_trans hd4 hG5
      have hGw5 := gr_trans hGd4 hG5
      refine hK.out _ _ (fun _ => HS.out _ hG45) (fun _ => ?_)
      clear hK K hHeld
      try simp only [Act.put, List.setIfInBounds_toArray, List.set_cons_zero, List.set_cons_succ]
      have hplb : numL (s.take 8) < 18446744073709551616 := by
        have h1 := numL_lt (s.take 8)
        rw [List.length_take, hsl] at h1
        simpa using h1
      generalize numL (s.take 8) = pl at hplb HW2 ⊢
      have HPLB : Hid (pl < 18446744073709551616) := hplb
      clear hplb
      refine wpAnyT_one (i := 6) (o := { dst := some 37, op := Op.call { callee := Callee.value (Operand.func 99), args := #[Operand.tmp 33, Operand.tmp 35, Operand.tmp 36], argTypes := #[25, 74, 76] }, type := 25, pos := "proof.go:49", after := #[{ on := 2, ground := Ground.data }, { on := 4, ground := Ground.data }, { on := 5, ground := Ground.data }, { on := 4, ground := Ground.chain }, { on := 1, ground := Ground.guard }], guard := some (1, true) }) rfl (by kernel_rfl) (fun K hK => ?_)
      rw [if_pos (by rfl)]
      go_simp
      refine (HC2.out pl x w5 hGw5 HPLB.out hxl).mono ?_
      rintro e w6 ⟨rfl, hG6⟩
      have hG46 := gr_trans hG45 hG6
      have hGw6 := gr_trans hGw5 hG6
      refine hK.out _ _ (fun _ => HS.out _ hG46) (fun _ => ?_)
      clear hK K
      try simp only [Act.put, List.setIfInBounds_toArray, List.set_cons_zero, List.set_cons_succ]
      have hcl := length_climbL pl mask 64 0 x ps hxl
      generalize climbL pl mask 64 0 x ps = c at hcl HW2 ⊢
      have hH6 := HS.out _ hG46
      have HH6 : Hid _ := hH6
      clear hH6
      refine wpAnyT_one (i := 8) (o := { dst := some 39, op := Op.binOp BinOp.eql 25 (Operand.tmp 37) (Operand.tmp 38) 25, type := 4, pos := "proof.go:49", after := #[{ on := 6, ground := Ground.data }, { on := 7, ground := Ground.data }, { on := 1, ground := Ground.guard }], guard := some (1, true) }) rfl (by kernel_rfl) (fun K hK => ?_)
      rw [if_pos (by rfl)]
      refine wp_eq25 _ _ _ rfl c root hcl hr rfl rfl ?_
      refine hK.out _ _ (fun _ => HH6.out) (fun _ => ?_)
      clear hK K
      try simp only [Act.put, List.setIfInBounds_toArray, List.set_cons_zero, List.set_cons_succ]
      refine wpAnyT_one (i := 9) (o := { dst := some 40, op := Op.pick (Operand.tmp 32) (Operand.tmp 39) (Operand.const (Value.bool false)), type := 4, pos := "proof.go:49", after := #[{ on := 1, ground := Ground.data }, { on := 8, ground := Ground.data }], guard := none }) rfl (by kernel_rfl) (fun K hK => ?_)
      go_simp
      refine hK.out _ _ (fun _ => HH6.out) (fun _ => ?_)
      clear hK K
      try simp only [Act.put, List.setIfInBounds_toArray, List.set_cons_zero, List.set_cons_succ]
      refine wpAnyT_one (i := 10) (o := { dst := some 10, op := Op.assign (Operand.tmp 40), type := 4, pos := "proof.go:49", after := #[{ on := 9, ground := Ground.data }, { on := 6, ground := Ground.chain }, { on := 0, ground := Ground.phase }, { on := 1, ground := Ground.phase }, { on := 2, ground := Ground.phase }, { on := 3, ground := Ground.phase }, { on := 4, ground := Ground.phase }, { on := 5, ground := Ground.phase }, { on := 6, ground := Ground.phase }, { on := 7, ground := Ground.phase }, { on := 8, ground := Ground.phase }, { on := 9, ground := Ground.phase }], guard := none }) rfl (by kernel_rfl) (fun K hK => ?_)
      go_simp
      refine hK.out _ _ (fun h => absurd rfl h) (fun _ => ?_)
      clear hK K
      try simp only [Act.put, List.setIfInBounds_toArray, List.set_cons_zero, List.set_cons_succ]
      refine wpAnyT_done (by kernel_rfl) ?_ _
      refine NoPanic.normal ?_
      go_wp2
      go_ret
      exact ⟨by rw [HW2.out]; rfl, hGw6⟩
  · have dn : ((ps.length : Int) != (D : Int)) = true := by simp; omega
    have HRES : Hid _ := HNOT.out hdd
    clear HCL HWAY HNOT HST hdd
    refine wpAnyH_one (i := 6) (o := { dst := some 20, op := Op.binOp BinOp.neq 3 (Operand.tmp 16) (Operand.tmp 19) 3, type := 4, pos := "proof.go:44", after := #[{ on := 2, ground := Ground.data }, { on := 5, ground := Ground.data }], guard := none }) rfl (by kernel_rfl) (fun K hK => ?_)
    go_simp
    refine hK.out _ _ hHeld (fun _ => ?_)
    clear hK K hHeld
    try simp only [Act.put, List.setIfInBounds_toArray, List.set_cons_zero, List.set_cons_succ]
    refine wpAnyH_done (by kernel_rfl) ?_ _
    refine NoPanic.normal ?_
    have hGd := (HF.out _ hd0).1
    clear HF
    generalize W0.drew = V at hGd ⊢
    go_wp2
    go_ret
    exact ⟨by rw [HRES.out]; rfl, hGd⟩

set_option maxHeartbeats 2000000 in
set_option maxRecDepth 100000 in
theorem choldsA (key value : List UInt8) (kv vv : Value) (present : Bool) (mask : Nat) (ps : List (List UInt8)) (path : Value) (taken : Bool) (pk pv root : List UInt8) (w : World) (hw : 1 < w.heap.size) (hT : Tab w)
    (hkv : SliceIs w kv key) (hvv : SliceIs w vv value) (hkl : key.length < 999999999) (hvl : value.length < 999999999) (hm : mask < 18446744073709551616) (hpk : pk.length = 32) (hpv : pv.length = 32) (hr : root.length = 32) (hp : SumsIs w path ps) (hps : ps.length < 1000000) :
    Calls Tryd.prog 53 #[kv, .bool present, vv, .agg (proofC mask path taken pk pv).toArray, .agg (root.map ub).toArray] w
      fun e w' => e = .returned (.bool (holdsB key value present mask ps taken pk pv root)) ∧ w.grownBy w' none := by
  have HH : Hid (∀ V : World, w.grownBy V none → Calls Tryd.prog 75 #[kv, .bool present, vv, .agg (proofC mask path taken pk pv).toArray, .agg (root.map ub).toArray] V
      fun e w' => e = .returned (.bool (holdsB key value present mask ps taken pk pv root)) ∧ V.grownBy w' none) := fun V hV =>
    pholds_any key value kv vv present mask ps path taken pk pv root V (by have := hV.size; omega) (hT.gr hV hw) (hkv.gr hV) (hvv.gr hV) hkl hvl hm hpk hpv hr (hp.gr hV) hps
  have hPl : (proofC mask path taken pk pv).length = 67 := by simp [proofC, hpk, hpv]
  generalize proofC mask path taken pk pv = C at hPl HH ⊢
  have HI76 : Hid _ := info76' C hPl
  obtain ⟨HIr, _, _⟩ := sum25 root hr
  generalize holdsB key value present mask ps taken pk pv root = ans at HH ⊢
  clear hT hkv hvv hm hp
  have hA := gr_trans (gr_alloc w (Obj.cells C.toArray 76)) (gr_alloc _ (Obj.cells (root.map ub).toArray 25))
  have hC0 : ((w.alloc (Obj.cells C.toArray 76)).alloc (Obj.cells (root.map ub).toArray 25)).heap[w.heap.size]? = some (.cells C.toArray 76 (0, 0)) := heap_alloc2_old _ _ _
  have hR0 : ((w.alloc (Obj.cells C.toArray 76)).alloc (Obj.cells (root.map ub).toArray 25)).heap[w.heap.size + 1]? = some (.cells (root.map ub).toArray 25 (0, 0)) := heap_alloc2_new _ _ _
  go_enter Tryd.func53, Tryd.ntmps53
  go_wp2_with (first | (refine wpList_load_row rfl 76 _ rfl w.heap.size rfl 76 _ (0, 0) _ hC0 Tryd.underlying76 rfl HI76.out ?_) | (refine wpList_load_row rfl 25 _ rfl (w.heap.size + 1) rfl 25 _ (0, 0) _ hR0 Tryd.underlying25 rfl HIr.out ?_))
  refine (HH.out _ hA).mono ?_
  rintro e w1 ⟨rfl, hG1⟩
  have hG01 := gr_trans hA hG1
  clear hA hC0 hR0 hG1
  go_wp2
  go_ret
  exact ⟨rfl, hG01⟩
end Go.Proofs.YtplhlhjakapaaaaDoor
