/-
  tree.Extended.
-/
import Derived.Test.YtplhlhjakapaaaaDoorExtd
namespace Go.Proofs.YtplhlhjakapaaaaDoor
open Go Go.RowKit

set_option maxHeartbeats 8000000 in
set_option maxRecDepth 100000 in
theorem text_zero (ps : List (List UInt8)) (n : Int) (h0 : 0 < n) (a b : List UInt8) (v : Value) (w : World) (hla : a.length = 32) (hw : 1 < w.heap.size) (hT : Tab w) (hv : SumsIs w v ps) (hp : ps.length < 1000000000) :
    Calls Tryd.prog 68 #[.int .i64 0, .int .i64 n, v, .agg (a.map ub).toArray, .agg (b.map ub).toArray] w fun e w' => e = .returned (.bool (extB ps.reverse 0 n a b)) ∧ w.grownBy w' none := by
  have e0 : extB ps.reverse 0 n a b = (ps.reverse.isEmpty && (a == sha [])) := by unfold extB; rw [if_neg (by omega), if_neg (by omega), if_pos rfl]
  rw [e0]; clear e0
  have HT : Hid (Tab w) := hT
  have HaI : Hid ((Tryd.prog.info? 25).map (·.size) = some (a.map ub).length) := by
    show _ = _
    rw [info25' (R := (a.map ub).toArray) rfl hla]; simp
  obtain ⟨_, sp, cap, rfl, _, _⟩ := hv
  have d0 : decide ((0 : Int) > n) = false := by simp; omega
  have d1 : ((0 : Int) == n) = false := by rw [beq_eq_false_iff_ne]; omega
  clear hT
  generalize eT : (b.map ub).toArray = T at *
  cases ps with
  | nil =>
    go_enter Tryd.func68, Tryd.ntmps68
    go_wp2_with fail
    have hA := gr_trans (gr_alloc w (Obj.cells (a.map ub).toArray 25)) (gr_alloc _ (Obj.cells T 25))
    have hL0 : ((w.alloc (Obj.cells (a.map ub).toArray 25)).alloc (Obj.cells T 25)).heap[w.heap.size]? = some (.cells (a.map ub).toArray 25 (0, 0)) := heap_alloc2_old _ _ _
    generalize (w.alloc (Obj.cells (a.map ub).toArray 25)).alloc (Obj.cells T 25) = W at hA hL0 ⊢
    have hS : ∀ U : World, W.drew.grownBy U none → U.rangeAt w.heap.size 0 (a.map ub) := fun U hU j x hj => by
      have hb : U.heap[w.heap.size]? = some (.cells (a.map ub).toArray 25 (0, 0)) := (hU.block _ (Array.getElem?_eq_some_iff.1 hL0).1 (by simp)).trans hL0
      rw [Nat.zero_add, cell_of_row U _ _ _ _ _ hb]; simpa using hj
    have hD : w.grownBy W.drew none := gr_drew hA
    refine wp_region_noPanic ?_
    refine wp_region_T (last := 8) (S := fun w' => w'.rangeAt w.heap.size 0 (a.map ub)) (by kernel_rfl) (hS _ (gr_refl _)) (fun hHeld => ?_)
    refine wpAnyT_take (i := 0) (oi := { dst := some 36, op := Op.move (Operand.tmp 2), type := 38, pos := "check.go:52", after := #[], guard := none }) (v := ?_) rfl (by kernel_rfl) (by kernel_rfl) (by kernel_rfl) (fun _ _ _ h => h) (by kernel_rfl) (Or.inl ⟨by rfl, ?_⟩) (by assumption) ?_
    rotate_left
    · intro w' hSw
      try dsimp only at hSw
      go_simp
      try with_reducible rfl
    simp only [Act.put, List.setIfInBounds_toArray, List.set_cons_zero, List.set_cons_succ]
    refine wpAnyT_take (i := 1) (oi := { dst := some 37, op := Op.call { callee := Callee.builtin Builtin.len, args := #[Operand.tmp 36], argTypes := #[38] }, type := 3, pos := "check.go:52", after := #[{ on := 0, ground := Ground.data }], guard := none }) (v := ?_) rfl (by kernel_rfl) (by kernel_rfl) (by kernel_rfl) (fun _ _ _ h => h) (by kernel_rfl) (Or.inl ⟨by rfl, ?_⟩) (by assumption) ?_
    rotate_left
    · intro w' hSw
      try dsimp only at hSw
      go_simp
      try with_reducible rfl
    simp only [Act.put, List.setIfInBounds_toArray, List.set_cons_zero, List.set_cons_succ]
    refine wpAnyT_take (i := 2) (oi := { dst := some 38, op := Op.binOp BinOp.eql 3 (Operand.tmp 37) (Operand.const (Value.int IntKind.i64 0)) 3, type := 4, pos := "check.go:52", after := #[{ on := 1, ground := Ground.data }], guard := none }) (v := ?_) rfl (by kernel_rfl) (by kernel_rfl) (by kernel_rfl) (fun _ _ _ h => h) (by kernel_rfl) (Or.inl ⟨by rfl, ?_⟩) (by assumption) ?_
    rotate_left
    · intro w' hSw
      try dsimp only at hSw
      go_simp
      try with_reducible rfl
    simp only [Act.put, List.setIfInBounds_toArray, List.set_cons_zero, List.set_cons_succ]
    refine wpAnyT_take (i := 3) (oi := { dst := some 39, op := Op.move (Operand.tmp 38), type := 4, pos := "check.go:52", after := #[{ on := 2, ground := Ground.data }], guard := none }) (v := ?_) rfl (by kernel_rfl) (by kernel_rfl) (by kernel_rfl) (fun _ _ _ h => h) (by kernel_rfl) (Or.inl ⟨by rfl, ?_⟩) (by assumption) ?_
    rotate_left
    · intro w' hSw
      try dsimp only at hSw
      go_simp
      try with_reducible rfl
    simp only [Act.put, List.setIfInBounds_toArray, List.set_cons_zero, List.set_cons_succ]
    refine wpAnyT_take (i := 4) (oi := { dst := some 40, op := Op.load 25 (Operand.tmp 8), type := 25, pos := "check.go:52", after := #[{ on := 3, ground := Ground.guard }], guard := some (3, true) }) (v := .agg (a.map ub).toArray) rfl (by kernel_rfl) (by kernel_rfl) (by kernel_rfl) (fun _ _ _ h => h) (by kernel_rfl) (yieldsIf_load_mid (by rfl) _ _ rfl w.heap.size 0 rfl (a.map ub) _ (fun w' hSw => hSw) Tryd.underlying25 rfl HaI.out) (by assumption) ?_
    simp only [Act.put, List.setIfInBounds_toArray, List.set_cons_zero, List.set_cons_succ]
    refine wpAnyT_one (i := 5) (o := { dst := some 41, op := Op.call { callee := Callee.value (Operand.func 57), args := #[Operand.const (Value.slice none 0 0)], argTypes := #[27] }, type := 25, pos := "check.go:52", after := #[{ on := 3, ground := Ground.chain }, { on := 3, ground := Ground.guard }], guard := some (3, true) }) rfl (by kernel_rfl) (fun K hK => ?_)
    rw [if_pos (by rfl)]
    go_simp
    refine (sum_any [] (.slice none 0 0) W.drew (by have := hD.size; omega) (HT.out.gr hD hw) ⟨none, 0, rfl, by simp, fun h => absurd h (by simp)⟩ (by simp)).mono ?_
    rintro e w1 ⟨rfl, hG1⟩
    have hG01 := gr_trans hD hG1
    refine hK.out _ _ (fun _ => hS _ hG1) (fun _ => ?_)
    have hH1 := hS _ hG1
    clear hK K hHeld
    try simp only [Act.put, List.setIfInBounds_toArray, List.set_cons_zero, List.set_cons_succ]
    have heq := run_eq25 w1 a (sha []) hla (length_sha [])
    have hgd := run_eqGuard_agg (P := Tryd.prog) w1 .eql 25 (Operand.tmp 40) (Operand.tmp 41) (a.map ub).toArray ((sha []).map ub).toArray guard25
    refine wpAnyT_one (i := 6) (o := { dst := some 42, op := Op.binOp BinOp.eql 25 (Operand.tmp 40) (Operand.tmp 41) 25, type := 4, pos := "check.go:52", after := #[{ on := 4, ground := Ground.data }, { on := 5, ground := Ground.data }, { on := 3, ground := Ground.guard }], guard := some (3, true) }) rfl (by kernel_rfl) (fun K hK => ?_)
    rw [if_pos (by rfl)]
    refine wp_eq25 _ _ _ rfl a (sha []) hla (length_sha []) rfl rfl ?_
    refine hK.out _ _ (fun _ => hH1) (fun _ => ?_)
    clear hK K heq hgd
    try simp only [Act.put, List.setIfInBounds_toArray, List.set_cons_zero, List.set_cons_succ]
    refine wpAnyT_one (i := 7) (o := { dst := some 43, op := Op.pick (Operand.tmp 39) (Operand.tmp 42) (Operand.const (Value.bool false)), type := 4, pos := "check.go:52", after := #[{ on := 3, ground := Ground.data }, { on := 6, ground := Ground.data }], guard := none }) rfl (by kernel_rfl) (fun K hK => ?_)
    go_simp
    refine hK.out _ _ (fun _ => hH1) (fun _ => ?_)
    clear hK K
    try simp only [Act.put, List.setIfInBounds_toArray, List.set_cons_zero, List.set_cons_succ]
    refine wpAnyT_one (i := 8) (o := { dst := some 10, op := Op.assign (Operand.tmp 43), type := 4, pos := "check.go:52", after := #[{ on := 7, ground := Ground.data }, { on := 5, ground := Ground.chain }, { on := 0, ground := Ground.phase }, { on := 1, ground := Ground.phase }, { on := 2, ground := Ground.phase }, { on := 3, ground := Ground.phase }, { on := 4, ground := Ground.phase }, { on := 5, ground := Ground.phase }, { on := 6, ground := Ground.phase }, { on := 7, ground := Ground.phase }], guard := none }) rfl (by kernel_rfl) (fun K hK => ?_)
    go_simp
    refine hK.out _ _ (fun h => absurd rfl h) (fun _ => ?_)
    clear hK K
    try simp only [Act.put, List.setIfInBounds_toArray, List.set_cons_zero, List.set_cons_succ]
    refine wpAnyT_done (by kernel_rfl) ?_ _
    refine NoPanic.normal ?_
    clear hS hL0 hH1
    go_wp2
    go_ret
    exact ⟨rfl, hG01⟩
  | cons s ps =>
    have d2 : (((ps.length + 1 : Nat) : Int) == 0) = false := by rw [beq_eq_false_iff_ne]; omega
    have d2' : ((ps.length : Int) + 1 == 0) = false := by rw [beq_eq_false_iff_ne]; omega
    have e1 : (s :: ps).reverse.isEmpty = false := by simp
    rw [e1]
    simp only [List.length_cons, Bool.false_and]
    go_enter Tryd.func68, Tryd.ntmps68
    go_wp2_with fail
    have hA := gr_trans (gr_alloc w (Obj.cells (a.map ub).toArray 25)) (gr_alloc _ (Obj.cells T 25))
    generalize (w.alloc (Obj.cells (a.map ub).toArray 25)).alloc (Obj.cells T 25) = W at hA ⊢
    have hD : w.grownBy W.drew none := gr_drew hA
    refine wp_region_noPanic ?_
    refine wp_region_T (last := 8) (S := fun _ => True) (by kernel_rfl) trivial (fun hHeld => ?_)
    refine wpAnyT_take (i := 0) (oi := { dst := some 36, op := Op.move (Operand.tmp 2), type := 38, pos := "check.go:52", after := #[], guard := none }) (v := ?_) rfl (by kernel_rfl) (by kernel_rfl) (by kernel_rfl) (fun _ _ _ h => h) (by kernel_rfl) (Or.inl ⟨by rfl, ?_⟩) (by assumption) ?_
    rotate_left
    · intro w' hSw
      try dsimp only at hSw
      go_simp
      try with_reducible rfl
    simp only [Act.put, List.setIfInBounds_toArray, List.set_cons_zero, List.set_cons_succ]
    refine wpAnyT_take (i := 1) (oi := { dst := some 37, op := Op.call { callee := Callee.builtin Builtin.len, args := #[Operand.tmp 36], argTypes := #[38] }, type := 3, pos := "check.go:52", after := #[{ on := 0, ground := Ground.data }], guard := none }) (v := ?_) rfl (by kernel_rfl) (by kernel_rfl) (by kernel_rfl) (fun _ _ _ h => h) (by kernel_rfl) (Or.inl ⟨by rfl, ?_⟩) (by assumption) ?_
    rotate_left
    · intro w' hSw
      try dsimp only at hSw
      go_simp
      try with_reducible rfl
    simp only [Act.put, List.setIfInBounds_toArray, List.set_cons_zero, List.set_cons_succ]
    refine wpAnyT_take (i := 2) (oi := { dst := some 38, op := Op.binOp BinOp.eql 3 (Operand.tmp 37) (Operand.const (Value.int IntKind.i64 0)) 3, type := 4, pos := "check.go:52", after := #[{ on := 1, ground := Ground.data }], guard := none }) (v := ?_) rfl (by kernel_rfl) (by kernel_rfl) (by kernel_rfl) (fun _ _ _ h => h) (by kernel_rfl) (Or.inl ⟨by rfl, ?_⟩) (by assumption) ?_
    rotate_left
    · intro w' hSw
      try dsimp only at hSw
      go_simp
      try with_reducible rfl
    simp only [Act.put, List.setIfInBounds_toArray, List.set_cons_zero, List.set_cons_succ]
    refine wpAnyT_take (i := 3) (oi := { dst := some 39, op := Op.move (Operand.tmp 38), type := 4, pos := "check.go:52", after := #[{ on := 2, ground := Ground.data }], guard := none }) (v := ?_) rfl (by kernel_rfl) (by kernel_rfl) (by kernel_rfl) (fun _ _ _ h => h) (by kernel_rfl) (Or.inl ⟨by rfl, ?_⟩) (by assumption) ?_
    rotate_left
    · intro w' hSw
      try dsimp only at hSw
      go_simp
      try with_reducible rfl
    simp only [Act.put, List.setIfInBounds_toArray, List.set_cons_zero, List.set_cons_succ]
    refine wpAnyT_take (i := 4) (oi := { dst := some 40, op := Op.load 25 (Operand.tmp 8), type := 25, pos := "check.go:52", after := #[{ on := 3, ground := Ground.guard }], guard := some (3, true) }) (v := undef) rfl (by kernel_rfl) (by kernel_rfl) (by kernel_rfl) (fun _ _ _ h => h) (by kernel_rfl) (Or.inr ⟨by rfl, rfl⟩) (by assumption) ?_
    simp only [Act.put, List.setIfInBounds_toArray, List.set_cons_zero, List.set_cons_succ]
    refine wpAnyT_take (i := 5) (oi := { dst := some 41, op := Op.call { callee := Callee.value (Operand.func 57), args := #[Operand.const (Value.slice none 0 0)], argTypes := #[27] }, type := 25, pos := "check.go:52", after := #[{ on := 3, ground := Ground.chain }, { on := 3, ground := Ground.guard }], guard := some (3, true) }) (v := undef) rfl (by kernel_rfl) (by kernel_rfl) (by kernel_rfl) (fun _ _ _ h => h) (by kernel_rfl) (Or.inr ⟨by rfl, rfl⟩) (by assumption) ?_
    simp only [Act.put, List.setIfInBounds_toArray, List.set_cons_zero, List.set_cons_succ]
    refine wpAnyT_take (i := 6) (oi := { dst := some 42, op := Op.binOp BinOp.eql 25 (Operand.tmp 40) (Operand.tmp 41) 25, type := 4, pos := "check.go:52", after := #[{ on := 4, ground := Ground.data }, { on := 5, ground := Ground.data }, { on := 3, ground := Ground.guard }], guard := some (3, true) }) (v := undef) rfl (by kernel_rfl) (by kernel_rfl) (by kernel_rfl) (fun _ _ _ h => h) (by kernel_rfl) (Or.inr ⟨by rfl, rfl⟩) (by assumption) ?_
    simp only [Act.put, List.setIfInBounds_toArray, List.set_cons_zero, List.set_cons_succ]
    refine wpAnyT_take (i := 7) (oi := { dst := some 43, op := Op.pick (Operand.tmp 39) (Operand.tmp 42) (Operand.const (Value.bool false)), type := 4, pos := "check.go:52", after := #[{ on := 3, ground := Ground.data }, { on := 6, ground := Ground.data }], guard := none }) (v := ?_) rfl (by kernel_rfl) (by kernel_rfl) (by kernel_rfl) (fun _ _ _ h => h) (by kernel_rfl) (Or.inl ⟨by rfl, ?_⟩) (by assumption) ?_
    rotate_left
    · intro w' hSw
      try dsimp only at hSw
      go_simp
      try with_reducible rfl
    simp only [Act.put, List.setIfInBounds_toArray, List.set_cons_zero, List.set_cons_succ]
    refine wpAnyT_one (i := 8) (o := { dst := some 10, op := Op.assign (Operand.tmp 43), type := 4, pos := "check.go:52", after := #[{ on := 7, ground := Ground.data }, { on := 5, ground := Ground.chain }, { on := 0, ground := Ground.phase }, { on := 1, ground := Ground.phase }, { on := 2, ground := Ground.phase }, { on := 3, ground := Ground.phase }, { on := 4, ground := Ground.phase }, { on := 5, ground := Ground.phase }, { on := 6, ground := Ground.phase }, { on := 7, ground := Ground.phase }], guard := none }) rfl (by kernel_rfl) (fun K hK => ?_)
    go_simp
    refine hK.out _ _ (fun h => absurd rfl h) (fun _ => ?_)
    clear hK K
    try simp only [Act.put, List.setIfInBounds_toArray, List.set_cons_zero, List.set_cons_succ]
    refine wpAnyT_done (by kernel_rfl) ?_ _
    refine NoPanic.normal ?_
    go_wp2
    go_ret
    exact ⟨rfl, hD⟩

end Go.Proofs.YtplhlhjakapaaaaDoor
