import Derived.Test.YtjgmmdgcknnlpaaDoorExtA

/-
  tree.Extended's contract.
-/
namespace Go.Proofs.YtjgmmdgcknnlpaaDoor
open Go Go.RowKit

theorem wp_eq25 {o : Oper} {a : Act} {w : World} {K : Act → World → Prop} {Q : Exit → Act → World → Prop} (x y : Operand) (tt : TypeId) (ho : o.op = .binOp .eql 25 x y tt)
    (p q : List UInt8) (hp : p.length = 32) (hq : q.length = 32) (hx : a.eval x = .agg (p.map ub).toArray) (hy : a.eval y = .agg (q.map ub).toArray) (h : K (a.put o.dst (.bool (p == q))) w) : Oper.wp Tryd.prog o a w K Q := by
  unfold Oper.wp execOp
  simp only [ho, hx, hy, Sem.run_bind, run_eqGuard_agg w .eql 25 x y _ _ guard25, Result.andThen_ok, run_eq25 w p q hp hq, Sem.run_pure]
  exact h

def extB (rs : List (List UInt8)) (m n : Int) (a b : List UInt8) : Bool :=
  if m < 0 ∨ n < m then false else if m = n then rs.isEmpty && (a == b) else if m = 0 then rs.isEmpty && (a == sha []) else extR rs m.toNat n.toNat a true == some (a, b)

set_option maxHeartbeats 8000000 in
set_option maxRecDepth 100000 in
theorem text_neg (ps : List (List UInt8)) (m n : Int) (a b : List UInt8) (v : Value) (w : World) (h : m < 0 ∨ n < m) :
    Calls Tryd.prog 68 #[.int .i64 m, .int .i64 n, v, .agg (a.map ub).toArray, .agg (b.map ub).toArray] w fun e w' => e = .returned (.bool (extB ps.reverse m n a b)) ∧ w.grownBy w' none := by
  have e0 : extB ps.reverse m n a b = false := by unfold extB; rw [if_pos h]
  rw [e0]; clear e0
  generalize eL : (a.map ub).toArray = L at *
  generalize eT : (b.map ub).toArray = T at *
  by_cases h0 : m < 0
  · have d0 : decide (m < 0) = true := by simp; omega
    go_enter Tryd.func68, Tryd.ntmps68
    go_wp2
    go_ret
    exact ⟨rfl, gr_trans (gr_alloc w (Obj.cells L 25)) (gr_alloc _ (Obj.cells T 25))⟩
  · have d0 : decide (m < 0) = false := by simp; omega
    have d1 : decide (m > n) = true := by simp; omega
    go_enter Tryd.func68, Tryd.ntmps68
    go_wp2
    go_ret
    exact ⟨rfl, gr_trans (gr_alloc w (Obj.cells L 25)) (gr_alloc _ (Obj.cells T 25))⟩

set_option maxHeartbeats 8000000 in
set_option maxRecDepth 100000 in
theorem text_same (ps : List (List UInt8)) (n : Nat) (m : Int) (hm : m = (n : Int)) (a b : List UInt8) (v : Value) (w : World) (hla : a.length = 32) (hlb : b.length = 32) (hv : SumsIs w v ps) (hp : ps.length < 1000000000) :
    Calls Tryd.prog 68 #[.int .i64 m, .int .i64 (n : Int), v, .agg (a.map ub).toArray, .agg (b.map ub).toArray] w fun e w' => e = .returned (.bool (extB ps.reverse m n a b)) ∧ w.grownBy w' none := by
  have e0 : extB ps.reverse m n a b = (ps.reverse.isEmpty && (a == b)) := by unfold extB; rw [if_neg (by omega), if_pos hm]
  rw [e0]; clear e0
  subst hm
  obtain ⟨HIa, _, _⟩ := sum25 a hla
  obtain ⟨HIb, _, _⟩ := sum25 b hlb
  obtain ⟨_, sp, cap, rfl, _, _⟩ := hv
  have d0 : decide ((n : Int) < 0) = false := by simp
  generalize eL : (a.map ub).toArray = L at *
  generalize eT : (b.map ub).toArray = T at *
  cases ps with
  | nil =>
    go_enter Tryd.func68, Tryd.ntmps68
    go_wp2_with (first | refine wpList_load_g (by rfl) 25 _ rfl w.heap.size rfl 25 _ (0, 0) _ (heap_alloc2_old _ _ _) Tryd.underlying25 rfl HIa.out ?_ | refine wpList_load_g (by rfl) 25 _ rfl (w.heap.size + 1) rfl 25 _ (0, 0) _ (heap_alloc2_new _ _ _) Tryd.underlying25 rfl HIb.out ?_ | refine wpList_eq25 (by rfl) _ _ _ rfl a b L T eL eT hla hlb rfl rfl ?_)
    go_ret
    exact ⟨rfl, gr_trans (gr_alloc w (Obj.cells L 25)) (gr_alloc _ (Obj.cells T 25))⟩
  | cons s ps =>
    have d1 : (((ps.length + 1 : Nat) : Int) == 0) = false := by rw [beq_eq_false_iff_ne]; omega
    have d1' : ((ps.length : Int) + 1 == 0) = false := by rw [beq_eq_false_iff_ne]; omega
    have e1 : (s :: ps).reverse.isEmpty = false := by simp
    rw [e1]
    simp only [List.length_cons, Bool.false_and]
    go_enter Tryd.func68, Tryd.ntmps68
    go_wp2
    go_ret
    exact ⟨rfl, gr_trans (gr_alloc w (Obj.cells L 25)) (gr_alloc _ (Obj.cells T 25))⟩

end Go.Proofs.YtjgmmdgcknnlpaaDoor

/-
  tree.Extended.
-/
namespace Go.Proofs.YtjgmmdgcknnlpaaDoor
open Go Go.RowKit

set_option maxHeartbeats 8000000 in
set_option maxRecDepth 100000 in
theorem text_zero (ps : List (List UInt8)) (n : Int) (h0 : 0 < n) (a b : List UInt8) (v : Value) (w : World) (hla : a.length = 32) (hw : 1 < w.heap.size) (hT : Tab w) (hv : SumsIs w v ps) (hp : ps.length < 1000000000) :
    Calls Tryd.prog 68 #[.int .i64 0, .int .i64 n, v, .agg (a.map ub).toArray, .agg (b.map ub).toArray] w fun e w' => e = .returned (.bool (extB ps.reverse 0 n a b)) ∧ w.grownBy w' none := by
  have e0 : extB ps.reverse 0 n a b = (ps.reverse.isEmpty && (a == sha [])) := by unfold extB; rw [if_neg (by omega), if_neg (by omega), if_pos rfl]
  rw [e0]; clear e0
  have HT : Hid (Tab w) := hT
  have HaI : Hid ((Tryd.prog.info? 25).map (·.size) = some (a.map ub).length) := by
    show _ = _
    rw [info25' (R := (a.map ub).toArray) rfl hla]; simp
  obtain ⟨_, sp, cap, rfl, _, _⟩ := hv
  have d0 : decide ((0 : Int) > n) = false := by simp; omega
  have d1 : ((0 : Int) == n) = false := by rw [beq_eq_false_iff_ne]; omega
  clear hT
  generalize eT : (b.map ub).toArray = T at *
  cases ps with
  | nil =>
    go_enter Tryd.func68, Tryd.ntmps68
    go_wp2_with fail
    have hA := gr_trans (gr_alloc w (Obj.cells (a.map ub).toArray 25)) (gr_alloc _ (Obj.cells T 25))
    have hL0 : ((w.alloc (Obj.cells (a.map ub).toArray 25)).alloc (Obj.cells T 25)).heap[w.heap.size]? = some (.cells (a.map ub).toArray 25 (0, 0)) := heap_alloc2_old _ _ _
    generalize (w.alloc (Obj.cells (a.map ub).toArray 25)).alloc (Obj.cells T 25) = W at hA hL0 ⊢
    have hS : ∀ U : World, W.drew.grownBy U none → U.rangeAt w.heap.size 0 (a.map ub) := fun U hU j x hj => by
      have hb : U.heap[w.heap.size]? = some (.cells (a.map ub).toArray 25 (0, 0)) := (hU.block _ (Array.getElem?_eq_some_iff.1 hL0).1 (by simp)).trans hL0
      rw [Nat.zero_add, cell_of_row U _ _ _ _ _ hb]; simpa using hj
    have hD : w.grownBy W.drew none := gr_drew hA
    refine wp_region_noPanic ?_
    refine wp_region_T (last := 8) (S := fun w' => w'.rangeAt w.heap.size 0 (a.map ub)) (by kernel_rfl) (hS _ (gr_refl _)) (fun hHeld => ?_)
    refine wpAnyT_take (i := 0) (oi := { dst := some 36, op := Op.move (Operand.tmp 2), type := 38, pos := "check.go:52", after := #[], guard := none }) (v := ?_) rfl (by kernel_rfl) (by kernel_rfl) (by kernel_rfl) (fun _ _ _ h => h) (by kernel_rfl) (Or.inl ⟨by rfl, ?_⟩) (by assumption) ?_
    rotate_left
    · intro w' hSw
      try dsimp only at hSw
      go_simp
      try with_reducible rfl
    simp only [Act.put, List.setIfInBounds_toArray, List.set_cons_zero, List.set_cons_succ]
    refine wpAnyT_take (i := 1) (oi := { dst := some 37, op := Op.call { callee := Callee.builtin Builtin.len, args := #[Operand.tmp 36], argTypes := #[38] }, type := 3, pos := "check.go:52", after := #[{ on := 0, ground := Ground.data }], guard := none }) (v := ?_) rfl (by kernel_rfl) (by kernel_rfl) (by kernel_rfl) (fun _ _ _ h => h) (by kernel_rfl) (Or.inl ⟨by rfl, ?_⟩) (by assumption) ?_
    rotate_left
    · intro w' hSw
      try dsimp only at hSw
      go_simp
      try with_reducible rfl
    simp only [Act.put, List.setIfInBounds_toArray, List.set_cons_zero, List.set_cons_succ]
    refine wpAnyT_take (i := 2) (oi := { dst := some 38, op := Op.binOp BinOp.eql 3 (Operand.tmp 37) (Operand.const (Value.int IntKind.i64 0)) 3, type := 4, pos := "check.go:52", after := #[{ on := 1, ground := Ground.data }], guard := none }) (v := ?_) rfl (by kernel_rfl) (by kernel_rfl) (by kernel_rfl) (fun _ _ _ h => h) (by kernel_rfl) (Or.inl ⟨by rfl, ?_⟩) (by assumption) ?_
    rotate_left
    · intro w' hSw
      try dsimp only at hSw
      go_simp
      try with_reducible rfl
    simp only [Act.put, List.setIfInBounds_toArray, List.set_cons_zero, List.set_cons_succ]
    refine wpAnyT_take (i := 3) (oi := { dst := some 39, op := Op.move (Operand.tmp 38), type := 4, pos := "check.go:52", after := #[{ on := 2, ground := Ground.data }], guard := none }) (v := ?_) rfl (by kernel_rfl) (by kernel_rfl) (by kernel_rfl) (fun _ _ _ h => h) (by kernel_rfl) (Or.inl ⟨by rfl, ?_⟩) (by assumption) ?_
    rotate_left
    · intro w' hSw
      try dsimp only at hSw
      go_simp
      try with_reducible rfl
    simp only [Act.put, List.setIfInBounds_toArray, List.set_cons_zero, List.set_cons_succ]
    refine wpAnyT_take (i := 4) (oi := { dst := some 40, op := Op.load 25 (Operand.tmp 8), type := 25, pos := "check.go:52", after := #[{ on := 3, ground := Ground.guard }], guard := some (3, true) }) (v := .agg (a.map ub).toArray) rfl (by kernel_rfl) (by kernel_rfl) (by kernel_rfl) (fun _ _ _ h => h) (by kernel_rfl) (yieldsIf_load_mid (by rfl) _ _ rfl w.heap.size 0 rfl (a.map ub) _ (fun w' hSw => hSw) Tryd.underlying25 rfl HaI.out) (by assumption) ?_
    simp only [Act.put, List.setIfInBounds_toArray, List.set_cons_zero, List.set_cons_succ]
    refine wpAnyT_one (i := 5) (o := { dst := some 41, op := Op.call { callee := Callee.value (Operand.func 57), args := #[Operand.const (Value.slice none 0 0)], argTypes := #[27] }, type := 25, pos := "check.go:52", after := #[{ on := 3, ground := Ground.chain }, { on := 3, ground := Ground.guard }], guard := some (3, true) }) rfl (by kernel_rfl) (fun K hK => ?_)
    rw [if_pos (by rfl)]
    go_simp
    refine (sum_any [] (.slice none 0 0) W.drew (by have := hD.size; omega) (HT.out.gr hD hw) ⟨none, 0, rfl, by simp, fun h => absurd h (by simp)⟩ (by simp)).mono ?_
    rintro e w1 ⟨rfl, hG1⟩
    have hG01 := gr_trans hD hG1
    refine hK.out _ _ (fun _ => hS _ hG1) (fun _ => ?_)
    have hH1 := hS _ hG1
    clear hK K hHeld
    try simp only [Act.put, List.setIfInBounds_toArray, List.set_cons_zero, List.set_cons_succ]
    have heq := run_eq25 w1 a (sha []) hla (length_sha [])
    have hgd := run_eqGuard_agg (P := Tryd.prog) w1 .eql 25 (Operand.tmp 40) (Operand.tmp 41) (a.map ub).toArray ((sha []).map ub).toArray guard25
    refine wpAnyT_one (i := 6) (o := { dst := some 42, op := Op.binOp BinOp.eql 25 (Operand.tmp 40) (Operand.tmp 41) 25, type := 4, pos := "check.go:52", after := #[{ on := 4, ground := Ground.data }, { on := 5, ground := Ground.data }, { on := 3, ground := Ground.guard }], guard := some (3, true) }) rfl (by kernel_rfl) (fun K hK => ?_)
    rw [if_pos (by rfl)]
    refine wp_eq25 _ _ _ rfl a (sha []) hla (length_sha []) rfl rfl ?_
    refine hK.out _ _ (fun _ => hH1) (fun _ => ?_)
    clear hK K heq hgd
    try simp only [Act.put, List.setIfInBounds_toArray, List.set_cons_zero, List.set_cons_succ]
    refine wpAnyT_one (i := 7) (o := { dst := some 43, op := Op.pick (Operand.tmp 39) (Operand.tmp 42) (Operand.const (Value.bool false)), type := 4, pos := "check.go:52", after := #[{ on := 3, ground := Ground.data }, { on := 6, ground := Ground.data }], guard := none }) rfl (by kernel_rfl) (fun K hK => ?_)
    go_simp
    refine hK.out _ _ (fun _ => hH1) (fun _ => ?_)
    clear hK K
    try simp only [Act.put, List.setIfInBounds_toArray, List.set_cons_zero, List.set_cons_succ]
    refine wpAnyT_one (i := 8) (o := { dst := some 10, op := Op.assign (Operand.tmp 43), type := 4, pos := "check.go:52", after := #[{ on := 7, ground := Ground.data }, { on := 5, ground := Ground.chain }, { on := 0, ground := Ground.phase }, { on := 1, ground := Ground.phase }, { on := 2, ground := Ground.phase }, { on := 3, ground := Ground.phase }, { on := 4, ground := Ground.phase }, { on := 5, ground := Ground.phase }, { on := 6, ground := Ground.phase }, { on := 7, ground := Ground.phase }], guard := none }) rfl (by kernel_rfl) (fun K hK => ?_)
    go_simp
    refine hK.out _ _ (fun h => absurd rfl h) (fun _ => ?_)
    clear hK K
    try simp only [Act.put, List.setIfInBounds_toArray, List.set_cons_zero, List.set_cons_succ]
    refine wpAnyT_done (by kernel_rfl) ?_ _
    refine NoPanic.normal ?_
    clear hS hL0 hH1
    go_wp2
    go_ret
    exact ⟨rfl, hG01⟩
  | cons s ps =>
    have d2 : (((ps.length + 1 : Nat) : Int) == 0) = false := by rw [beq_eq_false_iff_ne]; omega
    have d2' : ((ps.length : Int) + 1 == 0) = false := by rw [beq_eq_false_iff_ne]; omega
    have e1 : (s :: ps).reverse.isEmpty = false := by simp
    rw [e1]
    simp only [List.length_cons, Bool.false_and]
    go_enter Tryd.func68, Tryd.ntmps68
    go_wp2_with fail
    have hA := gr_trans (gr_alloc w (Obj.cells (a.map ub).toArray 25)) (gr_alloc _ (Obj.cells T 25))
    generalize (w.alloc (Obj.cells (a.map ub).toArray 25)).alloc (Obj.cells T 25) = W at hA ⊢
    have hD : w.grownBy W.drew none := gr_drew hA
    refine wp_region_noPanic ?_
    refine wp_region_T (last := 8) (S := fun _ => True) (by kernel_rfl) trivial (fun hHeld => ?_)
    refine wpAnyT_take (i := 0) (oi := { dst := some 36, op := Op.move (Operand.tmp 2), type := 38, pos := "check.go:52", after := #[], guard := none }) (v := ?_) rfl (by kernel_rfl) (by kernel_rfl) (by kernel_rfl) (fun _ _ _ h => h) (by kernel_rfl) (Or.inl ⟨by rfl, ?_⟩) (by assumption) ?_
    rotate_left
    · intro w' hSw
      try dsimp only at hSw
      go_simp
      try with_reducible rfl
    simp only [Act.put, List.setIfInBounds_toArray, List.set_cons_zero, List.set_cons_succ]
    refine wpAnyT_take (i := 1) (oi := { dst := some 37, op := Op.call { callee := Callee.builtin Builtin.len, args := #[Operand.tmp 36], argTypes := #[38] }, type := 3, pos := "check.go:52", after := #[{ on := 0, ground := Ground.data }], guard := none }) (v := ?_) rfl (by kernel_rfl) (by kernel_rfl) (by kernel_rfl) (fun _ _ _ h => h) (by kernel_rfl) (Or.inl ⟨by rfl, ?_⟩) (by assumption) ?_
    rotate_left
    · intro w' hSw
      try dsimp only at hSw
      go_simp
      try with_reducible rfl
    simp only [Act.put, List.setIfInBounds_toArray, List.set_cons_zero, List.set_cons_succ]
    refine wpAnyT_take (i := 2) (oi := { dst := some 38, op := Op.binOp BinOp.eql 3 (Operand.tmp 37) (Operand.const (Value.int IntKind.i64 0)) 3, type := 4, pos := "check.go:52", after := #[{ on := 1, ground := Ground.data }], guard := none }) (v := ?_) rfl (by kernel_rfl) (by kernel_rfl) (by kernel_rfl) (fun _ _ _ h => h) (by kernel_rfl) (Or.inl ⟨by rfl, ?_⟩) (by assumption) ?_
    rotate_left
    · intro w' hSw
      try dsimp only at hSw
      go_simp
      try with_reducible rfl
    simp only [Act.put, List.setIfInBounds_toArray, List.set_cons_zero, List.set_cons_succ]
    refine wpAnyT_take (i := 3) (oi := { dst := some 39, op := Op.move (Operand.tmp 38), type := 4, pos := "check.go:52", after := #[{ on := 2, ground := Ground.data }], guard := none }) (v := ?_) rfl (by kernel_rfl) (by kernel_rfl) (by kernel_rfl) (fun _ _ _ h => h) (by kernel_rfl) (Or.inl ⟨by rfl, ?_⟩) (by assumption) ?_
    rotate_left
    · intro w' hSw
      try dsimp only at hSw
      go_simp
      try with_reducible rfl
    simp only [Act.put, List.setIfInBounds_toArray, List.set_cons_zero, List.set_cons_succ]
    refine wpAnyT_take (i := 4) (oi := { dst := some 40, op := Op.load 25 (Operand.tmp 8), type := 25, pos := "check.go:52", after := #[{ on := 3, ground := Ground.guard }], guard := some (3, true) }) (v := undef) rfl (by kernel_rfl) (by kernel_rfl) (by kernel_rfl) (fun _ _ _ h => h) (by kernel_rfl) (Or.inr ⟨by rfl, rfl⟩) (by assumption) ?_
    simp only [Act.put, List.setIfInBounds_toArray, List.set_cons_zero, List.set_cons_succ]
    refine wpAnyT_take (i := 5) (oi := { dst := some 41, op := Op.call { callee := Callee.value (Operand.func 57), args := #[Operand.const (Value.slice none 0 0)], argTypes := #[27] }, type := 25, pos := "check.go:52", after := #[{ on := 3, ground := Ground.chain }, { on := 3, ground := Ground.guard }], guard := some (3, true) }) (v := undef) rfl (by kernel_rfl) (by kernel_rfl) (by kernel_rfl) (fun _ _ _ h => h) (by kernel_rfl) (Or.inr ⟨by rfl, rfl⟩) (by assumption) ?_
    simp only [Act.put, List.setIfInBounds_toArray, List.set_cons_zero, List.set_cons_succ]
    refine wpAnyT_take (i := 6) (oi := { dst := some 42, op := Op.binOp BinOp.eql 25 (Operand.tmp 40) (Operand.tmp 41) 25, type := 4, pos := "check.go:52", after := #[{ on := 4, ground := Ground.data }, { on := 5, ground := Ground.data }, { on := 3, ground := Ground.guard }], guard := some (3, true) }) (v := undef) rfl (by kernel_rfl) (by kernel_rfl) (by kernel_rfl) (fun _ _ _ h => h) (by kernel_rfl) (Or.inr ⟨by rfl, rfl⟩) (by assumption) ?_
    simp only [Act.put, List.setIfInBounds_toArray, List.set_cons_zero, List.set_cons_succ]
    refine wpAnyT_take (i := 7) (oi := { dst := some 43, op := Op.pick (Operand.tmp 39) (Operand.tmp 42) (Operand.const (Value.bool false)), type := 4, pos := "check.go:52", after := #[{ on := 3, ground := Ground.data }, { on := 6, ground := Ground.data }], guard := none }) (v := ?_) rfl (by kernel_rfl) (by kernel_rfl) (by kernel_rfl) (fun _ _ _ h => h) (by kernel_rfl) (Or.inl ⟨by rfl, ?_⟩) (by assumption) ?_
    rotate_left
    · intro w' hSw
      try dsimp only at hSw
      go_simp
      try with_reducible rfl
    simp only [Act.put, List.setIfInBounds_toArray, List.set_cons_zero, List.set_cons_succ]
    refine wpAnyT_one (i := 8) (o := { dst := some 10, op := Op.assign (Operand.tmp 43), type := 4, pos := "check.go:52", after := #[{ on := 7, ground := Ground.data }, { on := 5, ground := Ground.chain }, { on := 0, ground := Ground.phase }, { on := 1, ground := Ground.phase }, { on := 2, ground := Ground.phase }, { on := 3, ground := Ground.phase }, { on := 4, ground := Ground.phase }, { on := 5, ground := Ground.phase }, { on := 6, ground := Ground.phase }, { on := 7, ground := Ground.phase }], guard := none }) rfl (by kernel_rfl) (fun K hK => ?_)
    go_simp
    refine hK.out _ _ (fun h => absurd rfl h) (fun _ => ?_)
    clear hK K
    try simp only [Act.put, List.setIfInBounds_toArray, List.set_cons_zero, List.set_cons_succ]
    refine wpAnyT_done (by kernel_rfl) ?_ _
    refine NoPanic.normal ?_
    go_wp2
    go_ret
    exact ⟨rfl, hD⟩

end Go.Proofs.YtjgmmdgcknnlpaaDoor

/-
  tree.Extended, roots.Extended.
-/
namespace Go.Proofs.YtjgmmdgcknnlpaaDoor
open Go Go.RowKit

set_option maxHeartbeats 8000000 in
set_option maxRecDepth 100000 in
theorem text_main (ps : List (List UInt8)) (m n : Nat) (hm : 1 ≤ m) (hmn : m < n) (hn : n < 9223372036854775808) (a b : List UInt8) (v : Value) (w : World) (hla : a.length = 32) (hlb : b.length = 32) (hw : 1 < w.heap.size) (hT : Tab w) (hv : SumsIs w v ps) (hp : ps.length < 1000000000) :
    Calls Tryd.prog 68 #[.int .i64 (m : Int), .int .i64 (n : Int), v, .agg (a.map ub).toArray, .agg (b.map ub).toArray] w fun e w' => e = .returned (.bool (extB ps.reverse m n a b)) ∧ w.grownBy w' none := by
  have e0 : extB ps.reverse m n a b = (extR ps.reverse m n a true == some (a, b)) := by unfold extB; rw [if_neg (by omega), if_neg (by omega), if_neg (by omega)]; simp
  rw [e0]; clear e0
  have d0 : decide ((m : Int) < 0) = false := by simp
  have d1 : decide ((m : Int) > (n : Int)) = false := by simp; omega
  have d1' : decide (n < m) = false := by simp; omega
  have d2 : ((m : Int) == (n : Int)) = false := by rw [beq_eq_false_iff_ne]; omega
  have d2' : (m == n) = false := by rw [beq_eq_false_iff_ne]; omega
  have d3 : ((m : Int) == 0) = false := by rw [beq_eq_false_iff_ne]; omega
  have d3' : (m == 0) = false := by rw [beq_eq_false_iff_ne]; omega
  obtain ⟨HIa, _, _⟩ := sum25 a hla
  obtain ⟨HIb, _, _⟩ := sum25 b hlb
  have HBP : Hid _ := built_pair a b hla hlb
  have HC : Hid (∀ V : World, 1 < V.heap.size → Tab V → SumsIs V v ps → Calls Tryd.prog 96 #[.int .i64 (m : Int), .int .i64 (n : Int), v, .agg (a.map ub).toArray, .bool true] V fun e w' => ∃ f al, f.length = 32 ∧ al.length = 32 ∧ e = .returned (.tuple #[.agg (pairC f al), .bool (extR ps.reverse m n a true).isSome]) ∧ (∀ t, extR ps.reverse m n a true = some t → (f, al) = t) ∧ V.grownBy w' none) :=
    fun V h1 h2 h3 => ext_any ps.reverse m n a true v V hla hm (by omega) hn h1 h2 (by rwa [List.reverse_reverse]) (by simpa using hp)
  have HT : Hid (Tab w) := hT
  have HV : Hid (SumsIs w v ps) := hv
  clear hT hv hm hmn hn hp
  generalize eL : (a.map ub).toArray = L at *
  generalize eT : (b.map ub).toArray = T at *
  generalize eQ : pairC a b = QQ at *
  go_enter Tryd.func68, Tryd.ntmps68
  go_wp2_with (first | refine wpList_load_row rfl 25 _ rfl w.heap.size rfl 25 _ (0, 0) _ (heap_alloc2_old _ _ _) Tryd.underlying25 rfl HIa.out ?_)
  have hA := gr_trans (gr_alloc w (Obj.cells L 25)) (gr_alloc _ (Obj.cells T 25))
  have hL0 : ((w.alloc (Obj.cells L 25)).alloc (Obj.cells T 25)).heap[w.heap.size]? = some (.cells L 25 (0, 0)) := heap_alloc2_old _ _ _
  have hB0 : ((w.alloc (Obj.cells L 25)).alloc (Obj.cells T 25)).heap[w.heap.size + 1]? = some (.cells T 25 (0, 0)) := heap_alloc2_new _ _ _
  refine (HC.out ((w.alloc (Obj.cells L 25)).alloc (Obj.cells T 25)) (by have := hA.size; omega) (HT.out.gr hA hw) (HV.out.gr hA)).mono ?_
  rintro e w3 ⟨f, al, hfl, hall, rfl, htop, hG3⟩
  have hG03 := gr_trans hA hG3
  have hL3 : w3.heap[w.heap.size]? = some (.cells L 25 (0, 0)) := (hG3.block _ (by simp; omega) (by simp)).trans hL0
  have hB3 : w3.heap[w.heap.size + 1]? = some (.cells T 25 (0, 0)) := (hG3.block _ (by simp) (by simp)).trans hB0
  have HTOP : Hid _ := htop
  have hs3 : w.heap.size + 1 < w3.heap.size := (Array.getElem?_eq_some_iff.1 hB3).1
  have hs3' : w.heap.size < w3.heap.size := by omega
  clear hA hL0 hB0 HC HV HT hG3 htop
  obtain ⟨HI, HO, HN⟩ := sum126 f al hfl hall
  cases hu : extR ps.reverse m n a true with
  | none =>
    simp only [Option.isSome_none]
    generalize eU : pairC f al = U at *
    go_wp2_with (first | (refine store_new rfl 144 _ _ rfl U _ _ rfl rfl HI.out HO.out HN.out ?_; intro W4 hW4 hs4 hG4))
    go_ret
    exact ⟨by rw [hu]; rfl, gr_trans hG03 hG4⟩
  | some u =>
    obtain rfl : (f, al) = u := HTOP.out u hu
    simp only [Option.isSome_some]
    generalize eU : pairC f al = U at *
    go_wp2_with (first | refine wpList_load_g (by rfl) 144 _ rfl w3.heap.size rfl 144 _ (0, 0) _ hW4 Tryd.underlying144 rfl HI.out ?_ | refine wpList_load_g (by rfl) 25 _ rfl w.heap.size rfl 25 _ (0, 0) _ hL4 Tryd.underlying25 rfl HIa.out ?_ | refine wpList_load_g (by rfl) 25 _ rfl (w.heap.size + 1) rfl 25 _ (0, 0) _ hB4 Tryd.underlying25 rfl HIb.out ?_ | refine wpList_pair_g (by rfl) _ _ rfl _ _ rfl rfl QQ HBP.out ?_ | refine wpList_eq126 (by rfl) _ _ _ rfl f al a b U QQ eU eQ hfl hall hla hlb rfl rfl ?_ | (refine store_new rfl 144 _ _ rfl U _ _ rfl rfl HI.out HO.out HN.out ?_; intro W4 hW4 hs4 hG4; have hL4 := (hG4.block _ hs3' (by simp)).trans hL3; have hB4 := (hG4.block _ hs3 (by simp)).trans hB3))
    go_ret
    exact ⟨by rw [hu]; rfl, gr_trans hG03 hG4⟩

theorem textd_any (ps : List (List UInt8)) (m n : Int) (hn : n < 9223372036854775808) (a b : List UInt8) (v : Value) (w : World) (hla : a.length = 32) (hlb : b.length = 32) (hw : 1 < w.heap.size) (hT : Tab w) (hv : SumsIs w v ps) (hp : ps.length < 1000000000) :
    Calls Tryd.prog 68 #[.int .i64 m, .int .i64 n, v, .agg (a.map ub).toArray, .agg (b.map ub).toArray] w fun e w' => e = .returned (.bool (extB ps.reverse m n a b)) ∧ w.grownBy w' none := by
  by_cases h : m < 0 ∨ n < m
  · exact text_neg ps m n a b v w h
  obtain ⟨N, rfl⟩ : ∃ N : Nat, n = (N : Int) := ⟨n.toNat, by omega⟩
  by_cases h1 : m = (N : Int)
  · exact text_same ps N m h1 a b v w hla hlb hv hp
  by_cases h2 : m = 0
  · subst h2
    exact text_zero ps N (by omega) a b v w hla hw hT hv hp
  obtain ⟨M, rfl⟩ : ∃ M : Nat, m = (M : Int) := ⟨m.toNat, by omega⟩
  exact text_main ps M N (by omega) (by omega) (by omega) a b v w hla hlb hw hT hv hp

set_option maxHeartbeats 4000000 in
set_option maxRecDepth 100000 in
theorem extd_any (ps : List (List UInt8)) (m n : Int) (hn : n < 9223372036854775808) (a b : List UInt8) (v : Value) (w : World) (hla : a.length = 32) (hlb : b.length = 32) (hw : 1 < w.heap.size) (hT : Tab w) (hv : SumsIs w v ps) (hp : ps.length < 1000000000) :
    Calls Tryd.prog 32 #[.int .i64 m, .int .i64 n, v, .agg (a.map ub).toArray, .agg (b.map ub).toArray] w fun e w' => e = .returned (.bool (extB ps.reverse m n a b)) ∧ w.grownBy w' none := by
  obtain ⟨HIa, _, _⟩ := sum25 a hla
  obtain ⟨HIb, _, _⟩ := sum25 b hlb
  have HC : Hid (∀ V : World, w.grownBy V none → Calls Tryd.prog 68 #[.int .i64 m, .int .i64 n, v, .agg (a.map ub).toArray, .agg (b.map ub).toArray] V fun e w' => e = .returned (.bool (extB ps.reverse m n a b)) ∧ V.grownBy w' none) :=
    fun V hV => textd_any ps m n hn a b v V hla hlb (by have := hV.size; omega) (hT.gr hV hw) (hv.gr hV) hp
  clear hT hv hn hp
  generalize extB ps.reverse m n a b = BB at *
  generalize eL : (a.map ub).toArray = L at *
  generalize eT : (b.map ub).toArray = T at *
  have hA := gr_trans (gr_alloc w (Obj.cells L 25)) (gr_alloc _ (Obj.cells T 25))
  go_enter Tryd.func32, Tryd.ntmps32
  go_wp2_with (first | refine wpList_load_row rfl 25 _ rfl w.heap.size rfl 25 _ (0, 0) _ (heap_alloc2_old _ _ _) Tryd.underlying25 rfl HIa.out ?_ | refine wpList_load_row rfl 25 _ rfl (w.heap.size + 1) rfl 25 _ (0, 0) _ (heap_alloc2_new _ _ _) Tryd.underlying25 rfl HIb.out ?_)
  refine (HC.out ((w.alloc (Obj.cells L 25)).alloc (Obj.cells T 25)) hA).mono ?_
  rintro e w3 ⟨rfl, hG3⟩
  clear HC
  go_wp2
  go_ret
  exact ⟨rfl, gr_trans hA hG3⟩
end Go.Proofs.YtjgmmdgcknnlpaaDoor
