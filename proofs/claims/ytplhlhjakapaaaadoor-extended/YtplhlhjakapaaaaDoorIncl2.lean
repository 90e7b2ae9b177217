/-
  roots.Included.
-/
import Derived.Test.YtplhlhjakapaaaaDoorIncl
namespace Go.Proofs.YtplhlhjakapaaaaDoor
open Go Go.RowKit

set_option maxHeartbeats 4000000 in
set_option maxRecDepth 100000 in
theorem incl_any (bs : List UInt8) (ps : List (List UInt8)) (i n : Int) (root : List UInt8) (u v : Value) (w : World) (hr : root.length = 32) (hn : n < 9223372036854775808) (hw : 1 < w.heap.size) (hT : Tab w) (hu : SliceIs w u bs) (hb : bs.length < 1152921504606840000) (hv : SumsIs w v ps) (hp : ps.length < 1000000000) :
    Calls Tryd.prog 30 #[u, .int .i64 i, .int .i64 n, v, .agg (root.map ub).toArray] w fun e w' => e = .returned (.bool (inclB ps.reverse i n (sha (0 :: bs)) root)) ∧ w.grownBy w' none := by
  have HIr : Hid _ := info25' (R := (root.map ub).toArray) rfl hr
  have HV : Hid (SumsIs w v ps) := hv
  have HU : Hid (SliceIs w u bs) := hu
  have HT : Hid (Tab w) := hT
  clear hv hT hu
  go_enter Tryd.func30, Tryd.ntmps30
  go_wp2_with fail
  have hA := gr_alloc w (Obj.cells (root.map ub).toArray 25)
  have hB0 : (w.alloc (Obj.cells (root.map ub).toArray 25)).heap[w.heap.size]? = some (.cells (root.map ub).toArray 25 (0, 0)) := heap_alloc_new _ _
  change Code.wp _ _ _ _ (w.alloc (Obj.cells (root.map ub).toArray 25))
  generalize w.alloc (Obj.cells (root.map ub).toArray 25) = W at hA hB0 ⊢
  have hS : ∀ V : World, W.drew.grownBy V none → V.rangeAt w.heap.size 0 (root.map ub) := fun V hV j x hj => by
    have hb : V.heap[w.heap.size]? = some (.cells (root.map ub).toArray 25 (0, 0)) := (hV.block _ (Array.getElem?_eq_some_iff.1 hB0).1 (by simp)).trans hB0
    rw [Nat.zero_add, cell_of_row V _ _ _ _ _ hb]; simpa using hj
  refine wp_region_noPanic ?_
  refine wp_region_T (last := 7) (S := fun w' => w'.rangeAt w.heap.size 0 (root.map ub)) (by kernel_rfl) (hS _ (gr_refl _)) (fun hHeld => ?_)
  refine wpAnyT_take (i := 0) (oi := { dst := some 11, op := Op.move (Operand.tmp 0), type := 27, pos := "lists.go:37", after := #[], guard := none }) (v := ?_) rfl (by kernel_rfl) (by kernel_rfl) (by kernel_rfl) (fun _ _ _ h => h) (by kernel_rfl) (Or.inl ⟨by rfl, ?_⟩) (by assumption) ?_
  rotate_left
  · intro w' hSw
    try dsimp only at hSw
    go_simp
    try with_reducible rfl
  simp only [Act.put, List.setIfInBounds_toArray, List.set_cons_zero, List.set_cons_succ]
  refine wpAnyT_take (i := 2) (oi := { dst := some 13, op := Op.move (Operand.tmp 1), type := 3, pos := "lists.go:37", after := #[], guard := none }) (v := ?_) rfl (by kernel_rfl) (by kernel_rfl) (by kernel_rfl) (fun _ _ _ h => h) (by kernel_rfl) (Or.inl ⟨by rfl, ?_⟩) (by assumption) ?_
  rotate_left
  · intro w' hSw
    try dsimp only at hSw
    go_simp
    try with_reducible rfl
  simp only [Act.put, List.setIfInBounds_toArray, List.set_cons_zero, List.set_cons_succ]
  refine wpAnyT_take (i := 3) (oi := { dst := some 14, op := Op.move (Operand.tmp 2), type := 3, pos := "lists.go:37", after := #[], guard := none }) (v := ?_) rfl (by kernel_rfl) (by kernel_rfl) (by kernel_rfl) (fun _ _ _ h => h) (by kernel_rfl) (Or.inl ⟨by rfl, ?_⟩) (by assumption) ?_
  rotate_left
  · intro w' hSw
    try dsimp only at hSw
    go_simp
    try with_reducible rfl
  simp only [Act.put, List.setIfInBounds_toArray, List.set_cons_zero, List.set_cons_succ]
  refine wpAnyT_take (i := 4) (oi := { dst := some 15, op := Op.move (Operand.tmp 3), type := 38, pos := "lists.go:37", after := #[], guard := none }) (v := ?_) rfl (by kernel_rfl) (by kernel_rfl) (by kernel_rfl) (fun _ _ _ h => h) (by kernel_rfl) (Or.inl ⟨by rfl, ?_⟩) (by assumption) ?_
  rotate_left
  · intro w' hSw
    try dsimp only at hSw
    go_simp
    try with_reducible rfl
  simp only [Act.put, List.setIfInBounds_toArray, List.set_cons_zero, List.set_cons_succ]
  refine wpAnyT_take (i := 5) (oi := { dst := some 16, op := Op.load 25 (Operand.tmp 9), type := 25, pos := "lists.go:37", after := #[], guard := none }) (v := .agg (root.map ub).toArray) rfl (by kernel_rfl) (by kernel_rfl) (by kernel_rfl) (fun _ _ _ h => h) (by kernel_rfl) (yieldsIf_load_mid (by rfl) _ _ rfl w.heap.size 0 rfl (root.map ub) _ (fun w' hSw => hSw) Tryd.underlying25 rfl (by rw [HIr.out]; simp)) (by assumption) ?_
  simp only [Act.put, List.setIfInBounds_toArray, List.set_cons_zero, List.set_cons_succ]
  refine wpAnyT_one (i := 1) (o := { dst := some 12, op := Op.call { callee := Callee.value (Operand.func 66), args := #[Operand.tmp 11], argTypes := #[27] }, type := 25, pos := "lists.go:37", after := #[{ on := 0, ground := Ground.data }], guard := none }) rfl (by kernel_rfl) (fun K hK => ?_)
  go_simp
  have hD : w.grownBy W.drew none := gr_drew hA
  refine (leaf_any bs u W.drew (by have := hD.size; omega) (HT.out.gr hD hw) (HU.out.gr hD) hb).mono ?_
  rintro e w1 ⟨rfl, hG1⟩
  refine hK.out _ _ (fun _ => hS _ hG1) (fun hHeld2 => ?_)
  clear hK K hHeld hHeld2
  have hG01 := gr_trans hD hG1
  try simp only [Act.put, List.setIfInBounds_toArray, List.set_cons_zero, List.set_cons_succ]
  refine wpAnyT_one (i := 6) (o := { dst := some 17, op := Op.call { callee := Callee.value (Operand.func 65), args := #[Operand.tmp 12, Operand.tmp 13, Operand.tmp 14, Operand.tmp 15, Operand.tmp 16], argTypes := #[25, 3, 3, 38, 25] }, type := 4, pos := "lists.go:37", after := #[{ on := 1, ground := Ground.data }, { on := 2, ground := Ground.data }, { on := 3, ground := Ground.data }, { on := 4, ground := Ground.data }, { on := 5, ground := Ground.data }, { on := 1, ground := Ground.chain }], guard := none }) rfl (by kernel_rfl) (fun K hK => ?_)
  go_simp
  refine (tincl_any ps i n _ root v w1 (length_sha (0 :: bs)) hr hn (by have := hG01.size; omega) (HT.out.gr hG01 hw) (HV.out.gr hG01) hp).mono ?_
  rintro e w2 ⟨rfl, hG2⟩
  refine hK.out _ _ (fun _ => hS _ (gr_trans hG1 hG2)) (fun hHeld2 => ?_)
  clear hK K hHeld2
  have hG02 := gr_trans hG01 hG2
  clear hS hG1 hG2 hG01 hD hA hB0
  try simp only [Act.put, List.setIfInBounds_toArray, List.set_cons_zero, List.set_cons_succ]
  refine wpAnyT_one (i := 7) (o := { dst := some 10, op := Op.assign (Operand.tmp 17), type := 4, pos := "lists.go:37", after := #[{ on := 6, ground := Ground.data }, { on := 6, ground := Ground.chain }, { on := 0, ground := Ground.phase }, { on := 1, ground := Ground.phase }, { on := 2, ground := Ground.phase }, { on := 3, ground := Ground.phase }, { on := 4, ground := Ground.phase }, { on := 5, ground := Ground.phase }, { on := 6, ground := Ground.phase }], guard := none }) rfl (by kernel_rfl) (fun K hK => ?_)
  go_simp
  refine hK.out _ _ (fun h => absurd rfl h) (fun _ => ?_)
  clear hK K
  try simp only [Act.put, List.setIfInBounds_toArray, List.set_cons_zero, List.set_cons_succ]
  refine wpAnyT_done (by kernel_rfl) ?_ _
  refine NoPanic.normal ?_
  go_wp2
  go_ret
  exact ⟨rfl, hG02⟩
end Go.Proofs.YtplhlhjakapaaaaDoor
