/-
  rootsref's up.
-/
import Derived.Test.YtplhlhjakapaaaaDoorCa
import Derived.Test.YtplhlhjakapaaaaDoorClimb
namespace Go.Proofs.YtplhlhjakapaaaaDoor
open Go Go.RowKit

theorem SumsIs.init {w : World} {sp : Option Addr} {n cap : Nat} {ps : List (List UInt8)} {s : List UInt8} (h : SumsIs w (.slice sp n cap) (ps ++ [s])) : SumsIs w (.slice sp ps.length cap) ps ∧ n = ps.length + 1 ∧ n ≤ cap ∧ ∃ g o, sp = some ⟨g, o, none⟩ ∧ g < w.heap.size ∧ w.rangeAt g (o + ps.length * 32) (s.map ub) := by
  obtain ⟨h32, sp', cap', e, hcap, hsp⟩ := h
  cases e
  rw [List.length_append, List.length_singleton] at hcap hsp
  obtain ⟨g, o, rfl, hg, hrg⟩ := hsp (by omega)
  refine ⟨⟨fun x hx => h32 x (by simp [hx]), _, _, rfl, by omega, fun _ => ⟨g, o, rfl, hg, fun k x hk => hrg k x ?_⟩⟩, by simp, by simpa using hcap, g, o, rfl, hg, hrg _ _ (by simp)⟩
  rw [List.getElem?_append_left (List.getElem?_eq_some_iff.1 hk).1]; exact hk

set_option maxHeartbeats 4000000 in
set_option maxRecDepth 100000 in
/-- A list of one leaf. -/
theorem up_one (H : Nat) (rs : List (List UInt8)) (i : Nat) (leaf : List UInt8) (v : Value) (w : World) (hl : leaf.length = 32) (hv : SumsIs w v rs.reverse) (hr : rs.length < 1000000000) (n : Nat) (hn : n = 1) :
    Calls Tryd.prog 67 #[.pointer (some ⟨H, 0, none⟩), .agg (leaf.map ub).toArray, .int .i64 (i : Int), .int .i64 (n : Int), v] w fun e w' => e = .returned (.tuple #[.agg (leaf.map ub).toArray, .bool rs.isEmpty]) ∧ w.grownBy w' none := by
  obtain ⟨HI, HO, HN⟩ := sum25 leaf hl
  obtain ⟨_, sp, cap, rfl, _, _⟩ := hv
  clear hl
  rw [List.length_reverse]
  have hb : decide ((rs.length : Int) = 0) = rs.isEmpty := by cases rs <;> simp <;> omega
  have HB : Hid (decide ((rs.length : Int) = 0) = rs.isEmpty) := hb
  clear hb
  generalize eR : (leaf.map ub).toArray = R at *
  have d1 : ((n : Int) == 1) = true := by simp; omega
  clear hn
  go_enter Tryd.func67, Tryd.ntmps67
  go_wp2_with (first | refine wpList_load_row rfl 25 _ rfl w.heap.size rfl 25 _ (0, 0) _ (heap_alloc2_old _ _ _) Tryd.underlying25 rfl HI.out ?_ | refine wpList_store_row rfl 25 _ _ rfl (w.heap.size + 1) _ rfl rfl 25 _ (heap_alloc2_new _ _ _) HI.out HO.out HN.out ?_)
  have hGF := gr_row (gr_trans (gr_alloc w (Obj.cells R 25)) (gr_alloc _ (Obj.cells (brow 32 []).toArray 25))) (w.heap.size + 1) R (by omega)
  refine bodyPost_ret (results_ct Tryd.results67 _ _ (w.heap.size + 1) 25 _ (0, 0) _ _ rfl rfl (setRow_heap _ _ _ _ 25 _ (heap_alloc2_new _ _ _)) Tryd.underlying25 rfl HI.out) rfl ⟨?_, hGF⟩
  rw [← HB.out]
  rfl

set_option maxHeartbeats 4000000 in
set_option maxRecDepth 100000 in
/-- No path, and more than one leaf. -/
theorem up_none (H : Nat) (i n : Nat) (leaf : List UInt8) (v : Value) (w : World) (hl : leaf.length = 32) (hv : SumsIs w v []) (hn : n ≠ 1) :
    Calls Tryd.prog 67 #[.pointer (some ⟨H, 0, none⟩), .agg (leaf.map ub).toArray, .int .i64 (i : Int), .int .i64 (n : Int), v] w fun e w' => e = .returned (.tuple #[.agg (leaf.map ub).toArray, .bool false]) ∧ w.grownBy w' none := by
  obtain ⟨HI, HO, HN⟩ := sum25 leaf hl
  have d1 : ((n : Int) == 1) = false := by simp; omega
  obtain ⟨_, sp, cap, rfl, _, _⟩ := hv
  clear hn hl
  generalize eR : (leaf.map ub).toArray = R at *
  go_enter Tryd.func67, Tryd.ntmps67
  go_wp2_with (first | refine wpList_load_row rfl 25 _ rfl w.heap.size rfl 25 _ (0, 0) _ (heap_alloc2_old _ _ _) Tryd.underlying25 rfl HI.out ?_ | refine wpList_store_row rfl 25 _ _ rfl (w.heap.size + 1) _ rfl rfl 25 _ (heap_alloc2_new _ _ _) HI.out HO.out HN.out ?_)
  have hGF := gr_row (gr_trans (gr_alloc w (Obj.cells R 25)) (gr_alloc _ (Obj.cells (brow 32 []).toArray 25))) (w.heap.size + 1) R (by omega)
  exact bodyPost_ret (results_ct Tryd.results67 _ _ (w.heap.size + 1) 25 _ (0, 0) _ _ rfl rfl (setRow_heap _ _ _ _ 25 _ (heap_alloc2_new _ _ _)) Tryd.underlying25 rfl HI.out) rfl ⟨rfl, hGF⟩

set_option maxHeartbeats 40000000 in
set_option maxRecDepth 100000 in
theorem up_any (H : Nat) (rs : List (List UInt8)) : ∀ (i n : Nat) (leaf : List UInt8) (v : Value) (w : World), leaf.length = 32 → i < n → n < 9223372036854775808 → RefAt w H → H < w.heap.size → SumsIs w v rs.reverse → rs.length < 1000000000 →
    Calls Tryd.prog 67 #[.pointer (some ⟨H, 0, none⟩), .agg (leaf.map ub).toArray, .int .i64 (i : Int), .int .i64 (n : Int), v] w fun e w' => ∃ top, top.length = 32 ∧ e = .returned (.tuple #[.agg (top.map ub).toArray, .bool (upR rs i n leaf).isSome]) ∧ (∀ t, upR rs i n leaf = some t → top = t) ∧ w.grownBy w' none := by
  induction rs with
  | nil =>
    intro i n leaf v w hl hi hn hH hHs hv _
    by_cases h1 : n = 1
    · refine (up_one H [] i leaf v w hl hv (by simp) n h1).mono ?_
      rintro e w' ⟨rfl, hG⟩
      exact ⟨leaf, hl, by simp [upR, h1], by simp [upR, h1], hG⟩
    · refine (up_none H i n leaf v w hl hv h1).mono ?_
      rintro e w' ⟨rfl, hG⟩
      have hu : upR [] i n leaf = none := by simp [upR, h1]
      exact ⟨leaf, hl, by rw [hu]; rfl, by rw [hu]; simp, hG⟩
  | cons s rest ih =>
    intro i n leaf v w hl hi hn hH hHs hv hr
    by_cases h1 : n = 1
    · refine (up_one H (s :: rest) i leaf v w hl hv hr n h1).mono ?_
      rintro e w' ⟨rfl, hG⟩
      exact ⟨leaf, hl, by simp [upR, h1], by simp [upR, h1], hG⟩
    have hs : s.length = 32 := hv.1 s (by simp)
    have d1 : ((n : Int) == 1) = false := by simp; omega
    have hn2 : 2 ≤ n := by omega
    obtain ⟨ha, hb, _, _⟩ := spl_spec n hn2 hn
    have hk1 := spl_pos n
    rw [List.reverse_cons] at hv
    rw [List.length_cons] at hr
    have HIH : Hid _ := ih
    have HH : Hid (RefAt w H) := hH
    obtain ⟨_, sp, cap, rfl, _, _⟩ := id hv
    obtain ⟨hvi, _, hcap, g, o, rfl, hg, hrg⟩ := hv.init
    have HV : Hid (SumsIs w (.slice (some ⟨g, o, none⟩) rest.length cap) rest.reverse) := by
      rw [List.length_reverse] at hvi; exact hvi
    clear hH ih hv hvi
    simp only [List.length_append, List.length_reverse, List.length_singleton] at hcap hrg ⊢
    have HRG : Hid (w.rangeAt g (o + rest.length * 32) (s.map ub)) := hrg
    have hlI : (Tryd.prog.info? 25).map (·.size) = some (leaf.map ub).length := by rw [info25' (R := (leaf.map ub).toArray) rfl hl]; simp
    have hsI : (Tryd.prog.info? 25).map (·.size) = some (s.map ub).length := by rw [info25' (R := (s.map ub).toArray) rfl hs]; simp
    have HlI : Hid _ := hlI
    have HsI : Hid _ := hsI
    clear hlI hsI hrg
    have d0 : decide (((rest.length + 1 : Nat) : Int) = 0) = false := by simp; omega
    go_enter Tryd.func67, Tryd.ntmps67
    go_wp2_with fail
    have hA := gr_trans (gr_alloc w (Obj.cells (leaf.map ub).toArray 25)) (gr_alloc _ (Obj.cells (brow 32 []).toArray 25))
    have hL0 : ((w.alloc (Obj.cells (leaf.map ub).toArray 25)).alloc (Obj.cells (brow 32 []).toArray 25)).heap[w.heap.size]? = some (.cells (leaf.map ub).toArray 25 (0, 0)) := heap_alloc2_old _ _ _
    have hB0 : ((w.alloc (Obj.cells (leaf.map ub).toArray 25)).alloc (Obj.cells (brow 32 []).toArray 25)).heap[w.heap.size + 1]? = some (.cells (brow 32 []).toArray 25 (0, 0)) := heap_alloc2_new _ _ _
    refine (rsplit_any n ((w.alloc (Obj.cells (leaf.map ub).toArray 25)).alloc (Obj.cells (brow 32 []).toArray 25)) hn2 hn).mono ?_
    rintro e w' ⟨rfl, hww⟩
    rw [hww]; clear hww w'
    generalize (w.alloc (Obj.cells (leaf.map ub).toArray 25)).alloc (Obj.cells (brow 32 []).toArray 25) = W at hA hL0 hB0 ⊢
    have HUP : Hid (upR (s :: rest) i n leaf = if i < spl n then (upR rest i (spl n) leaf).map (fun l => sha (nodeL 1 l s)) else (upR rest (i - spl n) (n - spl n) leaf).map fun r => sha (nodeL 1 s r)) := by
      show _ = _
      rw [upR, if_neg h1]
    clear h1 hn2
    generalize hk : spl n = k at *
    by_cases hik : i < k
    · have d2 : decide ((i : Int) < (k : Int)) = true := by simp; omega
      rw [if_pos hik] at HUP
      have b0 : (0 : Int) ≤ (rest.length : Int) := by omega
      have b1 : (rest.length : Int) < (rest.length : Int) + 1 := by omega
      have b2 : (rest.length : Int) ≤ (cap : Int) := by omega
      go_wp2_with fail
      have hS : ∀ V : World, W.drew.grownBy V none → V.rangeAt w.heap.size 0 (leaf.map ub) := fun V hV j x hj => by
        have hb : V.heap[w.heap.size]? = some (.cells (leaf.map ub).toArray 25 (0, 0)) := (hV.block _ (Array.getElem?_eq_some_iff.1 hL0).1 (by simp)).trans hL0
        rw [Nat.zero_add, cell_of_row V _ _ _ _ _ hb]; simpa using hj
      have HC : Hid (∀ V : World, W.drew.grownBy V none → Calls Tryd.prog 67 #[.pointer (some ⟨H, 0, none⟩), .agg (leaf.map ub).toArray, .int .i64 (i : Int), .int .i64 (k : Int), .slice (some ⟨g, o, none⟩) rest.length cap] V fun e w' => ∃ top, top.length = 32 ∧ e = .returned (.tuple #[.agg (top.map ub).toArray, .bool (upR rest i k leaf).isSome]) ∧ (∀ t, upR rest i k leaf = some t → top = t) ∧ V.grownBy w' none) := fun V hV => by
        have hG := gr_trans (gr_drew hA) hV
        have h := HIH.out i k leaf (.slice (some ⟨g, o, none⟩) rest.length cap) V hl (by omega) (by omega) (RefAt.gr HH.out hHs hG) (by have := hG.size; omega) (SumsIs.gr HV.out hG) (by omega)
        exact h
      clear HIH HV
      refine wp_region_noPanic ?_
      refine wp_region_T (last := 13) (S := fun w' => w'.rangeAt w.heap.size 0 (leaf.map ub)) (by kernel_rfl) (hS _ (gr_refl _)) (fun hHeld => ?_)
      refine wpAnyT_take (i := 0) (oi := { dst := some 39, op := Op.move (Operand.tmp 0), type := 22, pos := "tree.go:75", after := #[], guard := none }) (v := ?_) rfl (by kernel_rfl) (by kernel_rfl) (by kernel_rfl) (fun _ _ _ h => h) (by kernel_rfl) (Or.inl ⟨by rfl, ?_⟩) (by assumption) ?_
      rotate_left
      · intro w' hSw
        try dsimp only at hSw
        go_simp
        try with_reducible rfl
      simp only [Act.put, List.setIfInBounds_toArray, List.set_cons_zero, List.set_cons_succ]
      refine wpAnyT_take (i := 1) (oi := { dst := some 40, op := Op.load 25 (Operand.tmp 6), type := 25, pos := "tree.go:75", after := #[], guard := none }) (v := .agg (leaf.map ub).toArray) rfl (by kernel_rfl) (by kernel_rfl) (by kernel_rfl) (fun _ _ _ h => h) (by kernel_rfl) (yieldsIf_load_mid (by rfl) _ _ rfl w.heap.size 0 rfl (leaf.map ub) _ (fun w' hSw => hSw) Tryd.underlying25 rfl HlI.out) (by assumption) ?_
      simp only [Act.put, List.setIfInBounds_toArray, List.set_cons_zero, List.set_cons_succ]
      refine wpAnyT_take (i := 2) (oi := { dst := some 41, op := Op.move (Operand.tmp 2), type := 3, pos := "tree.go:75", after := #[], guard := none }) (v := ?_) rfl (by kernel_rfl) (by kernel_rfl) (by kernel_rfl) (fun _ _ _ h => h) (by kernel_rfl) (Or.inl ⟨by rfl, ?_⟩) (by assumption) ?_
      rotate_left
      · intro w' hSw
        try dsimp only at hSw
        go_simp
        try with_reducible rfl
      simp only [Act.put, List.setIfInBounds_toArray, List.set_cons_zero, List.set_cons_succ]
      refine wpAnyT_take (i := 3) (oi := { dst := some 42, op := Op.move (Operand.tmp 13), type := 3, pos := "tree.go:75", after := #[], guard := none }) (v := ?_) rfl (by kernel_rfl) (by kernel_rfl) (by kernel_rfl) (fun _ _ _ h => h) (by kernel_rfl) (Or.inl ⟨by rfl, ?_⟩) (by assumption) ?_
      rotate_left
      · intro w' hSw
        try dsimp only at hSw
        go_simp
        try with_reducible rfl
      simp only [Act.put, List.setIfInBounds_toArray, List.set_cons_zero, List.set_cons_succ]
      refine wpAnyT_take (i := 4) (oi := { dst := some 43, op := Op.move (Operand.tmp 4), type := 38, pos := "tree.go:75", after := #[], guard := none }) (v := ?_) rfl (by kernel_rfl) (by kernel_rfl) (by kernel_rfl) (fun _ _ _ h => h) (by kernel_rfl) (Or.inl ⟨by rfl, ?_⟩) (by assumption) ?_
      rotate_left
      · intro w' hSw
        try dsimp only at hSw
        go_simp
        try with_reducible rfl
      simp only [Act.put, List.setIfInBounds_toArray, List.set_cons_zero, List.set_cons_succ]
      refine wpAnyT_take (i := 5) (oi := { dst := some 44, op := Op.move (Operand.tmp 12), type := 3, pos := "tree.go:75", after := #[], guard := none }) (v := ?_) rfl (by kernel_rfl) (by kernel_rfl) (by kernel_rfl) (fun _ _ _ h => h) (by kernel_rfl) (Or.inl ⟨by rfl, ?_⟩) (by assumption) ?_
      rotate_left
      · intro w' hSw
        try dsimp only at hSw
        go_simp
        try with_reducible rfl
      simp only [Act.put, List.setIfInBounds_toArray, List.set_cons_zero, List.set_cons_succ]
      refine wpAnyT_take (i := 6) (oi := { dst := some 45, op := Op.slice 38 (Operand.tmp 43) none (some (Operand.tmp 44)) none, type := 38, pos := "tree.go:75", after := #[{ on := 4, ground := Ground.data }, { on := 5, ground := Ground.data }], guard := none }) (v := ?_) rfl (by kernel_rfl) (by kernel_rfl) (by kernel_rfl) (fun _ _ _ h => h) (by kernel_rfl) (Or.inl ⟨by rfl, ?_⟩) (by assumption) ?_
      rotate_left
      · intro w' hSw
        try dsimp only at hSw
        go_simp
        try with_reducible rfl
      simp only [Act.put, List.setIfInBounds_toArray, List.set_cons_zero, List.set_cons_succ]
      refine wpAnyT_two (i := 7) (j := 11) (oi := { dst := some 46, op := Op.call { callee := Callee.value (Operand.func 67), args := #[Operand.tmp 39, Operand.tmp 40, Operand.tmp 41, Operand.tmp 42, Operand.tmp 45], argTypes := #[22, 25, 3, 3, 38] }, type := 82, pos := "tree.go:75", after := #[{ on := 0, ground := Ground.data }, { on := 1, ground := Ground.data }, { on := 2, ground := Ground.data }, { on := 3, ground := Ground.data }, { on := 6, ground := Ground.data }], guard := none }) (oj := { dst := some 14, op := Op.alloc 25, type := 0, pos := "tree.go:75", after := #[], guard := none }) rfl rfl (by kernel_rfl) (fun K hK => ?_) (fun K hK => ?_)
      case' refine_1 =>
        go_simp
        refine (HC.out W.drew (gr_refl _)).mono ?_
        rintro e w1 ⟨top, htl, rfl, htop, hG1⟩
        refine hK.out _ _ (hS _ hG1) (fun hHeld2 => ?_)
        clear hK K
        try simp only [Act.put, List.setIfInBounds_toArray, List.set_cons_zero, List.set_cons_succ]
        refine wpAnyT_take (i := 8) (oi := { dst := some 38, op := Op.move (Operand.tmp 46), type := 82, pos := "tree.go:75", after := #[{ on := 7, ground := Ground.data }], guard := none }) (v := ?_) rfl (by kernel_rfl) (by kernel_rfl) (by kernel_rfl) (fun _ _ _ h => h) (by kernel_rfl) (Or.inl ⟨by rfl, ?_⟩) (by assumption) ?_
        rotate_left
        · intro w' hSw
          try dsimp only at hSw
          go_simp
          try with_reducible rfl
        simp only [Act.put, List.setIfInBounds_toArray, List.set_cons_zero, List.set_cons_succ]
        refine wpAnyT_take (i := 9) (oi := { dst := some 47, op := Op.extract (Operand.tmp 38) 0, type := 25, pos := "tree.go:75", after := #[{ on := 8, ground := Ground.data }], guard := none }) (v := ?_) rfl (by kernel_rfl) (by kernel_rfl) (by kernel_rfl) (fun _ _ _ h => h) (by kernel_rfl) (Or.inl ⟨by rfl, ?_⟩) (by assumption) ?_
        rotate_left
        · intro w' hSw
          try dsimp only at hSw
          go_simp
          try with_reducible rfl
        simp only [Act.put, List.setIfInBounds_toArray, List.set_cons_zero, List.set_cons_succ]
        refine wpAnyT_take (i := 10) (oi := { dst := some 48, op := Op.extract (Operand.tmp 38) 1, type := 4, pos := "tree.go:75", after := #[{ on := 8, ground := Ground.data }, { on := 12, ground := Ground.gcOnly Go.Departure.lateStores }], guard := none }) (v := ?_) rfl (by kernel_rfl) (by kernel_rfl) (by kernel_rfl) (fun _ _ _ h => h) (by kernel_rfl) (Or.inl ⟨by rfl, ?_⟩) (by assumption) ?_
        rotate_left
        · intro w' hSw
          try dsimp only at hSw
          go_simp
          try with_reducible rfl
        simp only [Act.put, List.setIfInBounds_toArray, List.set_cons_zero, List.set_cons_succ]
        refine wpAnyT_one (i := 11) (o := { dst := some 14, op := Op.alloc 25, type := 0, pos := "tree.go:75", after := #[], guard := none }) rfl (by kernel_rfl) (fun K hK => ?_)
        rw [if_pos (by rfl)]
        refine wp_alloc25 rfl ?_
        have hG2 := gr_trans hG1 (gr_alloc w1 (.cells (brow 32 []).toArray 25))
        have hBk := heap_alloc_new w1 (.cells (brow 32 []).toArray 25)
        have hBl := hG1.size
        refine hK.out _ _ (fun _ => hS _ hG2) (fun hHeld3 => ?_)
        clear hK K hHeld hHeld2 hG1
        try simp only [Act.put, List.setIfInBounds_toArray, List.set_cons_zero, List.set_cons_succ]
        generalize w1.alloc (.cells (brow 32 []).toArray 25) = Z at *
        generalize w1.heap.size = B at *
      case' refine_2 =>
        rw [if_pos (by rfl)]
        refine wp_alloc25 rfl ?_
        have hG1 := gr_alloc W.drew (.cells (brow 32 []).toArray 25)
        refine hK.out _ _ (hS _ hG1) (fun hHeld2 => ?_)
        clear hK K
        try simp only [Act.put, List.setIfInBounds_toArray, List.set_cons_zero, List.set_cons_succ]
        refine wpAnyT_one (i := 7) (o := { dst := some 46, op := Op.call { callee := Callee.value (Operand.func 67), args := #[Operand.tmp 39, Operand.tmp 40, Operand.tmp 41, Operand.tmp 42, Operand.tmp 45], argTypes := #[22, 25, 3, 3, 38] }, type := 82, pos := "tree.go:75", after := #[{ on := 0, ground := Ground.data }, { on := 1, ground := Ground.data }, { on := 2, ground := Ground.data }, { on := 3, ground := Ground.data }, { on := 6, ground := Ground.data }], guard := none }) rfl (by kernel_rfl) (fun K hK => ?_)
        go_simp
        refine (HC.out _ hG1).mono ?_
        rintro e Z ⟨top, htl, rfl, htop, hG12⟩
        have hG2 := gr_trans hG1 hG12
        have hBk : Z.heap[W.heap.size]? = some (.cells (brow 32 []).toArray 25 (0, 0)) := (hG12.block _ (by simp) (by simp)).trans (heap_alloc_new W.drew (.cells (brow 32 []).toArray 25))
        have hBl : W.drew.heap.size ≤ W.heap.size := Nat.le_refl _
        have hW2 : w.heap.size + 1 < W.heap.size := (Array.getElem?_eq_some_iff.1 hB0).1
        refine hK.out _ _ (fun _ => hS _ hG2) (fun _ => ?_)
        have hHeld3 := hS _ hG2
        clear hK K hHeld hHeld2 hG1 hG12
        try simp only [Act.put, List.setIfInBounds_toArray, List.set_cons_zero, List.set_cons_succ]
        refine wpAnyT_take (i := 8) (oi := { dst := some 38, op := Op.move (Operand.tmp 46), type := 82, pos := "tree.go:75", after := #[{ on := 7, ground := Ground.data }], guard := none }) (v := ?_) rfl (by kernel_rfl) (by kernel_rfl) (by kernel_rfl) (fun _ _ _ h => h) (by kernel_rfl) (Or.inl ⟨by rfl, ?_⟩) (by assumption) ?_
        rotate_left
        · intro w' hSw
          try dsimp only at hSw
          go_simp
          try with_reducible rfl
        simp only [Act.put, List.setIfInBounds_toArray, List.set_cons_zero, List.set_cons_succ]
        refine wpAnyT_take (i := 9) (oi := { dst := some 47, op := Op.extract (Operand.tmp 38) 0, type := 25, pos := "tree.go:75", after := #[{ on := 8, ground := Ground.data }], guard := none }) (v := ?_) rfl (by kernel_rfl) (by kernel_rfl) (by kernel_rfl) (fun _ _ _ h => h) (by kernel_rfl) (Or.inl ⟨by rfl, ?_⟩) (by assumption) ?_
        rotate_left
        · intro w' hSw
          try dsimp only at hSw
          go_simp
          try with_reducible rfl
        simp only [Act.put, List.setIfInBounds_toArray, List.set_cons_zero, List.set_cons_succ]
        refine wpAnyT_take (i := 10) (oi := { dst := some 48, op := Op.extract (Operand.tmp 38) 1, type := 4, pos := "tree.go:75", after := #[{ on := 8, ground := Ground.data }, { on := 12, ground := Ground.gcOnly Go.Departure.lateStores }], guard := none }) (v := ?_) rfl (by kernel_rfl) (by kernel_rfl) (by kernel_rfl) (fun _ _ _ h => h) (by kernel_rfl) (Or.inl ⟨by rfl, ?_⟩) (by assumption) ?_
        rotate_left
        · intro w' hSw
          try dsimp only at hSw
          go_simp
          try with_reducible rfl
        simp only [Act.put, List.setIfInBounds_toArray, List.set_cons_zero, List.set_cons_succ]
        clear hW2
        generalize W.heap.size = B at *
      all_goals
        clear HC
        have HTOP : Hid (∀ t, upR rest i k leaf = some t → top = t) := htop
        clear htop
        generalize eok : (upR rest i k leaf).isSome = okk at *
        obtain ⟨HI, HO, HN⟩ := sum25 top htl
        refine wpAnyT_one (i := 12) (o := { dst := none, op := Op.store 25 (Operand.tmp 14) (Operand.tmp 47), type := 0, pos := "tree.go:75", after := #[{ on := 11, ground := Ground.data }, { on := 9, ground := Ground.data }, { on := 7, ground := Ground.chain }, { on := 0, ground := Ground.phase }, { on := 1, ground := Ground.phase }, { on := 2, ground := Ground.phase }, { on := 3, ground := Ground.phase }, { on := 4, ground := Ground.phase }, { on := 5, ground := Ground.phase }, { on := 6, ground := Ground.phase }, { on := 7, ground := Ground.phase }, { on := 8, ground := Ground.phase }, { on := 9, ground := Ground.phase }, { on := 10, ground := Ground.textOnly Go.Departure.lateStores }, { on := 11, ground := Ground.phase }], guard := none }) rfl (by kernel_rfl) (fun K hK => ?_)
        rw [if_pos (by rfl)]
        refine wp_store_row 25 _ _ rfl _ (top.map ub).toArray rfl rfl 25 _ hBk HI.out HO.out HN.out ?_
        have hZ2 := setRow_heap Z _ _ (top.map ub).toArray 25 _ hBk
        have hG3 := gr_row hG2 _ (top.map ub).toArray hBl
        refine hK.out _ _ (fun _ => hS _ hG3) (fun hHeld4 => ?_)
        clear hK K hHeld3 hHeld4
        simp only [Act.put]
        refine wpAnyT_one (i := 13) (o := { dst := some 15, op := Op.assign (Operand.tmp 48), type := 4, pos := "tree.go:75", after := #[{ on := 10, ground := Ground.data }, { on := 12, ground := Ground.chain }, { on := 0, ground := Ground.phase }, { on := 1, ground := Ground.phase }, { on := 2, ground := Ground.phase }, { on := 3, ground := Ground.phase }, { on := 4, ground := Ground.phase }, { on := 5, ground := Ground.phase }, { on := 6, ground := Ground.phase }, { on := 7, ground := Ground.phase }, { on := 8, ground := Ground.phase }, { on := 9, ground := Ground.phase }, { on := 10, ground := Ground.phase }, { on := 11, ground := Ground.phase }, { on := 12, ground := Ground.phase }], guard := none }) rfl (by kernel_rfl) (fun K hK => ?_)
        go_simp
        refine hK.out _ _ (fun h => absurd rfl h) (fun _ => ?_)
        clear hK K
        try simp only [Act.put, List.setIfInBounds_toArray, List.set_cons_zero, List.set_cons_succ]
        refine wpAnyT_done (by kernel_rfl) ?_ _
        refine NoPanic.normal ?_
        clear hS hBk hG2
        generalize Z.setRow _ _ = V at hZ2 hG3 ⊢
        go_wp2
        have hG0V : w.grownBy V.drew none := gr_drew (gr_trans (gr_drew hA) hG3)
        have hS2 : ∀ U : World, V.drew.grownBy U none → U.rangeAt B 0 (top.map ub) ∧ U.rangeAt g (o + rest.length * 32) (s.map ub) := fun U hU => ⟨fun j x hj => by
            have hb : U.heap[B]? = some (.cells (top.map ub).toArray 25 (0, 0)) := (hU.block _ (Array.getElem?_eq_some_iff.1 hZ2).1 (by simp)).trans hZ2
            rw [Nat.zero_add, cell_of_row U _ _ _ _ _ hb]; simpa using hj,
          fun j x hj => (gr_cell (gr_trans hG0V hU) (p := ⟨g, o + rest.length * 32 + j, none⟩) hg).trans (HRG.out j x hj)⟩
        have HtI : Hid ((Tryd.prog.info? 25).map (·.size) = some (top.map ub).length) := by
          show _ = _
          rw [HI.out]; simp
        refine wp_region_noPanic ?_
        refine wp_region_T (last := 8) (S := fun w' => w'.rangeAt B 0 (top.map ub) ∧ w'.rangeAt g (o + rest.length * 32) (s.map ub)) (by kernel_rfl) (hS2 _ (gr_refl _)) (fun hHeld => ?_)
        refine wpAnyT_take (i := 0) (oi := { dst := some 49, op := Op.move (Operand.tmp 0), type := 22, pos := "tree.go:76", after := #[], guard := none }) (v := ?_) rfl (by kernel_rfl) (by kernel_rfl) (by kernel_rfl) (fun _ _ _ h => h) (by kernel_rfl) (Or.inl ⟨by rfl, ?_⟩) (by assumption) ?_
        rotate_left
        · intro w' hSw
          try dsimp only at hSw
          go_simp
          try with_reducible rfl
        simp only [Act.put, List.setIfInBounds_toArray, List.set_cons_zero, List.set_cons_succ]
        refine wpAnyT_take (i := 1) (oi := { dst := some 50, op := Op.load 25 (Operand.tmp 14), type := 25, pos := "tree.go:76", after := #[], guard := none }) (v := .agg (top.map ub).toArray) rfl (by kernel_rfl) (by kernel_rfl) (by kernel_rfl) (fun _ _ _ h => h) (by kernel_rfl) (yieldsIf_load_mid (by rfl) _ _ rfl B 0 rfl (top.map ub) _ (fun w' hSw => hSw.1) Tryd.underlying25 rfl HtI.out) (by assumption) ?_
        simp only [Act.put, List.setIfInBounds_toArray, List.set_cons_zero, List.set_cons_succ]
        refine wpAnyT_take (i := 2) (oi := { dst := some 51, op := Op.move (Operand.tmp 4), type := 38, pos := "tree.go:76", after := #[], guard := none }) (v := ?_) rfl (by kernel_rfl) (by kernel_rfl) (by kernel_rfl) (fun _ _ _ h => h) (by kernel_rfl) (Or.inl ⟨by rfl, ?_⟩) (by assumption) ?_
        rotate_left
        · intro w' hSw
          try dsimp only at hSw
          go_simp
          try with_reducible rfl
        simp only [Act.put, List.setIfInBounds_toArray, List.set_cons_zero, List.set_cons_succ]
        refine wpAnyT_take (i := 3) (oi := { dst := some 52, op := Op.move (Operand.tmp 12), type := 3, pos := "tree.go:76", after := #[], guard := none }) (v := ?_) rfl (by kernel_rfl) (by kernel_rfl) (by kernel_rfl) (fun _ _ _ h => h) (by kernel_rfl) (Or.inl ⟨by rfl, ?_⟩) (by assumption) ?_
        rotate_left
        · intro w' hSw
          try dsimp only at hSw
          go_simp
          try with_reducible rfl
        simp only [Act.put, List.setIfInBounds_toArray, List.set_cons_zero, List.set_cons_succ]
        refine wpAnyT_take (i := 4) (oi := { dst := some 53, op := Op.indexAddr 38 (Operand.tmp 51) (Operand.tmp 52), type := 0, pos := "tree.go:76", after := #[{ on := 2, ground := Ground.data }, { on := 3, ground := Ground.data }], guard := none }) (v := ?_) rfl (by kernel_rfl) (by kernel_rfl) (by kernel_rfl) (fun _ _ _ h => h) (by kernel_rfl) (Or.inl ⟨by rfl, ?_⟩) (by assumption) ?_
        rotate_left
        · intro w' hSw
          try dsimp only at hSw
          go_simp
          try with_reducible rfl
        simp only [Act.put, List.setIfInBounds_toArray, List.set_cons_zero, List.set_cons_succ]
        refine wpAnyT_take (i := 5) (oi := { dst := some 54, op := Op.load 25 (Operand.tmp 53), type := 25, pos := "tree.go:76", after := #[{ on := 4, ground := Ground.data }], guard := none }) (v := .agg (s.map ub).toArray) rfl (by kernel_rfl) (by kernel_rfl) (by kernel_rfl) (fun _ _ _ h => h) (by kernel_rfl) (yieldsIf_load_mid (by rfl) _ _ rfl g (o + rest.length * 32) rfl (s.map ub) _ (fun w' hSw => hSw.2) Tryd.underlying25 rfl HsI.out) (by assumption) ?_
        simp only [Act.put, List.setIfInBounds_toArray, List.set_cons_zero, List.set_cons_succ]
        clear hHeld
        have HND : Hid (∀ U : World, V.drew.grownBy U none → Calls Tryd.prog 56 #[.pointer (some ⟨H, 0, none⟩), .int .u8 1, .agg ((top).map ub).toArray, .agg ((s).map ub).toArray] U fun e w' => e = .returned (.agg ((sha (nodeL 1 top s)).map ub).toArray) ∧ U.grownBy w' none) := fun U hU =>
          node_any H 1 top s htl hs U (RefAt.gr HH.out hHs (gr_trans hG0V hU)) (by have := (gr_trans hG0V hU).size; omega)
        refine wpAnyT_ca (i := 6) (j := 7) (k := 8) (R := sha (nodeL 1 top s)) (p := 16) (q := 55) rfl rfl rfl (by kernel_rfl) (by kernel_rfl) (by kernel_rfl) (by kernel_rfl) (by kernel_rfl) rfl rfl rfl rfl rfl rfl rfl (by decide) (by decide) (by simp) (by simp) hS2 (length_sha _) (fun U a' hU ha' K hK => ?_) (fun B2 Z2 hB2 hB2s hZ3 hG4 => ?_)
        · rcases ha' with rfl | ⟨x, rfl⟩
          · go_simp
            refine (HND.out U hU).mono ?_
            rintro e w' ⟨rfl, hG⟩
            exact hK.out _ hG
          · simp only [Act.put, List.setIfInBounds_toArray, List.set_cons_zero, List.set_cons_succ]
            go_simp
            refine (HND.out U hU).mono ?_
            rintro e w' ⟨rfl, hG⟩
            exact hK.out _ hG
        simp only [Act.put, List.setIfInBounds_toArray, List.set_cons_zero, List.set_cons_succ]
        refine NoPanic.normal ?_
        have hlt : w.heap.size + 1 < W.heap.size := (Array.getElem?_eq_some_iff.1 hB0).1
        have hlt2 : w.heap.size + 1 < V.heap.size := Nat.lt_of_lt_of_le hlt hG3.size
        have hB5 : Z2.heap[w.heap.size + 1]? = some (.cells (brow 32 []).toArray 25 (0, 0)) := (hG4.block _ hlt2 (by simp)).trans ((hG3.block _ hlt (by simp)).trans hB0)
        have hG05 := gr_trans hG0V hG4
        clear hlt hlt2 hS2 HND hZ2 hG3 hG4 hG0V hA hL0 hB0 HI HO HN hB2 hB2s HtI HsI HlI HRG
        obtain ⟨HI, HO, HN⟩ := sum25 _ (length_sha (nodeL 1 top s))
        generalize eX : ((sha (nodeL 1 top s)).map ub).toArray = X at *
        generalize (leaf.map ub).toArray = X1
        generalize (top.map ub).toArray = X2
        generalize (s.map ub).toArray = X3
        go_wp2_with (first | refine wpList_load_row rfl 25 _ rfl B2 rfl 25 _ (0, 0) _ hZ3 Tryd.underlying25 rfl HI.out ?_ | refine wpList_store_row rfl 25 _ _ rfl (w.heap.size + 1) X rfl rfl 25 _ hB5 HI.out HO.out HN.out ?_)
        refine bodyPost_ret (results_ct Tryd.results67 _ _ (w.heap.size + 1) 25 _ (0, 0) _ _ rfl rfl (setRow_heap _ _ _ _ 25 _ hB5) Tryd.underlying25 rfl HI.out) rfl ⟨_, length_sha (nodeL 1 top s), ?_, ?_, gr_row hG05 _ _ (by omega)⟩
        · rw [HUP.out, Option.isSome_map, eok, eX]; rfl
        · intro t ht
          rw [HUP.out] at ht
          obtain ⟨t', h1, rfl⟩ := Option.map_eq_some_iff.1 ht
          rw [HTOP.out t' h1]
    · have d2 : decide ((i : Int) < (k : Int)) = false := by simp; omega
      rw [if_neg hik] at HUP
      have b0 : (0 : Int) ≤ (rest.length : Int) := by omega
      have b1 : (rest.length : Int) < (rest.length : Int) + 1 := by omega
      have b2 : (rest.length : Int) ≤ (cap : Int) := by omega
      go_wp2_with fail
      have wr1 : IntKind.i64.wrap ((i : Int) - (k : Int)) = (i : Int) - (k : Int) := by rw [IntKind.wrap_i64]; omega
      have wr2 : IntKind.i64.wrap ((n : Int) - (k : Int)) = (n : Int) - (k : Int) := by rw [IntKind.wrap_i64]; omega
      have hS : ∀ V : World, W.drew.grownBy V none → V.rangeAt w.heap.size 0 (leaf.map ub) := fun V hV j x hj => by
        have hb : V.heap[w.heap.size]? = some (.cells (leaf.map ub).toArray 25 (0, 0)) := (hV.block _ (Array.getElem?_eq_some_iff.1 hL0).1 (by simp)).trans hL0
        rw [Nat.zero_add, cell_of_row V _ _ _ _ _ hb]; simpa using hj
      have HC : Hid (∀ V : World, W.drew.grownBy V none → Calls Tryd.prog 67 #[.pointer (some ⟨H, 0, none⟩), .agg (leaf.map ub).toArray, .int .i64 ((i : Int) - (k : Int)), .int .i64 ((n : Int) - (k : Int)), .slice (some ⟨g, o, none⟩) rest.length cap] V fun e w' => ∃ top, top.length = 32 ∧ e = .returned (.tuple #[.agg (top.map ub).toArray, .bool (upR rest (i - k) (n - k) leaf).isSome]) ∧ (∀ t, upR rest (i - k) (n - k) leaf = some t → top = t) ∧ V.grownBy w' none) := fun V hV => by
        have hG := gr_trans (gr_drew hA) hV
        have h := HIH.out (i - k) (n - k) leaf (.slice (some ⟨g, o, none⟩) rest.length cap) V hl (by omega) (by omega) (RefAt.gr HH.out hHs hG) (by have := hG.size; omega) (SumsIs.gr HV.out hG) (by omega)
        rw [show ((i - k : Nat) : Int) = (i : Int) - (k : Int) by omega, show ((n - k : Nat) : Int) = (n : Int) - (k : Int) by omega] at h
        exact h
      clear HIH HV
      refine wp_region_noPanic ?_
      refine wp_region_T (last := 17) (S := fun w' => w'.rangeAt w.heap.size 0 (leaf.map ub)) (by kernel_rfl) (hS _ (gr_refl _)) (fun hHeld => ?_)
      refine wpAnyT_take (i := 0) (oi := { dst := some 59, op := Op.move (Operand.tmp 0), type := 22, pos := "tree.go:79", after := #[], guard := none }) (v := ?_) rfl (by kernel_rfl) (by kernel_rfl) (by kernel_rfl) (fun _ _ _ h => h) (by kernel_rfl) (Or.inl ⟨by rfl, ?_⟩) (by assumption) ?_
      rotate_left
      · intro w' hSw
        try dsimp only at hSw
        go_simp
        try with_reducible rfl
      simp only [Act.put, List.setIfInBounds_toArray, List.set_cons_zero, List.set_cons_succ]
      refine wpAnyT_take (i := 1) (oi := { dst := some 60, op := Op.load 25 (Operand.tmp 6), type := 25, pos := "tree.go:79", after := #[], guard := none }) (v := .agg (leaf.map ub).toArray) rfl (by kernel_rfl) (by kernel_rfl) (by kernel_rfl) (fun _ _ _ h => h) (by kernel_rfl) (yieldsIf_load_mid (by rfl) _ _ rfl w.heap.size 0 rfl (leaf.map ub) _ (fun w' hSw => hSw) Tryd.underlying25 rfl HlI.out) (by assumption) ?_
      simp only [Act.put, List.setIfInBounds_toArray, List.set_cons_zero, List.set_cons_succ]
      refine wpAnyT_take (i := 2) (oi := { dst := some 61, op := Op.move (Operand.tmp 2), type := 3, pos := "tree.go:79", after := #[], guard := none }) (v := ?_) rfl (by kernel_rfl) (by kernel_rfl) (by kernel_rfl) (fun _ _ _ h => h) (by kernel_rfl) (Or.inl ⟨by rfl, ?_⟩) (by assumption) ?_
      rotate_left
      · intro w' hSw
        try dsimp only at hSw
        go_simp
        try with_reducible rfl
      simp only [Act.put, List.setIfInBounds_toArray, List.set_cons_zero, List.set_cons_succ]
      refine wpAnyT_take (i := 3) (oi := { dst := some 62, op := Op.move (Operand.tmp 13), type := 3, pos := "tree.go:79", after := #[], guard := none }) (v := ?_) rfl (by kernel_rfl) (by kernel_rfl) (by kernel_rfl) (fun _ _ _ h => h) (by kernel_rfl) (Or.inl ⟨by rfl, ?_⟩) (by assumption) ?_
      rotate_left
      · intro w' hSw
        try dsimp only at hSw
        go_simp
        try with_reducible rfl
      simp only [Act.put, List.setIfInBounds_toArray, List.set_cons_zero, List.set_cons_succ]
      refine wpAnyT_take (i := 4) (oi := { dst := some 63, op := Op.binOp BinOp.sub 3 (Operand.tmp 61) (Operand.tmp 62) 3, type := 3, pos := "tree.go:79", after := #[{ on := 2, ground := Ground.data }, { on := 3, ground := Ground.data }], guard := none }) (v := ?_) rfl (by kernel_rfl) (by kernel_rfl) (by kernel_rfl) (fun _ _ _ h => h) (by kernel_rfl) (Or.inl ⟨by rfl, ?_⟩) (by assumption) ?_
      rotate_left
      · intro w' hSw
        try dsimp only at hSw
        go_simp
        try with_reducible rfl
      simp only [Act.put, List.setIfInBounds_toArray, List.set_cons_zero, List.set_cons_succ]
      refine wpAnyT_take (i := 5) (oi := { dst := some 64, op := Op.move (Operand.tmp 3), type := 3, pos := "tree.go:79", after := #[], guard := none }) (v := ?_) rfl (by kernel_rfl) (by kernel_rfl) (by kernel_rfl) (fun _ _ _ h => h) (by kernel_rfl) (Or.inl ⟨by rfl, ?_⟩) (by assumption) ?_
      rotate_left
      · intro w' hSw
        try dsimp only at hSw
        go_simp
        try with_reducible rfl
      simp only [Act.put, List.setIfInBounds_toArray, List.set_cons_zero, List.set_cons_succ]
      refine wpAnyT_take (i := 6) (oi := { dst := some 65, op := Op.move (Operand.tmp 13), type := 3, pos := "tree.go:79", after := #[], guard := none }) (v := ?_) rfl (by kernel_rfl) (by kernel_rfl) (by kernel_rfl) (fun _ _ _ h => h) (by kernel_rfl) (Or.inl ⟨by rfl, ?_⟩) (by assumption) ?_
      rotate_left
      · intro w' hSw
        try dsimp only at hSw
        go_simp
        try with_reducible rfl
      simp only [Act.put, List.setIfInBounds_toArray, List.set_cons_zero, List.set_cons_succ]
      refine wpAnyT_take (i := 7) (oi := { dst := some 66, op := Op.binOp BinOp.sub 3 (Operand.tmp 64) (Operand.tmp 65) 3, type := 3, pos := "tree.go:79", after := #[{ on := 5, ground := Ground.data }, { on := 6, ground := Ground.data }], guard := none }) (v := ?_) rfl (by kernel_rfl) (by kernel_rfl) (by kernel_rfl) (fun _ _ _ h => h) (by kernel_rfl) (Or.inl ⟨by rfl, ?_⟩) (by assumption) ?_
      rotate_left
      · intro w' hSw
        try dsimp only at hSw
        go_simp
        try with_reducible rfl
      simp only [Act.put, List.setIfInBounds_toArray, List.set_cons_zero, List.set_cons_succ]
      refine wpAnyT_take (i := 8) (oi := { dst := some 67, op := Op.move (Operand.tmp 4), type := 38, pos := "tree.go:79", after := #[], guard := none }) (v := ?_) rfl (by kernel_rfl) (by kernel_rfl) (by kernel_rfl) (fun _ _ _ h => h) (by kernel_rfl) (Or.inl ⟨by rfl, ?_⟩) (by assumption) ?_
      rotate_left
      · intro w' hSw
        try dsimp only at hSw
        go_simp
        try with_reducible rfl
      simp only [Act.put, List.setIfInBounds_toArray, List.set_cons_zero, List.set_cons_succ]
      refine wpAnyT_take (i := 9) (oi := { dst := some 68, op := Op.move (Operand.tmp 12), type := 3, pos := "tree.go:79", after := #[], guard := none }) (v := ?_) rfl (by kernel_rfl) (by kernel_rfl) (by kernel_rfl) (fun _ _ _ h => h) (by kernel_rfl) (Or.inl ⟨by rfl, ?_⟩) (by assumption) ?_
      rotate_left
      · intro w' hSw
        try dsimp only at hSw
        go_simp
        try with_reducible rfl
      simp only [Act.put, List.setIfInBounds_toArray, List.set_cons_zero, List.set_cons_succ]
      refine wpAnyT_take (i := 10) (oi := { dst := some 69, op := Op.slice 38 (Operand.tmp 67) none (some (Operand.tmp 68)) none, type := 38, pos := "tree.go:79", after := #[{ on := 8, ground := Ground.data }, { on := 9, ground := Ground.data }], guard := none }) (v := ?_) rfl (by kernel_rfl) (by kernel_rfl) (by kernel_rfl) (fun _ _ _ h => h) (by kernel_rfl) (Or.inl ⟨by rfl, ?_⟩) (by assumption) ?_
      rotate_left
      · intro w' hSw
        try dsimp only at hSw
        go_simp
        try with_reducible rfl
      simp only [Act.put, List.setIfInBounds_toArray, List.set_cons_zero, List.set_cons_succ]
      refine wpAnyT_two (i := 11) (j := 15) (oi := { dst := some 70, op := Op.call { callee := Callee.value (Operand.func 67), args := #[Operand.tmp 59, Operand.tmp 60, Operand.tmp 63, Operand.tmp 66, Operand.tmp 69], argTypes := #[22, 25, 3, 3, 38] }, type := 82, pos := "tree.go:79", after := #[{ on := 0, ground := Ground.data }, { on := 1, ground := Ground.data }, { on := 4, ground := Ground.data }, { on := 7, ground := Ground.data }, { on := 10, ground := Ground.data }], guard := none }) (oj := { dst := some 17, op := Op.alloc 25, type := 0, pos := "tree.go:79", after := #[], guard := none }) rfl rfl (by kernel_rfl) (fun K hK => ?_) (fun K hK => ?_)
      case' refine_1 =>
        go_simp
        refine (HC.out W.drew (gr_refl _)).mono ?_
        rintro e w1 ⟨top, htl, rfl, htop, hG1⟩
        refine hK.out _ _ (hS _ hG1) (fun hHeld2 => ?_)
        clear hK K
        try simp only [Act.put, List.setIfInBounds_toArray, List.set_cons_zero, List.set_cons_succ]
        refine wpAnyT_take (i := 12) (oi := { dst := some 58, op := Op.move (Operand.tmp 70), type := 82, pos := "tree.go:79", after := #[{ on := 11, ground := Ground.data }], guard := none }) (v := ?_) rfl (by kernel_rfl) (by kernel_rfl) (by kernel_rfl) (fun _ _ _ h => h) (by kernel_rfl) (Or.inl ⟨by rfl, ?_⟩) (by assumption) ?_
        rotate_left
        · intro w' hSw
          try dsimp only at hSw
          go_simp
          try with_reducible rfl
        simp only [Act.put, List.setIfInBounds_toArray, List.set_cons_zero, List.set_cons_succ]
        refine wpAnyT_take (i := 13) (oi := { dst := some 71, op := Op.extract (Operand.tmp 58) 0, type := 25, pos := "tree.go:79", after := #[{ on := 12, ground := Ground.data }], guard := none }) (v := ?_) rfl (by kernel_rfl) (by kernel_rfl) (by kernel_rfl) (fun _ _ _ h => h) (by kernel_rfl) (Or.inl ⟨by rfl, ?_⟩) (by assumption) ?_
        rotate_left
        · intro w' hSw
          try dsimp only at hSw
          go_simp
          try with_reducible rfl
        simp only [Act.put, List.setIfInBounds_toArray, List.set_cons_zero, List.set_cons_succ]
        refine wpAnyT_take (i := 14) (oi := { dst := some 72, op := Op.extract (Operand.tmp 58) 1, type := 4, pos := "tree.go:79", after := #[{ on := 12, ground := Ground.data }, { on := 16, ground := Ground.gcOnly Go.Departure.lateStores }], guard := none }) (v := ?_) rfl (by kernel_rfl) (by kernel_rfl) (by kernel_rfl) (fun _ _ _ h => h) (by kernel_rfl) (Or.inl ⟨by rfl, ?_⟩) (by assumption) ?_
        rotate_left
        · intro w' hSw
          try dsimp only at hSw
          go_simp
          try with_reducible rfl
        simp only [Act.put, List.setIfInBounds_toArray, List.set_cons_zero, List.set_cons_succ]
        refine wpAnyT_one (i := 15) (o := { dst := some 17, op := Op.alloc 25, type := 0, pos := "tree.go:79", after := #[], guard := none }) rfl (by kernel_rfl) (fun K hK => ?_)
        rw [if_pos (by rfl)]
        refine wp_alloc25 rfl ?_
        have hG2 := gr_trans hG1 (gr_alloc w1 (.cells (brow 32 []).toArray 25))
        have hBk := heap_alloc_new w1 (.cells (brow 32 []).toArray 25)
        have hBl := hG1.size
        refine hK.out _ _ (fun _ => hS _ hG2) (fun hHeld3 => ?_)
        clear hK K hHeld hHeld2 hG1
        try simp only [Act.put, List.setIfInBounds_toArray, List.set_cons_zero, List.set_cons_succ]
        generalize w1.alloc (.cells (brow 32 []).toArray 25) = Z at *
        generalize w1.heap.size = B at *
      case' refine_2 =>
        rw [if_pos (by rfl)]
        refine wp_alloc25 rfl ?_
        have hG1 := gr_alloc W.drew (.cells (brow 32 []).toArray 25)
        refine hK.out _ _ (hS _ hG1) (fun hHeld2 => ?_)
        clear hK K
        try simp only [Act.put, List.setIfInBounds_toArray, List.set_cons_zero, List.set_cons_succ]
        refine wpAnyT_one (i := 11) (o := { dst := some 70, op := Op.call { callee := Callee.value (Operand.func 67), args := #[Operand.tmp 59, Operand.tmp 60, Operand.tmp 63, Operand.tmp 66, Operand.tmp 69], argTypes := #[22, 25, 3, 3, 38] }, type := 82, pos := "tree.go:79", after := #[{ on := 0, ground := Ground.data }, { on := 1, ground := Ground.data }, { on := 4, ground := Ground.data }, { on := 7, ground := Ground.data }, { on := 10, ground := Ground.data }], guard := none }) rfl (by kernel_rfl) (fun K hK => ?_)
        go_simp
        refine (HC.out _ hG1).mono ?_
        rintro e Z ⟨top, htl, rfl, htop, hG12⟩
        have hG2 := gr_trans hG1 hG12
        have hBk : Z.heap[W.heap.size]? = some (.cells (brow 32 []).toArray 25 (0, 0)) := (hG12.block _ (by simp) (by simp)).trans (heap_alloc_new W.drew (.cells (brow 32 []).toArray 25))
        have hBl : W.drew.heap.size ≤ W.heap.size := Nat.le_refl _
        have hW2 : w.heap.size + 1 < W.heap.size := (Array.getElem?_eq_some_iff.1 hB0).1
        refine hK.out _ _ (fun _ => hS _ hG2) (fun _ => ?_)
        have hHeld3 := hS _ hG2
        clear hK K hHeld hHeld2 hG1 hG12
        try simp only [Act.put, List.setIfInBounds_toArray, List.set_cons_zero, List.set_cons_succ]
        refine wpAnyT_take (i := 12) (oi := { dst := some 58, op := Op.move (Operand.tmp 70), type := 82, pos := "tree.go:79", after := #[{ on := 11, ground := Ground.data }], guard := none }) (v := ?_) rfl (by kernel_rfl) (by kernel_rfl) (by kernel_rfl) (fun _ _ _ h => h) (by kernel_rfl) (Or.inl ⟨by rfl, ?_⟩) (by assumption) ?_
        rotate_left
        · intro w' hSw
          try dsimp only at hSw
          go_simp
          try with_reducible rfl
        simp only [Act.put, List.setIfInBounds_toArray, List.set_cons_zero, List.set_cons_succ]
        refine wpAnyT_take (i := 13) (oi := { dst := some 71, op := Op.extract (Operand.tmp 58) 0, type := 25, pos := "tree.go:79", after := #[{ on := 12, ground := Ground.data }], guard := none }) (v := ?_) rfl (by kernel_rfl) (by kernel_rfl) (by kernel_rfl) (fun _ _ _ h => h) (by kernel_rfl) (Or.inl ⟨by rfl, ?_⟩) (by assumption) ?_
        rotate_left
        · intro w' hSw
          try dsimp only at hSw
          go_simp
          try with_reducible rfl
        simp only [Act.put, List.setIfInBounds_toArray, List.set_cons_zero, List.set_cons_succ]
        refine wpAnyT_take (i := 14) (oi := { dst := some 72, op := Op.extract (Operand.tmp 58) 1, type := 4, pos := "tree.go:79", after := #[{ on := 12, ground := Ground.data }, { on := 16, ground := Ground.gcOnly Go.Departure.lateStores }], guard := none }) (v := ?_) rfl (by kernel_rfl) (by kernel_rfl) (by kernel_rfl) (fun _ _ _ h => h) (by kernel_rfl) (Or.inl ⟨by rfl, ?_⟩) (by assumption) ?_
        rotate_left
        · intro w' hSw
          try dsimp only at hSw
          go_simp
          try with_reducible rfl
        simp only [Act.put, List.setIfInBounds_toArray, List.set_cons_zero, List.set_cons_succ]
        clear hW2
        generalize W.heap.size = B at *
      all_goals
        clear HC
        have HTOP : Hid (∀ t, upR rest (i - k) (n - k) leaf = some t → top = t) := htop
        clear htop
        generalize eok : (upR rest (i - k) (n - k) leaf).isSome = okk at *
        obtain ⟨HI, HO, HN⟩ := sum25 top htl
        refine wpAnyT_one (i := 16) (o := { dst := none, op := Op.store 25 (Operand.tmp 17) (Operand.tmp 71), type := 0, pos := "tree.go:79", after := #[{ on := 15, ground := Ground.data }, { on := 13, ground := Ground.data }, { on := 11, ground := Ground.chain }, { on := 0, ground := Ground.phase }, { on := 1, ground := Ground.phase }, { on := 2, ground := Ground.phase }, { on := 3, ground := Ground.phase }, { on := 4, ground := Ground.phase }, { on := 5, ground := Ground.phase }, { on := 6, ground := Ground.phase }, { on := 7, ground := Ground.phase }, { on := 8, ground := Ground.phase }, { on := 9, ground := Ground.phase }, { on := 10, ground := Ground.phase }, { on := 11, ground := Ground.phase }, { on := 12, ground := Ground.phase }, { on := 13, ground := Ground.phase }, { on := 14, ground := Ground.textOnly Go.Departure.lateStores }, { on := 15, ground := Ground.phase }], guard := none }) rfl (by kernel_rfl) (fun K hK => ?_)
        rw [if_pos (by rfl)]
        refine wp_store_row 25 _ _ rfl _ (top.map ub).toArray rfl rfl 25 _ hBk HI.out HO.out HN.out ?_
        have hZ2 := setRow_heap Z _ _ (top.map ub).toArray 25 _ hBk
        have hG3 := gr_row hG2 _ (top.map ub).toArray hBl
        refine hK.out _ _ (fun _ => hS _ hG3) (fun hHeld4 => ?_)
        clear hK K hHeld3 hHeld4
        simp only [Act.put]
        refine wpAnyT_one (i := 17) (o := { dst := some 18, op := Op.assign (Operand.tmp 72), type := 4, pos := "tree.go:79", after := #[{ on := 14, ground := Ground.data }, { on := 16, ground := Ground.chain }, { on := 0, ground := Ground.phase }, { on := 1, ground := Ground.phase }, { on := 2, ground := Ground.phase }, { on := 3, ground := Ground.phase }, { on := 4, ground := Ground.phase }, { on := 5, ground := Ground.phase }, { on := 6, ground := Ground.phase }, { on := 7, ground := Ground.phase }, { on := 8, ground := Ground.phase }, { on := 9, ground := Ground.phase }, { on := 10, ground := Ground.phase }, { on := 11, ground := Ground.phase }, { on := 12, ground := Ground.phase }, { on := 13, ground := Ground.phase }, { on := 14, ground := Ground.phase }, { on := 15, ground := Ground.phase }, { on := 16, ground := Ground.phase }], guard := none }) rfl (by kernel_rfl) (fun K hK => ?_)
        go_simp
        refine hK.out _ _ (fun h => absurd rfl h) (fun _ => ?_)
        clear hK K
        try simp only [Act.put, List.setIfInBounds_toArray, List.set_cons_zero, List.set_cons_succ]
        refine wpAnyT_done (by kernel_rfl) ?_ _
        refine NoPanic.normal ?_
        clear hS hBk hG2
        generalize Z.setRow _ _ = V at hZ2 hG3 ⊢
        go_wp2
        have hG0V : w.grownBy V.drew none := gr_drew (gr_trans (gr_drew hA) hG3)
        have hS2 : ∀ U : World, V.drew.grownBy U none → U.rangeAt B 0 (top.map ub) ∧ U.rangeAt g (o + rest.length * 32) (s.map ub) := fun U hU => ⟨fun j x hj => by
            have hb : U.heap[B]? = some (.cells (top.map ub).toArray 25 (0, 0)) := (hU.block _ (Array.getElem?_eq_some_iff.1 hZ2).1 (by simp)).trans hZ2
            rw [Nat.zero_add, cell_of_row U _ _ _ _ _ hb]; simpa using hj,
          fun j x hj => (gr_cell (gr_trans hG0V hU) (p := ⟨g, o + rest.length * 32 + j, none⟩) hg).trans (HRG.out j x hj)⟩
        have HtI : Hid ((Tryd.prog.info? 25).map (·.size) = some (top.map ub).length) := by
          show _ = _
          rw [HI.out]; simp
        refine wp_region_noPanic ?_
        refine wp_region_T (last := 8) (S := fun w' => w'.rangeAt B 0 (top.map ub) ∧ w'.rangeAt g (o + rest.length * 32) (s.map ub)) (by kernel_rfl) (hS2 _ (gr_refl _)) (fun hHeld => ?_)
        refine wpAnyT_take (i := 0) (oi := { dst := some 73, op := Op.move (Operand.tmp 0), type := 22, pos := "tree.go:80", after := #[], guard := none }) (v := ?_) rfl (by kernel_rfl) (by kernel_rfl) (by kernel_rfl) (fun _ _ _ h => h) (by kernel_rfl) (Or.inl ⟨by rfl, ?_⟩) (by assumption) ?_
        rotate_left
        · intro w' hSw
          try dsimp only at hSw
          go_simp
          try with_reducible rfl
        simp only [Act.put, List.setIfInBounds_toArray, List.set_cons_zero, List.set_cons_succ]
        refine wpAnyT_take (i := 1) (oi := { dst := some 74, op := Op.move (Operand.tmp 4), type := 38, pos := "tree.go:80", after := #[], guard := none }) (v := ?_) rfl (by kernel_rfl) (by kernel_rfl) (by kernel_rfl) (fun _ _ _ h => h) (by kernel_rfl) (Or.inl ⟨by rfl, ?_⟩) (by assumption) ?_
        rotate_left
        · intro w' hSw
          try dsimp only at hSw
          go_simp
          try with_reducible rfl
        simp only [Act.put, List.setIfInBounds_toArray, List.set_cons_zero, List.set_cons_succ]
        refine wpAnyT_take (i := 2) (oi := { dst := some 75, op := Op.move (Operand.tmp 12), type := 3, pos := "tree.go:80", after := #[], guard := none }) (v := ?_) rfl (by kernel_rfl) (by kernel_rfl) (by kernel_rfl) (fun _ _ _ h => h) (by kernel_rfl) (Or.inl ⟨by rfl, ?_⟩) (by assumption) ?_
        rotate_left
        · intro w' hSw
          try dsimp only at hSw
          go_simp
          try with_reducible rfl
        simp only [Act.put, List.setIfInBounds_toArray, List.set_cons_zero, List.set_cons_succ]
        refine wpAnyT_take (i := 3) (oi := { dst := some 76, op := Op.indexAddr 38 (Operand.tmp 74) (Operand.tmp 75), type := 0, pos := "tree.go:80", after := #[{ on := 1, ground := Ground.data }, { on := 2, ground := Ground.data }], guard := none }) (v := ?_) rfl (by kernel_rfl) (by kernel_rfl) (by kernel_rfl) (fun _ _ _ h => h) (by kernel_rfl) (Or.inl ⟨by rfl, ?_⟩) (by assumption) ?_
        rotate_left
        · intro w' hSw
          try dsimp only at hSw
          go_simp
          try with_reducible rfl
        simp only [Act.put, List.setIfInBounds_toArray, List.set_cons_zero, List.set_cons_succ]
        refine wpAnyT_take (i := 4) (oi := { dst := some 77, op := Op.load 25 (Operand.tmp 76), type := 25, pos := "tree.go:80", after := #[{ on := 3, ground := Ground.data }], guard := none }) (v := .agg (s.map ub).toArray) rfl (by kernel_rfl) (by kernel_rfl) (by kernel_rfl) (fun _ _ _ h => h) (by kernel_rfl) (yieldsIf_load_mid (by rfl) _ _ rfl g (o + rest.length * 32) rfl (s.map ub) _ (fun w' hSw => hSw.2) Tryd.underlying25 rfl HsI.out) (by assumption) ?_
        simp only [Act.put, List.setIfInBounds_toArray, List.set_cons_zero, List.set_cons_succ]
        refine wpAnyT_take (i := 5) (oi := { dst := some 78, op := Op.load 25 (Operand.tmp 17), type := 25, pos := "tree.go:80", after := #[], guard := none }) (v := .agg (top.map ub).toArray) rfl (by kernel_rfl) (by kernel_rfl) (by kernel_rfl) (fun _ _ _ h => h) (by kernel_rfl) (yieldsIf_load_mid (by rfl) _ _ rfl B 0 rfl (top.map ub) _ (fun w' hSw => hSw.1) Tryd.underlying25 rfl HtI.out) (by assumption) ?_
        simp only [Act.put, List.setIfInBounds_toArray, List.set_cons_zero, List.set_cons_succ]
        clear hHeld
        have HND : Hid (∀ U : World, V.drew.grownBy U none → Calls Tryd.prog 56 #[.pointer (some ⟨H, 0, none⟩), .int .u8 1, .agg ((s).map ub).toArray, .agg ((top).map ub).toArray] U fun e w' => e = .returned (.agg ((sha (nodeL 1 s top)).map ub).toArray) ∧ U.grownBy w' none) := fun U hU =>
          node_any H 1 s top hs htl U (RefAt.gr HH.out hHs (gr_trans hG0V hU)) (by have := (gr_trans hG0V hU).size; omega)
        refine wpAnyT_ca (i := 6) (j := 7) (k := 8) (R := sha (nodeL 1 s top)) (p := 19) (q := 79) rfl rfl rfl (by kernel_rfl) (by kernel_rfl) (by kernel_rfl) (by kernel_rfl) (by kernel_rfl) rfl rfl rfl rfl rfl rfl rfl (by decide) (by decide) (by simp) (by simp) hS2 (length_sha _) (fun U a' hU ha' K hK => ?_) (fun B2 Z2 hB2 hB2s hZ3 hG4 => ?_)
        · rcases ha' with rfl | ⟨x, rfl⟩
          · go_simp
            refine (HND.out U hU).mono ?_
            rintro e w' ⟨rfl, hG⟩
            exact hK.out _ hG
          · simp only [Act.put, List.setIfInBounds_toArray, List.set_cons_zero, List.set_cons_succ]
            go_simp
            refine (HND.out U hU).mono ?_
            rintro e w' ⟨rfl, hG⟩
            exact hK.out _ hG
        simp only [Act.put, List.setIfInBounds_toArray, List.set_cons_zero, List.set_cons_succ]
        refine NoPanic.normal ?_
        have hlt : w.heap.size + 1 < W.heap.size := (Array.getElem?_eq_some_iff.1 hB0).1
        have hlt2 : w.heap.size + 1 < V.heap.size := Nat.lt_of_lt_of_le hlt hG3.size
        have hB5 : Z2.heap[w.heap.size + 1]? = some (.cells (brow 32 []).toArray 25 (0, 0)) := (hG4.block _ hlt2 (by simp)).trans ((hG3.block _ hlt (by simp)).trans hB0)
        have hG05 := gr_trans hG0V hG4
        clear hlt hlt2 hS2 HND hZ2 hG3 hG4 hG0V hA hL0 hB0 HI HO HN hB2 hB2s HtI HsI HlI HRG
        obtain ⟨HI, HO, HN⟩ := sum25 _ (length_sha (nodeL 1 s top))
        generalize eX : ((sha (nodeL 1 s top)).map ub).toArray = X at *
        generalize (leaf.map ub).toArray = X1
        generalize (top.map ub).toArray = X2
        generalize (s.map ub).toArray = X3
        go_wp2_with (first | refine wpList_load_row rfl 25 _ rfl B2 rfl 25 _ (0, 0) _ hZ3 Tryd.underlying25 rfl HI.out ?_ | refine wpList_store_row rfl 25 _ _ rfl (w.heap.size + 1) X rfl rfl 25 _ hB5 HI.out HO.out HN.out ?_)
        refine bodyPost_ret (results_ct Tryd.results67 _ _ (w.heap.size + 1) 25 _ (0, 0) _ _ rfl rfl (setRow_heap _ _ _ _ 25 _ hB5) Tryd.underlying25 rfl HI.out) rfl ⟨_, length_sha (nodeL 1 s top), ?_, ?_, gr_row hG05 _ _ (by omega)⟩
        · rw [HUP.out, Option.isSome_map, eok, eX]; rfl
        · intro t ht
          rw [HUP.out] at ht
          obtain ⟨t', h1, rfl⟩ := Option.map_eq_some_iff.1 ht
          rw [HTOP.out t' h1]
end Go.Proofs.YtplhlhjakapaaaaDoor
