/-
  rootsref's both: the small cases.
-/
import Derived.Test.YtplhlhjakapaaaaDoorSs
namespace Go.Proofs.YtplhlhjakapaaaaDoor
open Go Go.RowKit

theorem results_cct {P : Program} {fn : Func} {p q r : Tmp} {ty : TypeId} (h : fn.results = #[.cell p ty, .cell q ty, .tmp r]) (tmps : Array Value) (w : World) (g1 g2 : Nat) (t : TypeId) (cs ds : Array Value) (fr fr' : Nat × Nat) (d : TypeDesc) (y : Value)
    (hr : tmps.getD r undef = y) (hp : tmps.getD p undef = .pointer (some ⟨g1, 0, none⟩)) (hq : tmps.getD q undef = .pointer (some ⟨g2, 0, none⟩)) (hg1 : w.heap[g1]? = some (.cells cs t fr)) (hg2 : w.heap[g2]? = some (.cells ds t fr'))
    (hu : P.underlying ty = some d) (hd : (match d with | .struct _ | .array _ _ => true | _ => false) = true) (hi : (P.info? ty).map (·.size) = some cs.size) (hi' : (P.info? ty).map (·.size) = some ds.size) :
    (results fn tmps).run P w = .ok (.tuple #[.agg cs, .agg ds, y]) w := by
  have hp' : tmps[p]?.getD undef = .pointer (some ⟨g1, 0, none⟩) := by simpa using hp
  have hq' : tmps[q]?.getD undef = .pointer (some ⟨g2, 0, none⟩) := by simpa using hq
  have hr' : tmps[r]?.getD undef = y := by simpa using hr
  simp [results, h, hp', hq', hr', asAddr, run_loadVar_row w g1 t ty cs fr d hg1 hu hd hi, run_loadVar_row w g2 t ty ds fr' d hg2 hu hd hi']

/-- The world in which both begins: the hash in a box, two variables for what is handed back. -/
structure Begun (w W : World) (a : List UInt8) : Prop where
  gr : w.grownBy W none
  box : W.heap[w.heap.size]? = some (.cells (a.map ub).toArray 25 (0, 0))
  one : W.heap[w.heap.size + 1]? = some (.cells (brow 32 []).toArray 25 (0, 0))
  two : W.heap[w.heap.size + 2]? = some (.cells (brow 32 []).toArray 25 (0, 0))
theorem begun (w : World) (a : List UInt8) : Begun w (((w.alloc (Obj.cells (a.map ub).toArray 25)).alloc (Obj.cells (brow 32 []).toArray 25)).alloc (Obj.cells (brow 32 []).toArray 25)) a := by
  have hs : ((w.alloc (Obj.cells (a.map ub).toArray 25)).alloc (Obj.cells (brow 32 []).toArray 25)).heap.size = w.heap.size + 2 := by simp
  refine ⟨gr_trans (gr_trans (gr_alloc _ _) (gr_alloc _ _)) (gr_alloc _ _), ?_, ?_, ?_⟩
  · exact ((gr_alloc _ _).block _ (by omega) (by simp)).trans (heap_alloc2_old _ _ _)
  · exact ((gr_alloc _ _).block _ (by omega) (by simp)).trans (heap_alloc2_new _ _ _)
  · rw [← hs]; exact heap_alloc_new _ _

theorem Begun.range {w W V : World} {a : List UInt8} (h : Begun w W a) (hV : ∀ k, k ≠ w.heap.size + 1 → k ≠ w.heap.size + 2 → V.heap[k]? = W.drew.heap[k]?) : V.rangeAt w.heap.size 0 (a.map ub) := fun j x hj => by
  have hb : V.heap[w.heap.size]? = some (.cells (a.map ub).toArray 25 (0, 0)) := (hV _ (by omega) (by omega)).trans h.box
  rw [Nat.zero_add, cell_of_row V _ _ _ _ _ hb]; simpa using hj

set_option maxHeartbeats 8000000 in
set_option maxRecDepth 100000 in
theorem both_known (H : Nat) (rs : List (List UInt8)) (n : Nat) (a : List UInt8) (v : Value) (w : World) (hl : a.length = 32) (hv : SumsIs w v rs.reverse) (hr : rs.length < 1000000000) :
    Calls Tryd.prog 69 #[.pointer (some ⟨H, 0, none⟩), .int .i64 (n : Int), .int .i64 (n : Int), v, .agg (a.map ub).toArray, .bool true] w fun e w' => e = .returned (.tuple #[.agg ((a).map ub).toArray, .agg ((a).map ub).toArray, .bool rs.isEmpty]) ∧ w.grownBy w' none := by
  have HaI : Hid ((Tryd.prog.info? 25).map (·.size) = some (a.map ub).length) := by
    show _ = _
    rw [info25' (R := (a.map ub).toArray) rfl hl]; simp
  obtain ⟨_, sp, cap, rfl, _, _⟩ := hv
  rw [List.length_reverse]
  have hb : decide ((rs.length : Int) = 0) = rs.isEmpty := by cases rs <;> simp <;> omega
  have HB : Hid (decide ((rs.length : Int) = 0) = rs.isEmpty) := hb
  clear hb
  go_enter Tryd.func69, Tryd.ntmps69
  go_wp2_with fail
  have hBG := begun w a
  change Code.wp _ _ _ _ (((w.alloc (Obj.cells (a.map ub).toArray 25)).alloc (Obj.cells (brow 32 []).toArray 25)).alloc (Obj.cells (brow 32 []).toArray 25))
  generalize ((w.alloc (Obj.cells (a.map ub).toArray 25)).alloc (Obj.cells (brow 32 []).toArray 25)).alloc (Obj.cells (brow 32 []).toArray 25) = W at hBG ⊢
  refine wp_region_noPanic ?_
  refine wp_region_T (last := 7) (S := fun w' => w'.rangeAt w.heap.size 0 (a.map ub)) (by kernel_rfl) (hBG.range (fun _ _ _ => rfl)) (fun hHeld => ?_)
  refine wpAnyT_take (i := 0) (oi := { dst := some 30, op := Op.load 25 (Operand.tmp 10), type := 25, pos := "tree.go:98", after := #[], guard := none }) (v := .agg (a.map ub).toArray) rfl (by kernel_rfl) (by kernel_rfl) (by kernel_rfl) (fun _ _ _ h => h) (by kernel_rfl) (yieldsIf_load_mid (by rfl) _ _ rfl w.heap.size 0 rfl (a.map ub) _ (fun w' hSw => hSw) Tryd.underlying25 rfl HaI.out) (by assumption) ?_
  simp only [Act.put, List.setIfInBounds_toArray, List.set_cons_zero, List.set_cons_succ]
  refine wpAnyT_take (i := 1) (oi := { dst := some 31, op := Op.load 25 (Operand.tmp 10), type := 25, pos := "tree.go:98", after := #[{ on := 5, ground := Ground.gcOnly Go.Departure.lateStores }], guard := none }) (v := .agg (a.map ub).toArray) rfl (by kernel_rfl) (by kernel_rfl) (by kernel_rfl) (fun _ _ _ h => h) (by kernel_rfl) (yieldsIf_load_mid (by rfl) _ _ rfl w.heap.size 0 rfl (a.map ub) _ (fun w' hSw => hSw) Tryd.underlying25 rfl HaI.out) (by assumption) ?_
  simp only [Act.put, List.setIfInBounds_toArray, List.set_cons_zero, List.set_cons_succ]
  refine wpAnyT_take (i := 2) (oi := { dst := some 32, op := Op.move (Operand.tmp 3), type := 38, pos := "tree.go:98", after := #[], guard := none }) (v := ?_) rfl (by kernel_rfl) (by kernel_rfl) (by kernel_rfl) (fun _ _ _ h => h) (by kernel_rfl) (Or.inl ⟨by rfl, ?_⟩) (by assumption) ?_
  rotate_left
  · intro w' hSw
    try dsimp only at hSw
    go_simp
    try with_reducible rfl
  simp only [Act.put, List.setIfInBounds_toArray, List.set_cons_zero, List.set_cons_succ]
  refine wpAnyT_take (i := 3) (oi := { dst := some 33, op := Op.call { callee := Callee.builtin Builtin.len, args := #[Operand.tmp 32], argTypes := #[38] }, type := 3, pos := "tree.go:98", after := #[{ on := 2, ground := Ground.data }], guard := none }) (v := ?_) rfl (by kernel_rfl) (by kernel_rfl) (by kernel_rfl) (fun _ _ _ h => h) (by kernel_rfl) (Or.inl ⟨by rfl, ?_⟩) (by assumption) ?_
  rotate_left
  · intro w' hSw
    try dsimp only at hSw
    go_simp
    try with_reducible rfl
  simp only [Act.put, List.setIfInBounds_toArray, List.set_cons_zero, List.set_cons_succ]
  refine wpAnyT_take (i := 4) (oi := { dst := some 34, op := Op.binOp BinOp.eql 3 (Operand.tmp 33) (Operand.const (Value.int IntKind.i64 0)) 3, type := 4, pos := "tree.go:98", after := #[{ on := 3, ground := Ground.data }, { on := 6, ground := Ground.gcOnly Go.Departure.lateStores }], guard := none }) (v := ?_) rfl (by kernel_rfl) (by kernel_rfl) (by kernel_rfl) (fun _ _ _ h => h) (by kernel_rfl) (Or.inl ⟨by rfl, ?_⟩) (by assumption) ?_
  rotate_left
  · intro w' hSw
    try dsimp only at hSw
    go_simp
    try with_reducible rfl
  simp only [Act.put, List.setIfInBounds_toArray, List.set_cons_zero, List.set_cons_succ]
  refine wpAnyT_ss (i := 5) (j := 6) (k := 7) (p1 := 12) (q1 := 30) (p2 := 13) (q2 := 31) rfl rfl rfl (by kernel_rfl) (by kernel_rfl) (by kernel_rfl) (by kernel_rfl) rfl rfl rfl rfl rfl rfl rfl rfl 14 rfl (.bool ((rs.length : Int) == 0)) rfl (w.heap.size + 1) (w.heap.size + 2) a a hl hl (by omega) rfl rfl rfl rfl hBG.one hBG.two (fun V hV => hBG.range hV) (fun V hTW => ?_)
  try simp only [Act.put, List.setIfInBounds_toArray, List.set_cons_zero, List.set_cons_succ]
  obtain ⟨HIx, _, _⟩ := sum25 a hl
  obtain ⟨HIy, _, _⟩ := sum25 a hl
  refine NoPanic.normal ?_
  have hGF := hTW.gr w (gr_drew hBG.gr) (by omega) (by omega)
  have hV1 := hTW.one
  have hV2 := hTW.two
  clear hTW hBG
  go_wp2
  exact bodyPost_ret (results_cct Tryd.results69 _ _ (w.heap.size + 1) (w.heap.size + 2) 25 _ _ (0, 0) (0, 0) _ _ rfl rfl rfl hV1 hV2 Tryd.underlying25 rfl HIx.out HIy.out) rfl ⟨by rw [← HB.out]; rfl, hGF⟩

set_option maxHeartbeats 8000000 in
set_option maxRecDepth 100000 in
theorem both_short (H : Nat) (rs : List (List UInt8)) (n : Nat) (a : List UInt8) (v : Value) (w : World) (hl : a.length = 32) (hv : SumsIs w v rs.reverse) (hne : rs.length ≠ 1) :
    Calls Tryd.prog 69 #[.pointer (some ⟨H, 0, none⟩), .int .i64 (n : Int), .int .i64 (n : Int), v, .agg (a.map ub).toArray, .bool false] w fun e w' => e = .returned (.tuple #[.agg ((a).map ub).toArray, .agg ((a).map ub).toArray, .bool false]) ∧ w.grownBy w' none := by
  have HaI : Hid ((Tryd.prog.info? 25).map (·.size) = some (a.map ub).length) := by
    show _ = _
    rw [info25' (R := (a.map ub).toArray) rfl hl]; simp
  obtain ⟨_, sp, cap, rfl, _, _⟩ := hv
  rw [List.length_reverse]
  have dn : ((rs.length : Int) != 1) = true := by simp; omega
  have dn' : ((rs.length : Int) == 1) = false := by rw [beq_eq_false_iff_ne]; omega
  go_enter Tryd.func69, Tryd.ntmps69
  go_wp2_with fail
  have hBG := begun w a
  change Code.wp _ _ _ _ (((w.alloc (Obj.cells (a.map ub).toArray 25)).alloc (Obj.cells (brow 32 []).toArray 25)).alloc (Obj.cells (brow 32 []).toArray 25))
  generalize ((w.alloc (Obj.cells (a.map ub).toArray 25)).alloc (Obj.cells (brow 32 []).toArray 25)).alloc (Obj.cells (brow 32 []).toArray 25) = W at hBG ⊢
  refine wp_region_noPanic ?_
  refine wp_region_T (last := 4) (S := fun w' => w'.rangeAt w.heap.size 0 (a.map ub)) (by kernel_rfl) (hBG.range (fun _ _ _ => rfl)) (fun hHeld => ?_)
  refine wpAnyT_take (i := 0) (oi := { dst := some 38, op := Op.load 25 (Operand.tmp 10), type := 25, pos := "tree.go:101", after := #[], guard := none }) (v := .agg (a.map ub).toArray) rfl (by kernel_rfl) (by kernel_rfl) (by kernel_rfl) (fun _ _ _ h => h) (by kernel_rfl) (yieldsIf_load_mid (by rfl) _ _ rfl w.heap.size 0 rfl (a.map ub) _ (fun w' hSw => hSw) Tryd.underlying25 rfl HaI.out) (by assumption) ?_
  simp only [Act.put, List.setIfInBounds_toArray, List.set_cons_zero, List.set_cons_succ]
  refine wpAnyT_take (i := 1) (oi := { dst := some 39, op := Op.load 25 (Operand.tmp 10), type := 25, pos := "tree.go:101", after := #[{ on := 2, ground := Ground.gcOnly Go.Departure.lateStores }], guard := none }) (v := .agg (a.map ub).toArray) rfl (by kernel_rfl) (by kernel_rfl) (by kernel_rfl) (fun _ _ _ h => h) (by kernel_rfl) (yieldsIf_load_mid (by rfl) _ _ rfl w.heap.size 0 rfl (a.map ub) _ (fun w' hSw => hSw) Tryd.underlying25 rfl HaI.out) (by assumption) ?_
  simp only [Act.put, List.setIfInBounds_toArray, List.set_cons_zero, List.set_cons_succ]
  refine wpAnyT_ss (i := 2) (j := 3) (k := 4) (p1 := 12) (q1 := 38) (p2 := 13) (q2 := 39) rfl rfl rfl (by kernel_rfl) (by kernel_rfl) (by kernel_rfl) (by kernel_rfl) rfl rfl rfl rfl rfl rfl rfl rfl 14 rfl (.bool false) rfl (w.heap.size + 1) (w.heap.size + 2) a a hl hl (by omega) rfl rfl rfl rfl hBG.one hBG.two (fun V hV => hBG.range hV) (fun V hTW => ?_)
  try simp only [Act.put, List.setIfInBounds_toArray, List.set_cons_zero, List.set_cons_succ]
  obtain ⟨HIx, _, _⟩ := sum25 a hl
  obtain ⟨HIy, _, _⟩ := sum25 a hl
  refine NoPanic.normal ?_
  have hGF := hTW.gr w (gr_drew hBG.gr) (by omega) (by omega)
  have hV1 := hTW.one
  have hV2 := hTW.two
  clear hTW hBG
  go_wp2
  exact bodyPost_ret (results_cct Tryd.results69 _ _ (w.heap.size + 1) (w.heap.size + 2) 25 _ _ (0, 0) (0, 0) _ _ rfl rfl rfl hV1 hV2 Tryd.underlying25 rfl HIx.out HIy.out) rfl ⟨rfl, hGF⟩

set_option maxHeartbeats 8000000 in
set_option maxRecDepth 100000 in
theorem both_none (H : Nat) (m n : Nat) (a : List UInt8) (f : Bool) (v : Value) (w : World) (hl : a.length = 32) (hv : SumsIs w v []) (hmn : m ≠ n) :
    Calls Tryd.prog 69 #[.pointer (some ⟨H, 0, none⟩), .int .i64 (m : Int), .int .i64 (n : Int), v, .agg (a.map ub).toArray, .bool f] w fun e w' => e = .returned (.tuple #[.agg ((a).map ub).toArray, .agg ((a).map ub).toArray, .bool false]) ∧ w.grownBy w' none := by
  have HaI : Hid ((Tryd.prog.info? 25).map (·.size) = some (a.map ub).length) := by
    show _ = _
    rw [info25' (R := (a.map ub).toArray) rfl hl]; simp
  obtain ⟨_, sp, cap, rfl, _, _⟩ := hv
  have d1 : ((m : Int) == (n : Int)) = false := by rw [beq_eq_false_iff_ne]; omega
  have d1' : (m == n) = false := by rw [beq_eq_false_iff_ne]; omega
  go_enter Tryd.func69, Tryd.ntmps69
  go_wp2_with fail
  have hBG := begun w a
  change Code.wp _ _ _ _ (((w.alloc (Obj.cells (a.map ub).toArray 25)).alloc (Obj.cells (brow 32 []).toArray 25)).alloc (Obj.cells (brow 32 []).toArray 25))
  generalize ((w.alloc (Obj.cells (a.map ub).toArray 25)).alloc (Obj.cells (brow 32 []).toArray 25)).alloc (Obj.cells (brow 32 []).toArray 25) = W at hBG ⊢
  refine wp_region_noPanic ?_
  refine wp_region_T (last := 4) (S := fun w' => w'.rangeAt w.heap.size 0 (a.map ub)) (by kernel_rfl) (hBG.range (fun _ _ _ => rfl)) (fun hHeld => ?_)
  refine wpAnyT_take (i := 0) (oi := { dst := some 49, op := Op.load 25 (Operand.tmp 10), type := 25, pos := "tree.go:106", after := #[], guard := none }) (v := .agg (a.map ub).toArray) rfl (by kernel_rfl) (by kernel_rfl) (by kernel_rfl) (fun _ _ _ h => h) (by kernel_rfl) (yieldsIf_load_mid (by rfl) _ _ rfl w.heap.size 0 rfl (a.map ub) _ (fun w' hSw => hSw) Tryd.underlying25 rfl HaI.out) (by assumption) ?_
  simp only [Act.put, List.setIfInBounds_toArray, List.set_cons_zero, List.set_cons_succ]
  refine wpAnyT_take (i := 1) (oi := { dst := some 50, op := Op.load 25 (Operand.tmp 10), type := 25, pos := "tree.go:106", after := #[{ on := 2, ground := Ground.gcOnly Go.Departure.lateStores }], guard := none }) (v := .agg (a.map ub).toArray) rfl (by kernel_rfl) (by kernel_rfl) (by kernel_rfl) (fun _ _ _ h => h) (by kernel_rfl) (yieldsIf_load_mid (by rfl) _ _ rfl w.heap.size 0 rfl (a.map ub) _ (fun w' hSw => hSw) Tryd.underlying25 rfl HaI.out) (by assumption) ?_
  simp only [Act.put, List.setIfInBounds_toArray, List.set_cons_zero, List.set_cons_succ]
  refine wpAnyT_ss (i := 2) (j := 3) (k := 4) (p1 := 12) (q1 := 49) (p2 := 13) (q2 := 50) rfl rfl rfl (by kernel_rfl) (by kernel_rfl) (by kernel_rfl) (by kernel_rfl) rfl rfl rfl rfl rfl rfl rfl rfl 14 rfl (.bool false) rfl (w.heap.size + 1) (w.heap.size + 2) a a hl hl (by omega) rfl rfl rfl rfl hBG.one hBG.two (fun V hV => hBG.range hV) (fun V hTW => ?_)
  try simp only [Act.put, List.setIfInBounds_toArray, List.set_cons_zero, List.set_cons_succ]
  obtain ⟨HIx, _, _⟩ := sum25 a hl
  obtain ⟨HIy, _, _⟩ := sum25 a hl
  refine NoPanic.normal ?_
  have hGF := hTW.gr w (gr_drew hBG.gr) (by omega) (by omega)
  have hV1 := hTW.one
  have hV2 := hTW.two
  clear hTW hBG
  go_wp2
  exact bodyPost_ret (results_cct Tryd.results69 _ _ (w.heap.size + 1) (w.heap.size + 2) 25 _ _ (0, 0) (0, 0) _ _ rfl rfl rfl hV1 hV2 Tryd.underlying25 rfl HIx.out HIy.out) rfl ⟨rfl, hGF⟩

set_option maxHeartbeats 8000000 in
set_option maxRecDepth 100000 in
theorem both_single (H : Nat) (s : List UInt8) (n : Nat) (a : List UInt8) (v : Value) (w : World) (hv : SumsIs w v [s]) :
    Calls Tryd.prog 69 #[.pointer (some ⟨H, 0, none⟩), .int .i64 (n : Int), .int .i64 (n : Int), v, .agg (a.map ub).toArray, .bool false] w fun e w' => e = .returned (.tuple #[.agg ((s).map ub).toArray, .agg ((s).map ub).toArray, .bool true]) ∧ w.grownBy w' none := by
  have hs : s.length = 32 := hv.1 s (by simp)
  have HsI : Hid ((Tryd.prog.info? 25).map (·.size) = some (s.map ub).length) := by
    show _ = _
    rw [info25' (R := (s.map ub).toArray) rfl hs]; simp
  obtain ⟨_, sp, cap, rfl, _, hsp⟩ := hv
  obtain ⟨g, o, rfl, hg, hrg⟩ := hsp (by simp)
  have hr := hrg 0 s rfl
  rw [Nat.zero_mul, Nat.add_zero] at hr
  clear hsp hrg
  go_enter Tryd.func69, Tryd.ntmps69
  go_wp2_with fail
  have hBG := begun w a
  change Code.wp _ _ _ _ (((w.alloc (Obj.cells (a.map ub).toArray 25)).alloc (Obj.cells (brow 32 []).toArray 25)).alloc (Obj.cells (brow 32 []).toArray 25))
  generalize ((w.alloc (Obj.cells (a.map ub).toArray 25)).alloc (Obj.cells (brow 32 []).toArray 25)).alloc (Obj.cells (brow 32 []).toArray 25) = W at hBG ⊢
  have hSS : ∀ V : World, (∀ k, k ≠ w.heap.size + 1 → k ≠ w.heap.size + 2 → V.heap[k]? = W.drew.heap[k]?) → V.rangeAt g o (s.map ub) := fun V hV j x hj => by
    have e : V.cell? ⟨g, o + j, none⟩ = W.cell? ⟨g, o + j, none⟩ := by
      unfold World.cell?
      rw [hV g (by omega) (by omega)]
      rfl
    rw [e, gr_cell hBG.gr (p := ⟨g, o + j, none⟩) hg]
    exact hr j x hj
  refine wp_region_noPanic ?_
  refine wp_region_T (last := 8) (S := fun w' => w'.rangeAt g o (s.map ub)) (by kernel_rfl) (hSS _ (fun _ _ _ => rfl)) (fun hHeld => ?_)
  refine wpAnyT_take (i := 0) (oi := { dst := some 40, op := Op.move (Operand.tmp 3), type := 38, pos := "tree.go:103", after := #[], guard := none }) (v := ?_) rfl (by kernel_rfl) (by kernel_rfl) (by kernel_rfl) (fun _ _ _ h => h) (by kernel_rfl) (Or.inl ⟨by rfl, ?_⟩) (by assumption) ?_
  rotate_left
  · intro w' hSw
    try dsimp only at hSw
    go_simp
    try with_reducible rfl
  simp only [Act.put, List.setIfInBounds_toArray, List.set_cons_zero, List.set_cons_succ]
  refine wpAnyT_take (i := 1) (oi := { dst := some 41, op := Op.indexAddr 38 (Operand.tmp 40) (Operand.const (Value.int IntKind.i64 0)), type := 0, pos := "tree.go:103", after := #[{ on := 0, ground := Ground.data }], guard := none }) (v := ?_) rfl (by kernel_rfl) (by kernel_rfl) (by kernel_rfl) (fun _ _ _ h => h) (by kernel_rfl) (Or.inl ⟨by rfl, ?_⟩) (by assumption) ?_
  rotate_left
  · intro w' hSw
    try dsimp only at hSw
    go_simp
    try with_reducible rfl
  simp only [Act.put, List.setIfInBounds_toArray, List.set_cons_zero, List.set_cons_succ]
  refine wpAnyT_take (i := 2) (oi := { dst := some 42, op := Op.load 25 (Operand.tmp 41), type := 25, pos := "tree.go:103", after := #[{ on := 1, ground := Ground.data }], guard := none }) (v := .agg (s.map ub).toArray) rfl (by kernel_rfl) (by kernel_rfl) (by kernel_rfl) (fun _ _ _ h => h) (by kernel_rfl) (yieldsIf_load_mid (by rfl) _ _ rfl g o rfl (s.map ub) _ (fun w' hSw => hSw) Tryd.underlying25 rfl HsI.out) (by assumption) ?_
  simp only [Act.put, List.setIfInBounds_toArray, List.set_cons_zero, List.set_cons_succ]
  refine wpAnyT_take (i := 3) (oi := { dst := some 43, op := Op.move (Operand.tmp 3), type := 38, pos := "tree.go:103", after := #[{ on := 6, ground := Ground.gcOnly Go.Departure.lateStores }], guard := none }) (v := ?_) rfl (by kernel_rfl) (by kernel_rfl) (by kernel_rfl) (fun _ _ _ h => h) (by kernel_rfl) (Or.inl ⟨by rfl, ?_⟩) (by assumption) ?_
  rotate_left
  · intro w' hSw
    try dsimp only at hSw
    go_simp
    try with_reducible rfl
  simp only [Act.put, List.setIfInBounds_toArray, List.set_cons_zero, List.set_cons_succ]
  refine wpAnyT_take (i := 4) (oi := { dst := some 44, op := Op.indexAddr 38 (Operand.tmp 43) (Operand.const (Value.int IntKind.i64 0)), type := 0, pos := "tree.go:103", after := #[{ on := 3, ground := Ground.data }, { on := 6, ground := Ground.gcOnly Go.Departure.lateStores }], guard := none }) (v := ?_) rfl (by kernel_rfl) (by kernel_rfl) (by kernel_rfl) (fun _ _ _ h => h) (by kernel_rfl) (Or.inl ⟨by rfl, ?_⟩) (by assumption) ?_
  rotate_left
  · intro w' hSw
    try dsimp only at hSw
    go_simp
    try with_reducible rfl
  simp only [Act.put, List.setIfInBounds_toArray, List.set_cons_zero, List.set_cons_succ]
  refine wpAnyT_take (i := 5) (oi := { dst := some 45, op := Op.load 25 (Operand.tmp 44), type := 25, pos := "tree.go:103", after := #[{ on := 4, ground := Ground.data }, { on := 6, ground := Ground.gcOnly Go.Departure.lateStores }], guard := none }) (v := .agg (s.map ub).toArray) rfl (by kernel_rfl) (by kernel_rfl) (by kernel_rfl) (fun _ _ _ h => h) (by kernel_rfl) (yieldsIf_load_mid (by rfl) _ _ rfl g o rfl (s.map ub) _ (fun w' hSw => hSw) Tryd.underlying25 rfl HsI.out) (by assumption) ?_
  simp only [Act.put, List.setIfInBounds_toArray, List.set_cons_zero, List.set_cons_succ]
  refine wpAnyT_ss (i := 6) (j := 7) (k := 8) (p1 := 12) (q1 := 42) (p2 := 13) (q2 := 45) rfl rfl rfl (by kernel_rfl) (by kernel_rfl) (by kernel_rfl) (by kernel_rfl) rfl rfl rfl rfl rfl rfl rfl rfl 14 rfl (.bool true) rfl (w.heap.size + 1) (w.heap.size + 2) s s hs hs (by omega) rfl rfl rfl rfl hBG.one hBG.two (fun V hV => hSS V hV) (fun V hTW => ?_)
  try simp only [Act.put, List.setIfInBounds_toArray, List.set_cons_zero, List.set_cons_succ]
  obtain ⟨HIx, _, _⟩ := sum25 s hs
  obtain ⟨HIy, _, _⟩ := sum25 s hs
  refine NoPanic.normal ?_
  have hGF := hTW.gr w (gr_drew hBG.gr) (by omega) (by omega)
  have hV1 := hTW.one
  have hV2 := hTW.two
  clear hTW hBG
  go_wp2
  exact bodyPost_ret (results_cct Tryd.results69 _ _ (w.heap.size + 1) (w.heap.size + 2) 25 _ _ (0, 0) (0, 0) _ _ rfl rfl rfl hV1 hV2 Tryd.underlying25 rfl HIx.out HIy.out) rfl ⟨rfl, hGF⟩

end Go.Proofs.YtplhlhjakapaaaaDoor
