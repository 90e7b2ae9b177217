import Derived.Test.YtjgmmdgcknnlpaaDoorClimb

/-
  Laws for the lists of a region's operations, guarded or not: a whole array loaded, two hashes compared.
-/
namespace Go.Proofs.YtjgmmdgcknnlpaaDoor
open Go Go.RowKit

theorem wpList_load_g {P : Program} {ops : Array Oper} {rest : List Oper} {o : Oper} {a : Act} {w : World} {Q : Exit → Act → World → Prop} (hw : Region.wanted o (yielded ops a.tmps) = true) (ty : TypeId) (x : Operand) (ho : o.op = .load ty x)
    (g : Nat) (hx : a.eval x = .pointer (some ⟨g, 0, none⟩)) (t : TypeId) (cs : Array Value) (fr : Nat × Nat) (d : TypeDesc) (hg : w.heap[g]? = some (.cells cs t fr))
    (hu : P.underlying ty = some d) (hd : (match d with | .struct _ | .array _ _ => true | _ => false) = true) (hi : (P.info? ty).map (·.size) = some cs.size)
    (h : wpList P ops Q rest (a.put o.dst (.agg cs)) w) : wpList P ops Q (o :: rest) a w := by
  unfold wpList
  rw [if_pos hw]
  refine Or.inl ?_
  unfold Oper.wp execOp
  simp only [ho, hx, Instr.loadAt, Instr.sureAddr, Sem.run_bind, Sem.run_pure, Result.andThen_ok, run_loadVar_row w g t ty cs fr d hg hu hd hi]
  exact h

theorem guard25 : Tryd.prog.eqGuardType Tryd.prog.depth 25 = false := by kernel_rfl

theorem wpList_eq25 {ops : Array Oper} {rest : List Oper} {o : Oper} {a : Act} {w : World} {Q : Exit → Act → World → Prop} (hw : Region.wanted o (yielded ops a.tmps) = true) (x y : Operand) (tt : TypeId) (ho : o.op = .binOp .eql 25 x y tt)
    (p q : List UInt8) (X Y : Array Value) (hX : (p.map ub).toArray = X) (hY : (q.map ub).toArray = Y) (hp : p.length = 32) (hq : q.length = 32) (hx : a.eval x = .agg X) (hy : a.eval y = .agg Y)
    (h : wpList Tryd.prog ops Q rest (a.put o.dst (.bool (p == q))) w) : wpList Tryd.prog ops Q (o :: rest) a w := by
  unfold wpList
  rw [if_pos hw]
  refine Or.inl ?_
  unfold Oper.wp execOp
  subst hX; subst hY
  simp only [ho, hx, hy, Sem.run_bind, run_eqGuard_agg w .eql 25 x y _ _ guard25, Result.andThen_ok, run_eq25 w p q hp hq, Sem.run_pure]
  exact h
end Go.Proofs.YtjgmmdgcknnlpaaDoor

/-
  tree.Included's contract.
-/
namespace Go.Proofs.YtjgmmdgcknnlpaaDoor
open Go Go.RowKit

/-- Is a path (its last hash first) taken from leaf i of n to the root? -/
def inclB (rs : List (List UInt8)) (i n : Int) (leaf root : List UInt8) : Bool := decide (0 ≤ i ∧ i < n) && (upR rs i.toNat n.toNat leaf == some root)

set_option maxHeartbeats 4000000 in
set_option maxRecDepth 100000 in
theorem tincl_any (ps : List (List UInt8)) (i n : Int) (leaf root : List UInt8) (v : Value) (w : World) (hl : leaf.length = 32) (hr : root.length = 32) (hn : n < 9223372036854775808) (hw : 1 < w.heap.size) (hT : Tab w) (hv : SumsIs w v ps) (hp : ps.length < 1000000000) :
    Calls Tryd.prog 65 #[.agg (leaf.map ub).toArray, .int .i64 i, .int .i64 n, v, .agg (root.map ub).toArray] w fun e w' => e = .returned (.bool (inclB ps.reverse i n leaf root)) ∧ w.grownBy w' none := by
  have HIl := info25' (R := (leaf.map ub).toArray) rfl hl
  have HIr := info25' (R := (root.map ub).toArray) rfl hr
  have HIl' : Hid _ := HIl
  have HIr' : Hid _ := HIr
  have HV : Hid (SumsIs w v ps) := hv
  have HT : Hid (Tab w) := hT
  clear hv hT HIl HIr
  by_cases h0 : i < 0
  · have e0 : inclB ps.reverse i n leaf root = false := by unfold inclB; rw [decide_eq_false (by omega)]; rfl
    have d0 : decide (i < 0) = true := by simp; omega
    rw [e0]; clear e0
    generalize eL : (leaf.map ub).toArray = L at *
    generalize eT : (root.map ub).toArray = T at *
    go_enter Tryd.func65, Tryd.ntmps65
    go_wp2
    go_ret
    exact ⟨rfl, gr_trans (gr_alloc w (Obj.cells L 25)) (gr_alloc _ (Obj.cells T 25))⟩
  have d0 : decide (i < 0) = false := by simp; omega
  by_cases h1 : n ≤ i
  · have e0 : inclB ps.reverse i n leaf root = false := by unfold inclB; rw [decide_eq_false (by omega)]; rfl
    have d1 : decide (i ≥ n) = true := by simp; omega
    rw [e0]; clear e0
    generalize eL : (leaf.map ub).toArray = L at *
    generalize eT : (root.map ub).toArray = T at *
    go_enter Tryd.func65, Tryd.ntmps65
    go_wp2
    go_ret
    exact ⟨rfl, gr_trans (gr_alloc w (Obj.cells L 25)) (gr_alloc _ (Obj.cells T 25))⟩
  have d1 : decide (i ≥ n) = false := by simp; omega
  have e0 : inclB ps.reverse i n leaf root = (upR ps.reverse i.toNat n.toNat leaf == some root) := by unfold inclB; rw [decide_eq_true (by omega), Bool.true_and]
  rw [e0]; clear e0
  obtain ⟨k, hk⟩ : ∃ k : Nat, i = (k : Int) := ⟨i.toNat, by omega⟩
  obtain ⟨m, hm⟩ : ∃ m : Nat, n = (m : Int) := ⟨n.toNat, by omega⟩
  subst hk; subst hm
  rw [Int.toNat_natCast, Int.toNat_natCast]
  have hkm : k < m := by omega
  have hm63 : m < 9223372036854775808 := by omega
  clear h0 h1 hn
  have HC : Hid (∀ (V : World), 1 < V.heap.size → Tab V → SumsIs V v ps → Calls Tryd.prog 94 #[.agg (leaf.map ub).toArray, .int .i64 (k : Int), .int .i64 (m : Int), v] V fun e w' => ∃ top, top.length = 32 ∧ e = .returned (.tuple #[.agg (top.map ub).toArray, .bool (upR ps.reverse k m leaf).isSome]) ∧ (∀ t, upR ps.reverse k m leaf = some t → top = t) ∧ V.grownBy w' none) :=
    fun V h1 h2 h3 => climb_any ps.reverse k m leaf v V hl hkm hm63 h1 h2 (by rwa [List.reverse_reverse]) (by simpa using hp)
  have d2 : decide (m ≤ k) = false := by simp; omega
  clear hkm hm63 hp
  generalize eL : (leaf.map ub).toArray = L at *
  generalize eT : (root.map ub).toArray = T at *
  go_enter Tryd.func65, Tryd.ntmps65
  go_wp2_with (refine wpList_load_row rfl 25 _ rfl w.heap.size rfl 25 _ (0, 0) _ (heap_alloc2_old _ _ _) Tryd.underlying25 rfl HIl'.out ?_)
  have hA := gr_trans (gr_alloc w (Obj.cells L 25)) (gr_alloc _ (Obj.cells T 25))
  have hB0 : ((w.alloc (Obj.cells L 25)).alloc (Obj.cells T 25)).heap[w.heap.size + 1]? = some (.cells T 25 (0, 0)) := heap_alloc2_new _ _ _
  refine (HC.out _ (by have := hA.size; omega) (HT.out.gr hA hw) (HV.out.gr hA)).mono ?_
  rintro e w3 ⟨top, htl, rfl, htop, hG3⟩
  have hG03 := gr_trans hA hG3
  have hB3 : w3.heap[w.heap.size + 1]? = some (.cells T 25 (0, 0)) := (hG3.block _ (by simp) (by simp)).trans hB0
  have HTOP : Hid _ := htop
  have hs3 : w.heap.size + 1 < w3.heap.size := (Array.getElem?_eq_some_iff.1 hB3).1
  clear hA hB0 HC HV HT hG3 htop
  obtain ⟨HI, HO, HN⟩ := sum25 top htl
  have HEU : Hid ((top.map ub).toArray = (top.map ub).toArray) := rfl
  cases hu : upR ps.reverse k m leaf with
  | none =>
    clear HEU
    generalize eU : (top.map ub).toArray = U at *
    simp only [Option.isSome_none]
    go_wp2_with (first | (refine store_new rfl 25 _ _ rfl U _ _ rfl rfl HI.out HO.out HN.out ?_; intro W4 hW4 hs4 hG4))
    go_ret
    exact ⟨by rw [hu]; rfl, gr_trans hG03 hG4⟩
  | some u =>
    obtain rfl : top = u := HTOP.out u hu
    clear HTOP HEU
    generalize eU : (top.map ub).toArray = U at *
    simp only [Option.isSome_some]
    go_wp2_with (first | (refine store_new rfl 25 _ _ rfl U _ _ rfl rfl HI.out HO.out HN.out ?_; intro W4 hW4 hs4 hG4; have hB4 := (hG4.block _ hs3 (by simp)).trans hB3) | refine wpList_load_g (by rfl) 25 _ rfl w3.heap.size rfl 25 _ (0, 0) _ hW4 Tryd.underlying25 rfl HI.out ?_ | refine wpList_load_g (by rfl) 25 _ rfl (w.heap.size + 1) rfl 25 _ (0, 0) _ hB4 Tryd.underlying25 rfl HIr'.out ?_ | refine wpList_eq25 (by rfl) _ _ _ rfl top root U T eU eT htl hr rfl rfl ?_)
    go_ret
    exact ⟨by rw [hu]; rfl, gr_trans hG03 hG4⟩
end Go.Proofs.YtjgmmdgcknnlpaaDoor

/-
  roots.Included.
-/
namespace Go.Proofs.YtjgmmdgcknnlpaaDoor
open Go Go.RowKit

set_option maxHeartbeats 4000000 in
set_option maxRecDepth 100000 in
theorem incl_any (bs : List UInt8) (ps : List (List UInt8)) (i n : Int) (root : List UInt8) (u v : Value) (w : World) (hr : root.length = 32) (hn : n < 9223372036854775808) (hw : 1 < w.heap.size) (hT : Tab w) (hu : SliceIs w u bs) (hb : bs.length < 1152921504606840000) (hv : SumsIs w v ps) (hp : ps.length < 1000000000) :
    Calls Tryd.prog 30 #[u, .int .i64 i, .int .i64 n, v, .agg (root.map ub).toArray] w fun e w' => e = .returned (.bool (inclB ps.reverse i n (sha (0 :: bs)) root)) ∧ w.grownBy w' none := by
  have HIr : Hid _ := info25' (R := (root.map ub).toArray) rfl hr
  have HV : Hid (SumsIs w v ps) := hv
  have HU : Hid (SliceIs w u bs) := hu
  have HT : Hid (Tab w) := hT
  clear hv hT hu
  go_enter Tryd.func30, Tryd.ntmps30
  go_wp2_with fail
  have hA := gr_alloc w (Obj.cells (root.map ub).toArray 25)
  have hB0 : (w.alloc (Obj.cells (root.map ub).toArray 25)).heap[w.heap.size]? = some (.cells (root.map ub).toArray 25 (0, 0)) := heap_alloc_new _ _
  change Code.wp _ _ _ _ (w.alloc (Obj.cells (root.map ub).toArray 25))
  generalize w.alloc (Obj.cells (root.map ub).toArray 25) = W at hA hB0 ⊢
  have hS : ∀ V : World, W.drew.grownBy V none → V.rangeAt w.heap.size 0 (root.map ub) := fun V hV j x hj => by
    have hb : V.heap[w.heap.size]? = some (.cells (root.map ub).toArray 25 (0, 0)) := (hV.block _ (Array.getElem?_eq_some_iff.1 hB0).1 (by simp)).trans hB0
    rw [Nat.zero_add, cell_of_row V _ _ _ _ _ hb]; simpa using hj
  refine wp_region_noPanic ?_
  refine wp_region_T (last := 7) (S := fun w' => w'.rangeAt w.heap.size 0 (root.map ub)) (by kernel_rfl) (hS _ (gr_refl _)) (fun hHeld => ?_)
  refine wpAnyT_take (i := 0) (oi := { dst := some 11, op := Op.move (Operand.tmp 0), type := 27, pos := "lists.go:37", after := #[], guard := none }) (v := ?_) rfl (by kernel_rfl) (by kernel_rfl) (by kernel_rfl) (fun _ _ _ h => h) (by kernel_rfl) (Or.inl ⟨by rfl, ?_⟩) (by assumption) ?_
  rotate_left
  · intro w' hSw
    try dsimp only at hSw
    go_simp
    try with_reducible rfl
  simp only [Act.put, List.setIfInBounds_toArray, List.set_cons_zero, List.set_cons_succ]
  refine wpAnyT_take (i := 2) (oi := { dst := some 13, op := Op.move (Operand.tmp 1), type := 3, pos := "lists.go:37", after := #[], guard := none }) (v := ?_) rfl (by kernel_rfl) (by kernel_rfl) (by kernel_rfl) (fun _ _ _ h => h) (by kernel_rfl) (Or.inl ⟨by rfl, ?_⟩) (by assumption) ?_
  rotate_left
  · intro w' hSw
    try dsimp only at hSw
    go_simp
    try with_reducible rfl
  simp only [Act.put, List.setIfInBounds_toArray, List.set_cons_zero, List.set_cons_succ]
  refine wpAnyT_take (i := 3) (oi := { dst := some 14, op := Op.move (Operand.tmp 2), type := 3, pos := "lists.go:37", after := #[], guard := none }) (v := ?_) rfl (by kernel_rfl) (by kernel_rfl) (by kernel_rfl) (fun _ _ _ h => h) (by kernel_rfl) (Or.inl ⟨by rfl, ?_⟩) (by assumption) ?_
  rotate_left
  · intro w' hSw
    try dsimp only at hSw
    go_simp
    try with_reducible rfl
  simp only [Act.put, List.setIfInBounds_toArray, List.set_cons_zero, List.set_cons_succ]
  refine wpAnyT_take (i := 4) (oi := { dst := some 15, op := Op.move (Operand.tmp 3), type := 38, pos := "lists.go:37", after := #[], guard := none }) (v := ?_) rfl (by kernel_rfl) (by kernel_rfl) (by kernel_rfl) (fun _ _ _ h => h) (by kernel_rfl) (Or.inl ⟨by rfl, ?_⟩) (by assumption) ?_
  rotate_left
  · intro w' hSw
    try dsimp only at hSw
    go_simp
    try with_reducible rfl
  simp only [Act.put, List.setIfInBounds_toArray, List.set_cons_zero, List.set_cons_succ]
  refine wpAnyT_take (i := 5) (oi := { dst := some 16, op := Op.load 25 (Operand.tmp 9), type := 25, pos := "lists.go:37", after := #[], guard := none }) (v := .agg (root.map ub).toArray) rfl (by kernel_rfl) (by kernel_rfl) (by kernel_rfl) (fun _ _ _ h => h) (by kernel_rfl) (yieldsIf_load_mid (by rfl) _ _ rfl w.heap.size 0 rfl (root.map ub) _ (fun w' hSw => hSw) Tryd.underlying25 rfl (by rw [HIr.out]; simp)) (by assumption) ?_
  simp only [Act.put, List.setIfInBounds_toArray, List.set_cons_zero, List.set_cons_succ]
  refine wpAnyT_one (i := 1) (o := { dst := some 12, op := Op.call { callee := Callee.value (Operand.func 66), args := #[Operand.tmp 11], argTypes := #[27] }, type := 25, pos := "lists.go:37", after := #[{ on := 0, ground := Ground.data }], guard := none }) rfl (by kernel_rfl) (fun K hK => ?_)
  go_simp
  have hD : w.grownBy W.drew none := gr_drew hA
  refine (leaf_any bs u W.drew (by have := hD.size; omega) (HT.out.gr hD hw) (HU.out.gr hD) hb).mono ?_
  rintro e w1 ⟨rfl, hG1⟩
  refine hK.out _ _ (fun _ => hS _ hG1) (fun hHeld2 => ?_)
  clear hK K hHeld hHeld2
  have hG01 := gr_trans hD hG1
  try simp only [Act.put, List.setIfInBounds_toArray, List.set_cons_zero, List.set_cons_succ]
  refine wpAnyT_one (i := 6) (o := { dst := some 17, op := Op.call { callee := Callee.value (Operand.func 65), args := #[Operand.tmp 12, Operand.tmp 13, Operand.tmp 14, Operand.tmp 15, Operand.tmp 16], argTypes := #[25, 3, 3, 38, 25] }, type := 4, pos := "lists.go:37", after := #[{ on := 1, ground := Ground.data }, { on := 2, ground := Ground.data }, { on := 3, ground := Ground.data }, { on := 4, ground := Ground.data }, { on := 5, ground := Ground.data }, { on := 1, ground := Ground.chain }], guard := none }) rfl (by kernel_rfl) (fun K hK => ?_)
  go_simp
  refine (tincl_any ps i n _ root v w1 (length_sha (0 :: bs)) hr hn (by have := hG01.size; omega) (HT.out.gr hG01 hw) (HV.out.gr hG01) hp).mono ?_
  rintro e w2 ⟨rfl, hG2⟩
  refine hK.out _ _ (fun _ => hS _ (gr_trans hG1 hG2)) (fun hHeld2 => ?_)
  clear hK K hHeld2
  have hG02 := gr_trans hG01 hG2
  clear hS hG1 hG2 hG01 hD hA hB0
  try simp only [Act.put, List.setIfInBounds_toArray, List.set_cons_zero, List.set_cons_succ]
  refine wpAnyT_one (i := 7) (o := { dst := some 10, op := Op.assign (Operand.tmp 17), type := 4, pos := "lists.go:37", after := #[{ on := 6, ground := Ground.data }, { on := 6, ground := Ground.chain }, { on := 0, ground := Ground.phase }, { on := 1, ground := Ground.phase }, { on := 2, ground := Ground.phase }, { on := 3, ground := Ground.phase }, { on := 4, ground := Ground.phase }, { on := 5, ground := Ground.phase }, { on := 6, ground := Ground.phase }], guard := none }) rfl (by kernel_rfl) (fun K hK => ?_)
  go_simp
  refine hK.out _ _ (fun h => absurd rfl h) (fun _ => ?_)
  clear hK K
  try simp only [Act.put, List.setIfInBounds_toArray, List.set_cons_zero, List.set_cons_succ]
  refine wpAnyT_done (by kernel_rfl) ?_ _
  refine NoPanic.normal ?_
  go_wp2
  go_ret
  exact ⟨rfl, hG02⟩
end Go.Proofs.YtjgmmdgcknnlpaaDoor

/-
  A region's end of my own: a call and the making of the variable that gets its answer, in either order; then the store.
-/
namespace Go.Proofs.YtjgmmdgcknnlpaaDoor
open Go Go.RowKit

theorem put_comm {a : Act} {p q : Tmp} {x y : Value} (h : p ≠ q) : (a.put (some p) x).put (some q) y = (a.put (some q) y).put (some p) x := by
  simp only [Act.put]
  rw [Array.setIfInBounds_comm _ _ h]

theorem set_none {a : Act} {x : Value} : a.put none x = a := rfl

theorem wp_alloc25 {o : Oper} {a : Act} {w : World} {K : Act → World → Prop} {Q : Exit → Act → World → Prop} (ho : o.op = .alloc 25) (h : K (a.put o.dst (.pointer (some ⟨w.heap.size, 0, none⟩))) (w.alloc (.cells (brow 32 []).toArray 25))) : Oper.wp Tryd.prog o a w K Q := by
  unfold Oper.wp execOp
  simp only [ho]
  go_simp
  exact h

theorem wpAnyT_ca {md : Region.Mode} {ops : Array Oper} {Q : Exit → Act → World → Prop} {S : World → Prop} {n : Nat} {i j k : Nat} {oi oj ok : Oper} {listed : Array Bool} {a : Act} {w : World} {R : List UInt8} {p q : Tmp}
    (hi : ops[i]? = some oi) (hj : ops[j]? = some oj) (hk : ops[k]? = some ok)
    (hr : Region.ready md ops listed = [i, j]) (hri : Region.ready md ops (listed.setIfInBounds i true) = [j]) (hrj : Region.ready md ops (listed.setIfInBounds j true) = [i])
    (hr2 : Region.ready md ops ((listed.setIfInBounds i true).setIfInBounds j true) = [k]) (hr3 : Region.ready md ops (((listed.setIfInBounds i true).setIfInBounds j true).setIfInBounds k true) = [])
    (gi : oi.guard = none) (gj : oj.guard = none) (gk : ok.guard = none)
    (hoj : oj.op = .alloc 25) (hpd : oj.dst = some p) (hok : ok.op = .store 25 (.tmp p) (.tmp q)) (hdk : ok.dst = none) (hne : p ≠ q) (hij : i ≠ j) (hps : p < a.tmps.size) (hqs : q < a.tmps.size)
    (hS : ∀ V, w.grownBy V none → S V) (hR : R.length = 32)
    (hcall : ∀ V a', w.grownBy V none → (a' = a ∨ ∃ x, a' = a.put (some p) x) → ∀ K' : Act → World → Prop, Shut (∀ w', V.grownBy w' none → K' (a'.put (some q) (.agg (R.map ub).toArray)) w') → Oper.wp Tryd.prog oi a' V K' Q)
    (hend : ∀ B Z, w.heap.size ≤ B → B < Z.heap.size → Z.heap[B]? = some (.cells (R.map ub).toArray 25 (0, 0)) → w.grownBy Z none → Q .normal ((a.put (some q) (.agg (R.map ub).toArray)).put (some p) (.pointer (some ⟨B, 0, none⟩))) Z) :
    wpAnyT Tryd.prog md ops Q S k (n + 3) listed a w := by
  obtain ⟨HI, HO, HN⟩ := sum25 R hR
  have wantedT : ∀ (o : Oper) (y : Nat → Option Bool), o.guard = none → Region.wanted o y = true := fun o y h => by simp [Region.wanted, h]
  have hstore : ∀ (B : Nat) (Z : World), w.heap.size ≤ B → Z.heap[B]? = some (.cells (brow 32 []).toArray 25 (0, 0)) → w.grownBy Z none →
      wpAnyT Tryd.prog md ops Q S k (n + 1) ((listed.setIfInBounds i true).setIfInBounds j true) ((a.put (some q) (.agg (R.map ub).toArray)).put (some p) (.pointer (some ⟨B, 0, none⟩))) Z := fun B Z hB hZ hG => by
    refine wpAnyT_one hk hr2 (fun K hK => ?_)
    rw [if_pos (wantedT _ _ gk)]
    refine wp_store_row 25 _ _ hok B (R.map ub).toArray ?_ ?_ 25 _ hZ HI.out HO.out HN.out ?_
    · simp [Act.eval, Act.put, hps]
    · rw [put_comm (Ne.symm hne)]; simp [Act.eval, Act.put, hqs]
    rw [hdk]
    refine hK.out _ _ (fun h => absurd rfl h) (fun _ => ?_)
    refine wpAnyT_done hr3 ?_ _
    have hZ2 := setRow_heap Z B (brow 32 []).toArray (R.map ub).toArray 25 _ hZ
    exact hend B _ hB (by have := (Array.getElem?_eq_some_iff.1 hZ2).1; exact this) hZ2 (gr_row hG _ _ hB)
  refine ⟨fun h => (by rw [hr] at h; cases h), fun m hm => ?_⟩
  rw [hr] at hm
  rcases List.mem_cons.1 hm with rfl | hm
  · refine wpOp_step hi (fun K hK => ?_)
    rw [if_pos (wantedT _ _ gi)]
    refine hcall w a (gr_refl w) (Or.inl rfl) K (fun w1 hG1 => hK _ _ ⟨fun _ => hS _ hG1, ?_⟩)
    refine wpAnyT_one hj hri (fun K hK => ?_)
    rw [if_pos (wantedT _ _ gj)]
    refine wp_alloc25 hoj ?_
    have hG2 := gr_trans hG1 (gr_alloc w1 (.cells (brow 32 []).toArray 25))
    refine hK.out _ _ (fun _ => hS _ hG2) (fun _ => ?_)
    rw [hpd]
    exact hstore _ _ hG1.size (heap_alloc_new _ _) hG2
  · obtain rfl := List.mem_singleton.1 hm
    refine wpOp_step hj (fun K hK => ?_)
    rw [if_pos (wantedT _ _ gj)]
    refine wp_alloc25 hoj ?_
    have hG1 := gr_alloc w (.cells (brow 32 []).toArray 25)
    refine hK _ _ ⟨fun _ => hS _ hG1, ?_⟩
    rw [hpd]
    refine wpAnyT_one hi hrj (fun K hK => ?_)
    rw [if_pos (wantedT _ _ gi)]
    refine hcall _ _ hG1 (Or.inr ⟨_, rfl⟩) K (fun w2 hG2 => ?_)
    have hG02 := gr_trans hG1 hG2
    refine hK.out _ _ (fun _ => hS _ hG02) (fun _ => ?_)
    rw [put_comm hne, Array.setIfInBounds_comm _ _ (Ne.symm hij)]
    exact hstore _ _ (Nat.le_refl _) ((hG2.block _ (by simp) (by simp)).trans (heap_alloc_new _ _)) hG02

/-- Two operations may come up. -/
theorem wpAnyT_two {P : Program} {md : Region.Mode} {ops : Array Oper} {Q : Exit → Act → World → Prop} {S : World → Prop} {last n i j : Nat} {oi oj : Oper} {listed : Array Bool} {a : Act} {w : World} (hi : ops[i]? = some oi) (hj : ops[j]? = some oj) (hr : Region.ready md ops listed = [i, j])
    (h1 : ∀ K' : Act → World → Prop, Shut (∀ a w, S w → (S w → wpAnyT P md ops Q S last n (listed.setIfInBounds i true) a w) → K' a w) → if Region.wanted oi (yielded ops a.tmps) = true then Oper.wp P oi a w K' Q else K' (a.put oi.dst undef) w)
    (h2 : ∀ K' : Act → World → Prop, Shut (∀ a w, S w → (S w → wpAnyT P md ops Q S last n (listed.setIfInBounds j true) a w) → K' a w) → if Region.wanted oj (yielded ops a.tmps) = true then Oper.wp P oj a w K' Q else K' (a.put oj.dst undef) w) :
    wpAnyT P md ops Q S last (n + 1) listed a w :=
  ⟨fun h0 => (by rw [hr] at h0; cases h0), fun m hm => by
    rw [hr] at hm
    rcases List.mem_cons.1 hm with rfl | hm
    · exact wpOp_step hi (fun K' hK => h1 K' (fun a w hS hW => hK a w ⟨fun _ => hS, hW hS⟩))
    · obtain rfl := List.mem_singleton.1 hm
      exact wpOp_step hj (fun K' hK => h2 K' (fun a w hS hW => hK a w ⟨fun _ => hS, hW hS⟩))⟩
end Go.Proofs.YtjgmmdgcknnlpaaDoor
