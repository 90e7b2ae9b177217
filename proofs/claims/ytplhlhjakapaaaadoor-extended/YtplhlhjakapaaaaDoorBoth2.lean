/-
  rootsref's both.
-/
import Derived.Test.YtplhlhjakapaaaaDoorBoth
import Derived.Test.YtplhlhjakapaaaaDoorUp
namespace Go.Proofs.YtplhlhjakapaaaaDoor
open Go Go.RowKit

/-- Three operations may come up. -/
theorem wpAnyT_three {P : Program} {md : Region.Mode} {ops : Array Oper} {Q : Exit → Act → World → Prop} {S : World → Prop} {last n i j k : Nat} {oi oj ok : Oper} {listed : Array Bool} {a : Act} {w : World} (hi : ops[i]? = some oi) (hj : ops[j]? = some oj) (hk : ops[k]? = some ok) (hr : Region.ready md ops listed = [i, j, k])
    (h1 : ∀ K' : Act → World → Prop, Shut (∀ a w, S w → (S w → wpAnyT P md ops Q S last n (listed.setIfInBounds i true) a w) → K' a w) → if Region.wanted oi (yielded ops a.tmps) = true then Oper.wp P oi a w K' Q else K' (a.put oi.dst undef) w)
    (h2 : ∀ K' : Act → World → Prop, Shut (∀ a w, S w → (S w → wpAnyT P md ops Q S last n (listed.setIfInBounds j true) a w) → K' a w) → if Region.wanted oj (yielded ops a.tmps) = true then Oper.wp P oj a w K' Q else K' (a.put oj.dst undef) w)
    (h3 : ∀ K' : Act → World → Prop, Shut (∀ a w, S w → (S w → wpAnyT P md ops Q S last n (listed.setIfInBounds k true) a w) → K' a w) → if Region.wanted ok (yielded ops a.tmps) = true then Oper.wp P ok a w K' Q else K' (a.put ok.dst undef) w) :
    wpAnyT P md ops Q S last (n + 1) listed a w :=
  ⟨fun h0 => (by rw [hr] at h0; cases h0), fun m hm => by
    rw [hr] at hm
    rcases List.mem_cons.1 hm with rfl | hm
    · exact wpOp_step hi (fun K' hK => h1 K' (fun a w hS hW => hK a w ⟨fun _ => hS, hW hS⟩))
    rcases List.mem_cons.1 hm with rfl | hm
    · exact wpOp_step hj (fun K' hK => h2 K' (fun a w hS hW => hK a w ⟨fun _ => hS, hW hS⟩))
    · obtain rfl := List.mem_singleton.1 hm
      exact wpOp_step hk (fun K' hK => h3 K' (fun a w hS hW => hK a w ⟨fun _ => hS, hW hS⟩))⟩

set_option maxHeartbeats 80000000 in
set_option maxRecDepth 100000 in
theorem both_any (H : Nat) (rs : List (List UInt8)) : ∀ (m n : Nat) (a : List UInt8) (known : Bool) (v : Value) (w : World), a.length = 32 → 1 ≤ m → m ≤ n → n < 9223372036854775808 → RefAt w H → H < w.heap.size → SumsIs w v rs.reverse → rs.length < 1000000000 →
    Calls Tryd.prog 69 #[.pointer (some ⟨H, 0, none⟩), .int .i64 (m : Int), .int .i64 (n : Int), v, .agg (a.map ub).toArray, .bool known] w fun e w' => ∃ f al, f.length = 32 ∧ al.length = 32 ∧ e = .returned (.tuple #[.agg (f.map ub).toArray, .agg (al.map ub).toArray, .bool (extR rs m n a known).isSome]) ∧ (∀ t, extR rs m n a known = some t → (f, al) = t) ∧ w.grownBy w' none := by
  induction rs with
  | nil =>
    intro m n a known v w hl hm1 hmn hn hH hHs hv hr
    by_cases h1 : m = n
    · subst h1
      cases known
      · refine (both_short H [] m a v w hl hv (by simp)).mono ?_
        rintro e w' ⟨rfl, hG⟩
        exact ⟨a, a, hl, hl, by simp [extR], by simp [extR], hG⟩
      · refine (both_known H [] m a v w hl hv hr).mono ?_
        rintro e w' ⟨rfl, hG⟩
        exact ⟨a, a, hl, hl, by simp [extR], by simp [extR], hG⟩
    · refine (both_none H m n a known v w hl hv h1).mono ?_
      rintro e w' ⟨rfl, hG⟩
      have hu : extR [] m n a known = none := by simp only [extR]; rw [if_neg (fun h => h1 h.1)]
      exact ⟨a, a, hl, hl, by rw [hu]; rfl, by rw [hu]; simp, hG⟩
  | cons s rest ih =>
    intro m n a known v w hl hm1 hmn hn hH hHs hv hr
    by_cases h1 : m = n
    · subst h1
      cases known
      · cases rest with
        | nil =>
          refine (both_single H s m a v w hv).mono ?_
          rintro e w' ⟨rfl, hG⟩
          have hs : s.length = 32 := hv.1 s (by simp)
          exact ⟨s, s, hs, hs, by simp [extR], by simp [extR], hG⟩
        | cons x rest =>
          refine (both_short H (s :: x :: rest) m a v w hl hv (by simp)).mono ?_
          rintro e w' ⟨rfl, hG⟩
          exact ⟨a, a, hl, hl, by simp [extR], by simp [extR], hG⟩
      · refine (both_known H (s :: rest) m a v w hl hv hr).mono ?_
        rintro e w' ⟨rfl, hG⟩
        exact ⟨a, a, hl, hl, by simp [extR], by simp [extR], hG⟩
    have hs : s.length = 32 := hv.1 s (by simp)
    have d1 : ((m : Int) == (n : Int)) = false := by rw [beq_eq_false_iff_ne]; omega
    have d1' : (m == n) = false := by rw [beq_eq_false_iff_ne]; omega
    have hn2 : 2 ≤ n := by omega
    obtain ⟨ha, hb, _, _⟩ := spl_spec n hn2 hn
    have hk1 := spl_pos n
    rw [List.reverse_cons] at hv
    rw [List.length_cons] at hr
    have HIH : Hid _ := ih
    have HH : Hid (RefAt w H) := hH
    obtain ⟨_, sp, cap, rfl, _, _⟩ := id hv
    obtain ⟨hvi, _, hcap, g, o, rfl, hg, hrg⟩ := hv.init
    have HV : Hid (SumsIs w (.slice (some ⟨g, o, none⟩) rest.length cap) rest.reverse) := by
      rw [List.length_reverse] at hvi; exact hvi
    clear hH ih hv hvi
    simp only [List.length_append, List.length_reverse, List.length_singleton] at hcap hrg ⊢
    have HRG : Hid (w.rangeAt g (o + rest.length * 32) (s.map ub)) := hrg
    have HaI : Hid ((Tryd.prog.info? 25).map (·.size) = some (a.map ub).length) := by
      show _ = _
      rw [info25' (R := (a.map ub).toArray) rfl hl]; simp
    have HsI : Hid ((Tryd.prog.info? 25).map (·.size) = some (s.map ub).length) := by
      show _ = _
      rw [info25' (R := (s.map ub).toArray) rfl hs]; simp
    clear hrg
    have d0 : decide (((rest.length + 1 : Nat) : Int) = 0) = false := by simp; omega
    go_enter Tryd.func69, Tryd.ntmps69
    go_wp2_with fail
    have hBG := begun w a
    refine (rsplit_any n (((w.alloc (Obj.cells (a.map ub).toArray 25)).alloc (Obj.cells (brow 32 []).toArray 25)).alloc (Obj.cells (brow 32 []).toArray 25)) hn2 hn).mono ?_
    rintro e w' ⟨rfl, hww⟩
    rw [hww]; clear hww w'
    generalize ((w.alloc (Obj.cells (a.map ub).toArray 25)).alloc (Obj.cells (brow 32 []).toArray 25)).alloc (Obj.cells (brow 32 []).toArray 25) = W at hBG ⊢
    have HUP : Hid (extR (s :: rest) m n a known = if m ≤ spl n then (extR rest m (spl n) a known).map (fun p => (p.1, sha (nodeL 1 p.2 s))) else (extR rest (m - spl n) (n - spl n) a false).map fun p => (sha (nodeL 1 s p.1), sha (nodeL 1 s p.2))) := by
      show _ = _
      rw [extR, if_neg h1]
    clear h1 hn2
    generalize hk : spl n = k at *
    have b0 : (0 : Int) ≤ (rest.length : Int) := by omega
    have b1 : (rest.length : Int) < (rest.length : Int) + 1 := by omega
    have b2 : (rest.length : Int) ≤ (cap : Int) := by omega
    by_cases hik : m ≤ k
    · have d2 : decide ((m : Int) ≤ (k : Int)) = true := by simp; omega
      rw [if_pos hik] at HUP
      go_wp2_with fail
      have hBD : Begun w W.drew a := ⟨gr_drew hBG.gr, hBG.box, hBG.one, hBG.two⟩
      have hS : ∀ U : World, W.drew.grownBy U none → U.rangeAt w.heap.size 0 (a.map ub) := fun U hU j x hj => by
        have hb : U.heap[w.heap.size]? = some (.cells (a.map ub).toArray 25 (0, 0)) := (hU.block _ (Array.getElem?_eq_some_iff.1 hBD.box).1 (by simp)).trans hBD.box
        rw [Nat.zero_add, cell_of_row U _ _ _ _ _ hb]; simpa using hj
      have HC : Hid (∀ V : World, W.drew.grownBy V none → Calls Tryd.prog 69 #[.pointer (some ⟨H, 0, none⟩), .int .i64 (m : Int), .int .i64 (k : Int), .slice (some ⟨g, o, none⟩) rest.length cap, .agg (a.map ub).toArray, .bool known] V fun e w' => ∃ f al, f.length = 32 ∧ al.length = 32 ∧ e = .returned (.tuple #[.agg (f.map ub).toArray, .agg (al.map ub).toArray, .bool (extR rest m k a known).isSome]) ∧ (∀ t, extR rest m k a known = some t → (f, al) = t) ∧ V.grownBy w' none) := fun V hV => by
        have hG := gr_trans hBD.gr hV
        have h := HIH.out m k a known (.slice (some ⟨g, o, none⟩) rest.length cap) V hl (by omega) (by omega) (by omega) (RefAt.gr HH.out hHs hG) (by have := hG.size; omega) (SumsIs.gr HV.out hG) (by omega)
        exact h
      clear HIH HV hBG
      refine wp_region_noPanic ?_
      refine wp_region_T (last := 17) (S := fun w' => w'.rangeAt w.heap.size 0 (a.map ub)) (by kernel_rfl) (hS _ (gr_refl _)) (fun hHeld => ?_)
      refine wpAnyT_take (i := 0) (oi := { dst := some 60, op := Op.move (Operand.tmp 0), type := 22, pos := "tree.go:111", after := #[], guard := none }) (v := ?_) rfl (by kernel_rfl) (by kernel_rfl) (by kernel_rfl) (fun _ _ _ h => h) (by kernel_rfl) (Or.inl ⟨by rfl, ?_⟩) (by assumption) ?_
      rotate_left
      · intro w' hSw
        try dsimp only at hSw
        go_simp
        try with_reducible rfl
      simp only [Act.put, List.setIfInBounds_toArray, List.set_cons_zero, List.set_cons_succ]
      refine wpAnyT_take (i := 1) (oi := { dst := some 61, op := Op.move (Operand.tmp 1), type := 3, pos := "tree.go:111", after := #[], guard := none }) (v := ?_) rfl (by kernel_rfl) (by kernel_rfl) (by kernel_rfl) (fun _ _ _ h => h) (by kernel_rfl) (Or.inl ⟨by rfl, ?_⟩) (by assumption) ?_
      rotate_left
      · intro w' hSw
        try dsimp only at hSw
        go_simp
        try with_reducible rfl
      simp only [Act.put, List.setIfInBounds_toArray, List.set_cons_zero, List.set_cons_succ]
      refine wpAnyT_take (i := 2) (oi := { dst := some 62, op := Op.move (Operand.tmp 16), type := 3, pos := "tree.go:111", after := #[], guard := none }) (v := ?_) rfl (by kernel_rfl) (by kernel_rfl) (by kernel_rfl) (fun _ _ _ h => h) (by kernel_rfl) (Or.inl ⟨by rfl, ?_⟩) (by assumption) ?_
      rotate_left
      · intro w' hSw
        try dsimp only at hSw
        go_simp
        try with_reducible rfl
      simp only [Act.put, List.setIfInBounds_toArray, List.set_cons_zero, List.set_cons_succ]
      refine wpAnyT_take (i := 3) (oi := { dst := some 63, op := Op.move (Operand.tmp 3), type := 38, pos := "tree.go:111", after := #[], guard := none }) (v := ?_) rfl (by kernel_rfl) (by kernel_rfl) (by kernel_rfl) (fun _ _ _ h => h) (by kernel_rfl) (Or.inl ⟨by rfl, ?_⟩) (by assumption) ?_
      rotate_left
      · intro w' hSw
        try dsimp only at hSw
        go_simp
        try with_reducible rfl
      simp only [Act.put, List.setIfInBounds_toArray, List.set_cons_zero, List.set_cons_succ]
      refine wpAnyT_take (i := 4) (oi := { dst := some 64, op := Op.move (Operand.tmp 15), type := 3, pos := "tree.go:111", after := #[], guard := none }) (v := ?_) rfl (by kernel_rfl) (by kernel_rfl) (by kernel_rfl) (fun _ _ _ h => h) (by kernel_rfl) (Or.inl ⟨by rfl, ?_⟩) (by assumption) ?_
      rotate_left
      · intro w' hSw
        try dsimp only at hSw
        go_simp
        try with_reducible rfl
      simp only [Act.put, List.setIfInBounds_toArray, List.set_cons_zero, List.set_cons_succ]
      refine wpAnyT_take (i := 5) (oi := { dst := some 65, op := Op.slice 38 (Operand.tmp 63) none (some (Operand.tmp 64)) none, type := 38, pos := "tree.go:111", after := #[{ on := 3, ground := Ground.data }, { on := 4, ground := Ground.data }], guard := none }) (v := ?_) rfl (by kernel_rfl) (by kernel_rfl) (by kernel_rfl) (fun _ _ _ h => h) (by kernel_rfl) (Or.inl ⟨by rfl, ?_⟩) (by assumption) ?_
      rotate_left
      · intro w' hSw
        try dsimp only at hSw
        go_simp
        try with_reducible rfl
      simp only [Act.put, List.setIfInBounds_toArray, List.set_cons_zero, List.set_cons_succ]
      refine wpAnyT_take (i := 6) (oi := { dst := some 66, op := Op.load 25 (Operand.tmp 10), type := 25, pos := "tree.go:111", after := #[], guard := none }) (v := .agg (a.map ub).toArray) rfl (by kernel_rfl) (by kernel_rfl) (by kernel_rfl) (fun _ _ _ h => h) (by kernel_rfl) (yieldsIf_load_mid (by rfl) _ _ rfl w.heap.size 0 rfl (a.map ub) _ (fun w' hSw => hSw) Tryd.underlying25 rfl HaI.out) (by assumption) ?_
      simp only [Act.put, List.setIfInBounds_toArray, List.set_cons_zero, List.set_cons_succ]
      refine wpAnyT_take (i := 7) (oi := { dst := some 67, op := Op.move (Operand.tmp 5), type := 4, pos := "tree.go:111", after := #[], guard := none }) (v := ?_) rfl (by kernel_rfl) (by kernel_rfl) (by kernel_rfl) (fun _ _ _ h => h) (by kernel_rfl) (Or.inl ⟨by rfl, ?_⟩) (by assumption) ?_
      rotate_left
      · intro w' hSw
        try dsimp only at hSw
        go_simp
        try with_reducible rfl
      simp only [Act.put, List.setIfInBounds_toArray, List.set_cons_zero, List.set_cons_succ]
      generalize W.drew = D at *
      clear hHeld
      have hGD := gr_refl D
      have hDD : w.heap.size + 2 < D.heap.size := (Array.getElem?_eq_some_iff.1 hBD.two).1
      obtain ⟨DS, hDS⟩ : ∃ DS, DS = D.heap.size := ⟨_, rfl⟩
      rw [← hDS] at hDD
      refine wpAnyT_three (i := 8) (j := 13) (k := 14) (oi := { dst := some 68, op := Op.call { callee := Callee.value (Operand.func 69), args := #[Operand.tmp 60, Operand.tmp 61, Operand.tmp 62, Operand.tmp 65, Operand.tmp 66, Operand.tmp 67], argTypes := #[22, 3, 3, 38, 25, 4] }, type := 107, pos := "tree.go:111", after := #[{ on := 0, ground := Ground.data }, { on := 1, ground := Ground.data }, { on := 2, ground := Ground.data }, { on := 5, ground := Ground.data }, { on := 6, ground := Ground.data }, { on := 7, ground := Ground.data }], guard := none }) (oj := { dst := some 17, op := Op.alloc 25, type := 0, pos := "tree.go:111", after := #[], guard := none }) (ok := { dst := some 18, op := Op.alloc 25, type := 0, pos := "tree.go:111", after := #[], guard := none }) rfl rfl rfl (by kernel_rfl) (fun K hK => ?p1L) (fun K hK => ?p2L) (fun K hK => ?p3L)
      case' p1L =>
        go_simp
        refine (HC.out D hGD).mono ?_
        rintro e X1 ⟨f, al, hfl, hall, rfl, htop, hGc⟩
        have hGX1 := gr_trans hGD hGc
        refine hK.out _ _ (hS _ hGX1) (fun _ => ?_)
        have hHeldX1 := hS _ hGX1
        clear hK K hGc
        try simp only [Act.put, List.setIfInBounds_toArray, List.set_cons_zero, List.set_cons_succ]
        refine wpAnyT_take (i := 9) (oi := { dst := some 59, op := Op.move (Operand.tmp 68), type := 107, pos := "tree.go:111", after := #[{ on := 8, ground := Ground.data }], guard := none }) (v := ?_) rfl (by kernel_rfl) (by kernel_rfl) (by kernel_rfl) (fun _ _ _ h => h) (by kernel_rfl) (Or.inl ⟨by rfl, ?_⟩) (by assumption) ?_
        rotate_left
        · intro w' hSw
          try dsimp only at hSw
          go_simp
          try with_reducible rfl
        simp only [Act.put, List.setIfInBounds_toArray, List.set_cons_zero, List.set_cons_succ]
        refine wpAnyT_take (i := 10) (oi := { dst := some 69, op := Op.extract (Operand.tmp 59) 0, type := 25, pos := "tree.go:111", after := #[{ on := 9, ground := Ground.data }], guard := none }) (v := ?_) rfl (by kernel_rfl) (by kernel_rfl) (by kernel_rfl) (fun _ _ _ h => h) (by kernel_rfl) (Or.inl ⟨by rfl, ?_⟩) (by assumption) ?_
        rotate_left
        · intro w' hSw
          try dsimp only at hSw
          go_simp
          try with_reducible rfl
        simp only [Act.put, List.setIfInBounds_toArray, List.set_cons_zero, List.set_cons_succ]
        refine wpAnyT_take (i := 11) (oi := { dst := some 70, op := Op.extract (Operand.tmp 59) 1, type := 25, pos := "tree.go:111", after := #[{ on := 9, ground := Ground.data }, { on := 15, ground := Ground.gcOnly Go.Departure.lateStores }], guard := none }) (v := ?_) rfl (by kernel_rfl) (by kernel_rfl) (by kernel_rfl) (fun _ _ _ h => h) (by kernel_rfl) (Or.inl ⟨by rfl, ?_⟩) (by assumption) ?_
        rotate_left
        · intro w' hSw
          try dsimp only at hSw
          go_simp
          try with_reducible rfl
        simp only [Act.put, List.setIfInBounds_toArray, List.set_cons_zero, List.set_cons_succ]
        refine wpAnyT_take (i := 12) (oi := { dst := some 71, op := Op.extract (Operand.tmp 59) 2, type := 4, pos := "tree.go:111", after := #[{ on := 9, ground := Ground.data }, { on := 16, ground := Ground.gcOnly Go.Departure.lateStores }], guard := none }) (v := ?_) rfl (by kernel_rfl) (by kernel_rfl) (by kernel_rfl) (fun _ _ _ h => h) (by kernel_rfl) (Or.inl ⟨by rfl, ?_⟩) (by assumption) ?_
        rotate_left
        · intro w' hSw
          try dsimp only at hSw
          go_simp
          try with_reducible rfl
        simp only [Act.put, List.setIfInBounds_toArray, List.set_cons_zero, List.set_cons_succ]
        refine wpAnyT_two (i := 13) (j := 14) (oi := { dst := some 17, op := Op.alloc 25, type := 0, pos := "tree.go:111", after := #[], guard := none }) (oj := { dst := some 18, op := Op.alloc 25, type := 0, pos := "tree.go:111", after := #[], guard := none }) rfl rfl (by kernel_rfl) (fun K hK => ?q11L) (fun K hK => ?q12L)
        case' q11L =>
          rw [if_pos (by rfl)]
          refine wp_alloc25 rfl ?_
          have hGa := gr_alloc X1 (.cells (brow 32 []).toArray 25)
          have hGY1 := gr_trans hGX1 hGa
          have hz1 := heap_alloc_new X1 (.cells (brow 32 []).toArray 25)
          have hs1 : X1.heap.size < (X1.alloc (.cells (brow 32 []).toArray 25)).heap.size := by simp
          have hl1 : DS ≤ X1.heap.size := by have := hGX1.size; omega
          refine hK.out _ _ (hS _ hGY1) (fun _ => ?_)
          have hHeldY1 := hS _ hGY1
          clear hK K hGa
          try simp only [Act.put, List.setIfInBounds_toArray, List.set_cons_zero, List.set_cons_succ]
          generalize X1.alloc (.cells (brow 32 []).toArray 25) = Y1 at *
          generalize X1.heap.size = B1 at *
          refine wpAnyT_one (i := 14) (o := { dst := some 18, op := Op.alloc 25, type := 0, pos := "tree.go:111", after := #[], guard := none }) rfl (by kernel_rfl) (fun K hK => ?_)
          rw [if_pos (by rfl)]
          refine wp_alloc25 rfl ?_
          have hGa := gr_alloc Y1 (.cells (brow 32 []).toArray 25)
          have hGZ := gr_trans hGY1 hGa
          have hz2 := heap_alloc_new Y1 (.cells (brow 32 []).toArray 25)
          have hs2 : Y1.heap.size < (Y1.alloc (.cells (brow 32 []).toArray 25)).heap.size := by simp
          have hl2 : DS ≤ Y1.heap.size := by have := hGY1.size; omega
          have hne0 := Nat.ne_of_lt hs1
          replace hz1 := (hGa.block _ hs1 (by simp)).trans hz1
          replace hs1 := Nat.lt_of_lt_of_le hs1 hGa.size
          refine hK.out _ _ (fun _ => hS _ hGZ) (fun _ => ?_)
          have hHeldZ := hS _ hGZ
          clear hK K hGa
          try simp only [Act.put, List.setIfInBounds_toArray, List.set_cons_zero, List.set_cons_succ]
          generalize Y1.alloc (.cells (brow 32 []).toArray 25) = Z at *
          generalize Y1.heap.size = B2 at *
          have hne : B1 ≠ B2 := hne0
          clear hne0
        case' q12L =>
          rw [if_pos (by rfl)]
          refine wp_alloc25 rfl ?_
          have hGa := gr_alloc X1 (.cells (brow 32 []).toArray 25)
          have hGY1 := gr_trans hGX1 hGa
          have hz2 := heap_alloc_new X1 (.cells (brow 32 []).toArray 25)
          have hs2 : X1.heap.size < (X1.alloc (.cells (brow 32 []).toArray 25)).heap.size := by simp
          have hl2 : DS ≤ X1.heap.size := by have := hGX1.size; omega
          refine hK.out _ _ (hS _ hGY1) (fun _ => ?_)
          have hHeldY1 := hS _ hGY1
          clear hK K hGa
          try simp only [Act.put, List.setIfInBounds_toArray, List.set_cons_zero, List.set_cons_succ]
          generalize X1.alloc (.cells (brow 32 []).toArray 25) = Y1 at *
          generalize X1.heap.size = B2 at *
          refine wpAnyT_one (i := 13) (o := { dst := some 17, op := Op.alloc 25, type := 0, pos := "tree.go:111", after := #[], guard := none }) rfl (by kernel_rfl) (fun K hK => ?_)
          rw [if_pos (by rfl)]
          refine wp_alloc25 rfl ?_
          have hGa := gr_alloc Y1 (.cells (brow 32 []).toArray 25)
          have hGZ := gr_trans hGY1 hGa
          have hz1 := heap_alloc_new Y1 (.cells (brow 32 []).toArray 25)
          have hs1 : Y1.heap.size < (Y1.alloc (.cells (brow 32 []).toArray 25)).heap.size := by simp
          have hl1 : DS ≤ Y1.heap.size := by have := hGY1.size; omega
          have hne0 := Nat.ne_of_lt hs2
          replace hz2 := (hGa.block _ hs2 (by simp)).trans hz2
          replace hs2 := Nat.lt_of_lt_of_le hs2 hGa.size
          refine hK.out _ _ (fun _ => hS _ hGZ) (fun _ => ?_)
          have hHeldZ := hS _ hGZ
          clear hK K hGa
          try simp only [Act.put, List.setIfInBounds_toArray, List.set_cons_zero, List.set_cons_succ]
          generalize Y1.alloc (.cells (brow 32 []).toArray 25) = Z at *
          generalize Y1.heap.size = B1 at *
          have hne : B1 ≠ B2 := Ne.symm hne0
          clear hne0
      case' p2L =>
        rw [if_pos (by rfl)]
        refine wp_alloc25 rfl ?_
        have hGa := gr_alloc D (.cells (brow 32 []).toArray 25)
        have hGX2 := gr_trans hGD hGa
        have hz1 := heap_alloc_new D (.cells (brow 32 []).toArray 25)
        have hs1 : D.heap.size < (D.alloc (.cells (brow 32 []).toArray 25)).heap.size := by simp
        have hl1 : DS ≤ D.heap.size := by have := hGD.size; omega
        refine hK.out _ _ (hS _ hGX2) (fun _ => ?_)
        have hHeldX2 := hS _ hGX2
        clear hK K hGa
        try simp only [Act.put, List.setIfInBounds_toArray, List.set_cons_zero, List.set_cons_succ]
        generalize D.alloc (.cells (brow 32 []).toArray 25) = X2 at *
        generalize D.heap.size = B1 at *
        refine wpAnyT_two (i := 8) (j := 14) (oi := { dst := some 68, op := Op.call { callee := Callee.value (Operand.func 69), args := #[Operand.tmp 60, Operand.tmp 61, Operand.tmp 62, Operand.tmp 65, Operand.tmp 66, Operand.tmp 67], argTypes := #[22, 3, 3, 38, 25, 4] }, type := 107, pos := "tree.go:111", after := #[{ on := 0, ground := Ground.data }, { on := 1, ground := Ground.data }, { on := 2, ground := Ground.data }, { on := 5, ground := Ground.data }, { on := 6, ground := Ground.data }, { on := 7, ground := Ground.data }], guard := none }) (oj := { dst := some 18, op := Op.alloc 25, type := 0, pos := "tree.go:111", after := #[], guard := none }) rfl rfl (by kernel_rfl) (fun K hK => ?q21L) (fun K hK => ?q22L)
        case' q21L =>
          go_simp
          refine (HC.out X2 hGX2).mono ?_
          rintro e Y2 ⟨f, al, hfl, hall, rfl, htop, hGc⟩
          have hGY2 := gr_trans hGX2 hGc
          replace hz1 := (hGc.block _ hs1 (by simp)).trans hz1
          replace hs1 := Nat.lt_of_lt_of_le hs1 hGc.size
          refine hK.out _ _ (hS _ hGY2) (fun _ => ?_)
          have hHeldY2 := hS _ hGY2
          clear hK K hGc
          try simp only [Act.put, List.setIfInBounds_toArray, List.set_cons_zero, List.set_cons_succ]
          refine wpAnyT_take (i := 9) (oi := { dst := some 59, op := Op.move (Operand.tmp 68), type := 107, pos := "tree.go:111", after := #[{ on := 8, ground := Ground.data }], guard := none }) (v := ?_) rfl (by kernel_rfl) (by kernel_rfl) (by kernel_rfl) (fun _ _ _ h => h) (by kernel_rfl) (Or.inl ⟨by rfl, ?_⟩) (by assumption) ?_
          rotate_left
          · intro w' hSw
            try dsimp only at hSw
            go_simp
            try with_reducible rfl
          simp only [Act.put, List.setIfInBounds_toArray, List.set_cons_zero, List.set_cons_succ]
          refine wpAnyT_take (i := 10) (oi := { dst := some 69, op := Op.extract (Operand.tmp 59) 0, type := 25, pos := "tree.go:111", after := #[{ on := 9, ground := Ground.data }], guard := none }) (v := ?_) rfl (by kernel_rfl) (by kernel_rfl) (by kernel_rfl) (fun _ _ _ h => h) (by kernel_rfl) (Or.inl ⟨by rfl, ?_⟩) (by assumption) ?_
          rotate_left
          · intro w' hSw
            try dsimp only at hSw
            go_simp
            try with_reducible rfl
          simp only [Act.put, List.setIfInBounds_toArray, List.set_cons_zero, List.set_cons_succ]
          refine wpAnyT_take (i := 11) (oi := { dst := some 70, op := Op.extract (Operand.tmp 59) 1, type := 25, pos := "tree.go:111", after := #[{ on := 9, ground := Ground.data }, { on := 15, ground := Ground.gcOnly Go.Departure.lateStores }], guard := none }) (v := ?_) rfl (by kernel_rfl) (by kernel_rfl) (by kernel_rfl) (fun _ _ _ h => h) (by kernel_rfl) (Or.inl ⟨by rfl, ?_⟩) (by assumption) ?_
          rotate_left
          · intro w' hSw
            try dsimp only at hSw
            go_simp
            try with_reducible rfl
          simp only [Act.put, List.setIfInBounds_toArray, List.set_cons_zero, List.set_cons_succ]
          refine wpAnyT_take (i := 12) (oi := { dst := some 71, op := Op.extract (Operand.tmp 59) 2, type := 4, pos := "tree.go:111", after := #[{ on := 9, ground := Ground.data }, { on := 16, ground := Ground.gcOnly Go.Departure.lateStores }], guard := none }) (v := ?_) rfl (by kernel_rfl) (by kernel_rfl) (by kernel_rfl) (fun _ _ _ h => h) (by kernel_rfl) (Or.inl ⟨by rfl, ?_⟩) (by assumption) ?_
          rotate_left
          · intro w' hSw
            try dsimp only at hSw
            go_simp
            try with_reducible rfl
          simp only [Act.put, List.setIfInBounds_toArray, List.set_cons_zero, List.set_cons_succ]
          refine wpAnyT_one (i := 14) (o := { dst := some 18, op := Op.alloc 25, type := 0, pos := "tree.go:111", after := #[], guard := none }) rfl (by kernel_rfl) (fun K hK => ?_)
          rw [if_pos (by rfl)]
          refine wp_alloc25 rfl ?_
          have hGa := gr_alloc Y2 (.cells (brow 32 []).toArray 25)
          have hGZ := gr_trans hGY2 hGa
          have hz2 := heap_alloc_new Y2 (.cells (brow 32 []).toArray 25)
          have hs2 : Y2.heap.size < (Y2.alloc (.cells (brow 32 []).toArray 25)).heap.size := by simp
          have hl2 : DS ≤ Y2.heap.size := by have := hGY2.size; omega
          have hne0 := Nat.ne_of_lt hs1
          replace hz1 := (hGa.block _ hs1 (by simp)).trans hz1
          replace hs1 := Nat.lt_of_lt_of_le hs1 hGa.size
          refine hK.out _ _ (fun _ => hS _ hGZ) (fun _ => ?_)
          have hHeldZ := hS _ hGZ
          clear hK K hGa
          try simp only [Act.put, List.setIfInBounds_toArray, List.set_cons_zero, List.set_cons_succ]
          generalize Y2.alloc (.cells (brow 32 []).toArray 25) = Z at *
          generalize Y2.heap.size = B2 at *
          have hne : B1 ≠ B2 := hne0
          clear hne0
        case' q22L =>
          rw [if_pos (by rfl)]
          refine wp_alloc25 rfl ?_
          have hGa := gr_alloc X2 (.cells (brow 32 []).toArray 25)
          have hGY2 := gr_trans hGX2 hGa
          have hz2 := heap_alloc_new X2 (.cells (brow 32 []).toArray 25)
          have hs2 : X2.heap.size < (X2.alloc (.cells (brow 32 []).toArray 25)).heap.size := by simp
          have hl2 : DS ≤ X2.heap.size := by have := hGX2.size; omega
          have hne0 := Nat.ne_of_lt hs1
          replace hz1 := (hGa.block _ hs1 (by simp)).trans hz1
          replace hs1 := Nat.lt_of_lt_of_le hs1 hGa.size
          refine hK.out _ _ (hS _ hGY2) (fun _ => ?_)
          have hHeldY2 := hS _ hGY2
          clear hK K hGa
          try simp only [Act.put, List.setIfInBounds_toArray, List.set_cons_zero, List.set_cons_succ]
          generalize X2.alloc (.cells (brow 32 []).toArray 25) = Y2 at *
          generalize X2.heap.size = B2 at *
          refine wpAnyT_one (i := 8) (o := { dst := some 68, op := Op.call { callee := Callee.value (Operand.func 69), args := #[Operand.tmp 60, Operand.tmp 61, Operand.tmp 62, Operand.tmp 65, Operand.tmp 66, Operand.tmp 67], argTypes := #[22, 3, 3, 38, 25, 4] }, type := 107, pos := "tree.go:111", after := #[{ on := 0, ground := Ground.data }, { on := 1, ground := Ground.data }, { on := 2, ground := Ground.data }, { on := 5, ground := Ground.data }, { on := 6, ground := Ground.data }, { on := 7, ground := Ground.data }], guard := none }) rfl (by kernel_rfl) (fun K hK => ?_)
          go_simp
          refine (HC.out Y2 hGY2).mono ?_
          rintro e Z ⟨f, al, hfl, hall, rfl, htop, hGc⟩
          have hGZ := gr_trans hGY2 hGc
          replace hz1 := (hGc.block _ hs1 (by simp)).trans hz1
          replace hs1 := Nat.lt_of_lt_of_le hs1 hGc.size
          replace hz2 := (hGc.block _ hs2 (by simp)).trans hz2
          replace hs2 := Nat.lt_of_lt_of_le hs2 hGc.size
          refine hK.out _ _ (fun _ => hS _ hGZ) (fun _ => ?_)
          have hHeldZ := hS _ hGZ
          clear hK K hGc
          try simp only [Act.put, List.setIfInBounds_toArray, List.set_cons_zero, List.set_cons_succ]
          refine wpAnyT_take (i := 9) (oi := { dst := some 59, op := Op.move (Operand.tmp 68), type := 107, pos := "tree.go:111", after := #[{ on := 8, ground := Ground.data }], guard := none }) (v := ?_) rfl (by kernel_rfl) (by kernel_rfl) (by kernel_rfl) (fun _ _ _ h => h) (by kernel_rfl) (Or.inl ⟨by rfl, ?_⟩) (by assumption) ?_
          rotate_left
          · intro w' hSw
            try dsimp only at hSw
            go_simp
            try with_reducible rfl
          simp only [Act.put, List.setIfInBounds_toArray, List.set_cons_zero, List.set_cons_succ]
          refine wpAnyT_take (i := 10) (oi := { dst := some 69, op := Op.extract (Operand.tmp 59) 0, type := 25, pos := "tree.go:111", after := #[{ on := 9, ground := Ground.data }], guard := none }) (v := ?_) rfl (by kernel_rfl) (by kernel_rfl) (by kernel_rfl) (fun _ _ _ h => h) (by kernel_rfl) (Or.inl ⟨by rfl, ?_⟩) (by assumption) ?_
          rotate_left
          · intro w' hSw
            try dsimp only at hSw
            go_simp
            try with_reducible rfl
          simp only [Act.put, List.setIfInBounds_toArray, List.set_cons_zero, List.set_cons_succ]
          refine wpAnyT_take (i := 11) (oi := { dst := some 70, op := Op.extract (Operand.tmp 59) 1, type := 25, pos := "tree.go:111", after := #[{ on := 9, ground := Ground.data }, { on := 15, ground := Ground.gcOnly Go.Departure.lateStores }], guard := none }) (v := ?_) rfl (by kernel_rfl) (by kernel_rfl) (by kernel_rfl) (fun _ _ _ h => h) (by kernel_rfl) (Or.inl ⟨by rfl, ?_⟩) (by assumption) ?_
          rotate_left
          · intro w' hSw
            try dsimp only at hSw
            go_simp
            try with_reducible rfl
          simp only [Act.put, List.setIfInBounds_toArray, List.set_cons_zero, List.set_cons_succ]
          refine wpAnyT_take (i := 12) (oi := { dst := some 71, op := Op.extract (Operand.tmp 59) 2, type := 4, pos := "tree.go:111", after := #[{ on := 9, ground := Ground.data }, { on := 16, ground := Ground.gcOnly Go.Departure.lateStores }], guard := none }) (v := ?_) rfl (by kernel_rfl) (by kernel_rfl) (by kernel_rfl) (fun _ _ _ h => h) (by kernel_rfl) (Or.inl ⟨by rfl, ?_⟩) (by assumption) ?_
          rotate_left
          · intro w' hSw
            try dsimp only at hSw
            go_simp
            try with_reducible rfl
          simp only [Act.put, List.setIfInBounds_toArray, List.set_cons_zero, List.set_cons_succ]
          have hne : B1 ≠ B2 := hne0
          clear hne0
      case' p3L =>
        rw [if_pos (by rfl)]
        refine wp_alloc25 rfl ?_
        have hGa := gr_alloc D (.cells (brow 32 []).toArray 25)
        have hGX3 := gr_trans hGD hGa
        have hz2 := heap_alloc_new D (.cells (brow 32 []).toArray 25)
        have hs2 : D.heap.size < (D.alloc (.cells (brow 32 []).toArray 25)).heap.size := by simp
        have hl2 : DS ≤ D.heap.size := by have := hGD.size; omega
        refine hK.out _ _ (hS _ hGX3) (fun _ => ?_)
        have hHeldX3 := hS _ hGX3
        clear hK K hGa
        try simp only [Act.put, List.setIfInBounds_toArray, List.set_cons_zero, List.set_cons_succ]
        generalize D.alloc (.cells (brow 32 []).toArray 25) = X3 at *
        generalize D.heap.size = B2 at *
        refine wpAnyT_two (i := 8) (j := 13) (oi := { dst := some 68, op := Op.call { callee := Callee.value (Operand.func 69), args := #[Operand.tmp 60, Operand.tmp 61, Operand.tmp 62, Operand.tmp 65, Operand.tmp 66, Operand.tmp 67], argTypes := #[22, 3, 3, 38, 25, 4] }, type := 107, pos := "tree.go:111", after := #[{ on := 0, ground := Ground.data }, { on := 1, ground := Ground.data }, { on := 2, ground := Ground.data }, { on := 5, ground := Ground.data }, { on := 6, ground := Ground.data }, { on := 7, ground := Ground.data }], guard := none }) (oj := { dst := some 17, op := Op.alloc 25, type := 0, pos := "tree.go:111", after := #[], guard := none }) rfl rfl (by kernel_rfl) (fun K hK => ?q31L) (fun K hK => ?q32L)
        case' q31L =>
          go_simp
          refine (HC.out X3 hGX3).mono ?_
          rintro e Y3 ⟨f, al, hfl, hall, rfl, htop, hGc⟩
          have hGY3 := gr_trans hGX3 hGc
          replace hz2 := (hGc.block _ hs2 (by simp)).trans hz2
          replace hs2 := Nat.lt_of_lt_of_le hs2 hGc.size
          refine hK.out _ _ (hS _ hGY3) (fun _ => ?_)
          have hHeldY3 := hS _ hGY3
          clear hK K hGc
          try simp only [Act.put, List.setIfInBounds_toArray, List.set_cons_zero, List.set_cons_succ]
          refine wpAnyT_take (i := 9) (oi := { dst := some 59, op := Op.move (Operand.tmp 68), type := 107, pos := "tree.go:111", after := #[{ on := 8, ground := Ground.data }], guard := none }) (v := ?_) rfl (by kernel_rfl) (by kernel_rfl) (by kernel_rfl) (fun _ _ _ h => h) (by kernel_rfl) (Or.inl ⟨by rfl, ?_⟩) (by assumption) ?_
          rotate_left
          · intro w' hSw
            try dsimp only at hSw
            go_simp
            try with_reducible rfl
          simp only [Act.put, List.setIfInBounds_toArray, List.set_cons_zero, List.set_cons_succ]
          refine wpAnyT_take (i := 10) (oi := { dst := some 69, op := Op.extract (Operand.tmp 59) 0, type := 25, pos := "tree.go:111", after := #[{ on := 9, ground := Ground.data }], guard := none }) (v := ?_) rfl (by kernel_rfl) (by kernel_rfl) (by kernel_rfl) (fun _ _ _ h => h) (by kernel_rfl) (Or.inl ⟨by rfl, ?_⟩) (by assumption) ?_
          rotate_left
          · intro w' hSw
            try dsimp only at hSw
            go_simp
            try with_reducible rfl
          simp only [Act.put, List.setIfInBounds_toArray, List.set_cons_zero, List.set_cons_succ]
          refine wpAnyT_take (i := 11) (oi := { dst := some 70, op := Op.extract (Operand.tmp 59) 1, type := 25, pos := "tree.go:111", after := #[{ on := 9, ground := Ground.data }, { on := 15, ground := Ground.gcOnly Go.Departure.lateStores }], guard := none }) (v := ?_) rfl (by kernel_rfl) (by kernel_rfl) (by kernel_rfl) (fun _ _ _ h => h) (by kernel_rfl) (Or.inl ⟨by rfl, ?_⟩) (by assumption) ?_
          rotate_left
          · intro w' hSw
            try dsimp only at hSw
            go_simp
            try with_reducible rfl
          simp only [Act.put, List.setIfInBounds_toArray, List.set_cons_zero, List.set_cons_succ]
          refine wpAnyT_take (i := 12) (oi := { dst := some 71, op := Op.extract (Operand.tmp 59) 2, type := 4, pos := "tree.go:111", after := #[{ on := 9, ground := Ground.data }, { on := 16, ground := Ground.gcOnly Go.Departure.lateStores }], guard := none }) (v := ?_) rfl (by kernel_rfl) (by kernel_rfl) (by kernel_rfl) (fun _ _ _ h => h) (by kernel_rfl) (Or.inl ⟨by rfl, ?_⟩) (by assumption) ?_
          rotate_left
          · intro w' hSw
            try dsimp only at hSw
            go_simp
            try with_reducible rfl
          simp only [Act.put, List.setIfInBounds_toArray, List.set_cons_zero, List.set_cons_succ]
          refine wpAnyT_one (i := 13) (o := { dst := some 17, op := Op.alloc 25, type := 0, pos := "tree.go:111", after := #[], guard := none }) rfl (by kernel_rfl) (fun K hK => ?_)
          rw [if_pos (by rfl)]
          refine wp_alloc25 rfl ?_
          have hGa := gr_alloc Y3 (.cells (brow 32 []).toArray 25)
          have hGZ := gr_trans hGY3 hGa
          have hz1 := heap_alloc_new Y3 (.cells (brow 32 []).toArray 25)
          have hs1 : Y3.heap.size < (Y3.alloc (.cells (brow 32 []).toArray 25)).heap.size := by simp
          have hl1 : DS ≤ Y3.heap.size := by have := hGY3.size; omega
          have hne0 := Nat.ne_of_lt hs2
          replace hz2 := (hGa.block _ hs2 (by simp)).trans hz2
          replace hs2 := Nat.lt_of_lt_of_le hs2 hGa.size
          refine hK.out _ _ (fun _ => hS _ hGZ) (fun _ => ?_)
          have hHeldZ := hS _ hGZ
          clear hK K hGa
          try simp only [Act.put, List.setIfInBounds_toArray, List.set_cons_zero, List.set_cons_succ]
          generalize Y3.alloc (.cells (brow 32 []).toArray 25) = Z at *
          generalize Y3.heap.size = B1 at *
          have hne : B1 ≠ B2 := Ne.symm hne0
          clear hne0
        case' q32L =>
          rw [if_pos (by rfl)]
          refine wp_alloc25 rfl ?_
          have hGa := gr_alloc X3 (.cells (brow 32 []).toArray 25)
          have hGY3 := gr_trans hGX3 hGa
          have hz1 := heap_alloc_new X3 (.cells (brow 32 []).toArray 25)
          have hs1 : X3.heap.size < (X3.alloc (.cells (brow 32 []).toArray 25)).heap.size := by simp
          have hl1 : DS ≤ X3.heap.size := by have := hGX3.size; omega
          have hne0 := Nat.ne_of_lt hs2
          replace hz2 := (hGa.block _ hs2 (by simp)).trans hz2
          replace hs2 := Nat.lt_of_lt_of_le hs2 hGa.size
          refine hK.out _ _ (hS _ hGY3) (fun _ => ?_)
          have hHeldY3 := hS _ hGY3
          clear hK K hGa
          try simp only [Act.put, List.setIfInBounds_toArray, List.set_cons_zero, List.set_cons_succ]
          generalize X3.alloc (.cells (brow 32 []).toArray 25) = Y3 at *
          generalize X3.heap.size = B1 at *
          refine wpAnyT_one (i := 8) (o := { dst := some 68, op := Op.call { callee := Callee.value (Operand.func 69), args := #[Operand.tmp 60, Operand.tmp 61, Operand.tmp 62, Operand.tmp 65, Operand.tmp 66, Operand.tmp 67], argTypes := #[22, 3, 3, 38, 25, 4] }, type := 107, pos := "tree.go:111", after := #[{ on := 0, ground := Ground.data }, { on := 1, ground := Ground.data }, { on := 2, ground := Ground.data }, { on := 5, ground := Ground.data }, { on := 6, ground := Ground.data }, { on := 7, ground := Ground.data }], guard := none }) rfl (by kernel_rfl) (fun K hK => ?_)
          go_simp
          refine (HC.out Y3 hGY3).mono ?_
          rintro e Z ⟨f, al, hfl, hall, rfl, htop, hGc⟩
          have hGZ := gr_trans hGY3 hGc
          replace hz2 := (hGc.block _ hs2 (by simp)).trans hz2
          replace hs2 := Nat.lt_of_lt_of_le hs2 hGc.size
          replace hz1 := (hGc.block _ hs1 (by simp)).trans hz1
          replace hs1 := Nat.lt_of_lt_of_le hs1 hGc.size
          refine hK.out _ _ (fun _ => hS _ hGZ) (fun _ => ?_)
          have hHeldZ := hS _ hGZ
          clear hK K hGc
          try simp only [Act.put, List.setIfInBounds_toArray, List.set_cons_zero, List.set_cons_succ]
          refine wpAnyT_take (i := 9) (oi := { dst := some 59, op := Op.move (Operand.tmp 68), type := 107, pos := "tree.go:111", after := #[{ on := 8, ground := Ground.data }], guard := none }) (v := ?_) rfl (by kernel_rfl) (by kernel_rfl) (by kernel_rfl) (fun _ _ _ h => h) (by kernel_rfl) (Or.inl ⟨by rfl, ?_⟩) (by assumption) ?_
          rotate_left
          · intro w' hSw
            try dsimp only at hSw
            go_simp
            try with_reducible rfl
          simp only [Act.put, List.setIfInBounds_toArray, List.set_cons_zero, List.set_cons_succ]
          refine wpAnyT_take (i := 10) (oi := { dst := some 69, op := Op.extract (Operand.tmp 59) 0, type := 25, pos := "tree.go:111", after := #[{ on := 9, ground := Ground.data }], guard := none }) (v := ?_) rfl (by kernel_rfl) (by kernel_rfl) (by kernel_rfl) (fun _ _ _ h => h) (by kernel_rfl) (Or.inl ⟨by rfl, ?_⟩) (by assumption) ?_
          rotate_left
          · intro w' hSw
            try dsimp only at hSw
            go_simp
            try with_reducible rfl
          simp only [Act.put, List.setIfInBounds_toArray, List.set_cons_zero, List.set_cons_succ]
          refine wpAnyT_take (i := 11) (oi := { dst := some 70, op := Op.extract (Operand.tmp 59) 1, type := 25, pos := "tree.go:111", after := #[{ on := 9, ground := Ground.data }, { on := 15, ground := Ground.gcOnly Go.Departure.lateStores }], guard := none }) (v := ?_) rfl (by kernel_rfl) (by kernel_rfl) (by kernel_rfl) (fun _ _ _ h => h) (by kernel_rfl) (Or.inl ⟨by rfl, ?_⟩) (by assumption) ?_
          rotate_left
          · intro w' hSw
            try dsimp only at hSw
            go_simp
            try with_reducible rfl
          simp only [Act.put, List.setIfInBounds_toArray, List.set_cons_zero, List.set_cons_succ]
          refine wpAnyT_take (i := 12) (oi := { dst := some 71, op := Op.extract (Operand.tmp 59) 2, type := 4, pos := "tree.go:111", after := #[{ on := 9, ground := Ground.data }, { on := 16, ground := Ground.gcOnly Go.Departure.lateStores }], guard := none }) (v := ?_) rfl (by kernel_rfl) (by kernel_rfl) (by kernel_rfl) (fun _ _ _ h => h) (by kernel_rfl) (Or.inl ⟨by rfl, ?_⟩) (by assumption) ?_
          rotate_left
          · intro w' hSw
            try dsimp only at hSw
            go_simp
            try with_reducible rfl
          simp only [Act.put, List.setIfInBounds_toArray, List.set_cons_zero, List.set_cons_succ]
          have hne : B1 ≠ B2 := Ne.symm hne0
          clear hne0
      all_goals
        clear HC
        have HTOP : Hid (∀ t, extR rest m k a known = some t → (f, al) = t) := htop
        clear htop
        generalize eok : (extR rest m k a known).isSome = okk at *
        have hD2 : w.heap.size + 2 < D.heap.size := (Array.getElem?_eq_some_iff.1 hBD.two).1
        have hG0Z := gr_trans hBD.gr hGZ
        have hSV : ∀ U : World, (∀ k, k ≠ B1 → k ≠ B2 → U.heap[k]? = Z.heap[k]?) → U.rangeAt w.heap.size 0 (a.map ub) := fun U hU j x hj => by
          have hb : U.heap[w.heap.size]? = some (.cells (a.map ub).toArray 25 (0, 0)) := (hU _ (by omega) (by omega)).trans ((hGZ.block _ (by omega) (by simp)).trans hBD.box)
          rw [Nat.zero_add, cell_of_row U _ _ _ _ _ hb]; simpa using hj
        refine wpAnyT_ss (i := 15) (j := 16) (k := 17) (p1 := 17) (q1 := 69) (p2 := 18) (q2 := 70) rfl rfl rfl (by kernel_rfl) (by kernel_rfl) (by kernel_rfl) (by kernel_rfl) rfl rfl rfl rfl rfl rfl rfl rfl 19 rfl (.bool okk) rfl B1 B2 f al hfl hall hne rfl rfl rfl rfl hz1 hz2 hSV (fun V hTW => ?_)
        try simp only [Act.put, List.setIfInBounds_toArray, List.set_cons_zero, List.set_cons_succ]
        refine NoPanic.normal ?_
        have hG0V := hTW.gr w hG0Z (by omega) (by omega)
        have hR1 : V.heap[w.heap.size + 1]? = some (.cells (brow 32 []).toArray 25 (0, 0)) := (hTW.other _ (by omega) (by omega)).trans ((hGZ.block _ (by omega) (by simp)).trans hBD.one)
        have hR2 : V.heap[w.heap.size + 2]? = some (.cells (brow 32 []).toArray 25 (0, 0)) := (hTW.other _ (by omega) (by omega)).trans ((hGZ.block _ (by omega) (by simp)).trans hBD.two)
        have hF := hTW.one
        have hAl := hTW.two
        have hb1 : w.heap.size + 2 < B1 := by omega
        have hb2 : w.heap.size + 2 < B2 := by omega
        clear hTW hSV hG0Z hS hGZ hz1 hz2 hs1 hs2 hl1 hl2 hBD hD2
        go_wp2
        have HxI1 : Hid ((Tryd.prog.info? 25).map (·.size) = some ((al).map ub).length) := by
          show _ = _
          rw [info25' (R := ((al).map ub).toArray) rfl hall]; simp
        have hS1 : ∀ U : World, V.drew.grownBy U none → U.rangeAt B2 0 ((al).map ub) ∧ U.rangeAt g (o + rest.length * 32) (s.map ub) := fun U hU => ⟨fun j x hj => by
            have hb : U.heap[B2]? = some (.cells ((al).map ub).toArray 25 (0, 0)) := (hU.block _ (Array.getElem?_eq_some_iff.1 hAl).1 (by simp)).trans hAl
            rw [Nat.zero_add, cell_of_row U _ _ _ _ _ hb]; simpa using hj,
          fun j x hj => (gr_cell (gr_trans (gr_drew hG0V) hU) (p := ⟨g, o + rest.length * 32 + j, none⟩) hg).trans (HRG.out j x hj)⟩
        refine wp_region_noPanic ?_
        refine wp_region_T (last := 8) (S := fun w' => w'.rangeAt B2 0 ((al).map ub) ∧ w'.rangeAt g (o + rest.length * 32) (s.map ub)) (by kernel_rfl) (hS1 _ (gr_refl _)) (fun hHeld => ?_)
        refine wpAnyT_take (i := 0) (oi := { dst := some 72, op := Op.move (Operand.tmp 0), type := 22, pos := "tree.go:112", after := #[], guard := none }) (v := ?_) rfl (by kernel_rfl) (by kernel_rfl) (by kernel_rfl) (fun _ _ _ h => h) (by kernel_rfl) (Or.inl ⟨by rfl, ?_⟩) (by assumption) ?_
        rotate_left
        · intro w' hSw
          try dsimp only at hSw
          go_simp
          try with_reducible rfl
        simp only [Act.put, List.setIfInBounds_toArray, List.set_cons_zero, List.set_cons_succ]
        refine wpAnyT_take (i := 1) (oi := { dst := some 73, op := Op.load 25 (Operand.tmp 18), type := 25, pos := "tree.go:112", after := #[], guard := none }) (v := .agg ((al).map ub).toArray) rfl (by kernel_rfl) (by kernel_rfl) (by kernel_rfl) (fun _ _ _ h => h) (by kernel_rfl) (yieldsIf_load_mid (by rfl) _ _ rfl B2 0 rfl ((al).map ub) _ (fun w' hSw => hSw.1) Tryd.underlying25 rfl HxI1.out) (by assumption) ?_
        simp only [Act.put, List.setIfInBounds_toArray, List.set_cons_zero, List.set_cons_succ]
        refine wpAnyT_take (i := 2) (oi := { dst := some 74, op := Op.move (Operand.tmp 3), type := 38, pos := "tree.go:112", after := #[], guard := none }) (v := ?_) rfl (by kernel_rfl) (by kernel_rfl) (by kernel_rfl) (fun _ _ _ h => h) (by kernel_rfl) (Or.inl ⟨by rfl, ?_⟩) (by assumption) ?_
        rotate_left
        · intro w' hSw
          try dsimp only at hSw
          go_simp
          try with_reducible rfl
        simp only [Act.put, List.setIfInBounds_toArray, List.set_cons_zero, List.set_cons_succ]
        refine wpAnyT_take (i := 3) (oi := { dst := some 75, op := Op.move (Operand.tmp 15), type := 3, pos := "tree.go:112", after := #[], guard := none }) (v := ?_) rfl (by kernel_rfl) (by kernel_rfl) (by kernel_rfl) (fun _ _ _ h => h) (by kernel_rfl) (Or.inl ⟨by rfl, ?_⟩) (by assumption) ?_
        rotate_left
        · intro w' hSw
          try dsimp only at hSw
          go_simp
          try with_reducible rfl
        simp only [Act.put, List.setIfInBounds_toArray, List.set_cons_zero, List.set_cons_succ]
        refine wpAnyT_take (i := 4) (oi := { dst := some 76, op := Op.indexAddr 38 (Operand.tmp 74) (Operand.tmp 75), type := 0, pos := "tree.go:112", after := #[{ on := 2, ground := Ground.data }, { on := 3, ground := Ground.data }], guard := none }) (v := ?_) rfl (by kernel_rfl) (by kernel_rfl) (by kernel_rfl) (fun _ _ _ h => h) (by kernel_rfl) (Or.inl ⟨by rfl, ?_⟩) (by assumption) ?_
        rotate_left
        · intro w' hSw
          try dsimp only at hSw
          go_simp
          try with_reducible rfl
        simp only [Act.put, List.setIfInBounds_toArray, List.set_cons_zero, List.set_cons_succ]
        refine wpAnyT_take (i := 5) (oi := { dst := some 77, op := Op.load 25 (Operand.tmp 76), type := 25, pos := "tree.go:112", after := #[{ on := 4, ground := Ground.data }], guard := none }) (v := .agg (s.map ub).toArray) rfl (by kernel_rfl) (by kernel_rfl) (by kernel_rfl) (fun _ _ _ h => h) (by kernel_rfl) (yieldsIf_load_mid (by rfl) _ _ rfl g (o + rest.length * 32) rfl (s.map ub) _ (fun w' hSw => hSw.2) Tryd.underlying25 rfl HsI.out) (by assumption) ?_
        simp only [Act.put, List.setIfInBounds_toArray, List.set_cons_zero, List.set_cons_succ]
        clear hHeld
        have HND1 : Hid (∀ U : World, V.drew.grownBy U none → Calls Tryd.prog 56 #[.pointer (some ⟨H, 0, none⟩), .int .u8 1, .agg (((al)).map ub).toArray, .agg ((s).map ub).toArray] U fun e w' => e = .returned (.agg ((sha (nodeL 1 (al) s)).map ub).toArray) ∧ U.grownBy w' none) := fun U hU =>
          node_any H 1 (al) s hall hs U (RefAt.gr HH.out hHs (gr_trans (gr_drew hG0V) hU)) (by have := (gr_trans (gr_drew hG0V) hU).size; omega)
        refine wpAnyT_ca (i := 6) (j := 7) (k := 8) (R := sha (nodeL 1 (al) s)) (p := 20) (q := 78) rfl rfl rfl (by kernel_rfl) (by kernel_rfl) (by kernel_rfl) (by kernel_rfl) (by kernel_rfl) rfl rfl rfl rfl rfl rfl rfl (by decide) (by decide) (by simp) (by simp) hS1 (length_sha _) (fun U a' hU ha' K hK => ?_) (fun C1 Z1 hC1 _ hZ1 hGn1 => ?_)
        · rcases ha' with rfl | ⟨x, rfl⟩
          · go_simp
            refine (HND1.out U hU).mono ?_
            rintro e w' ⟨rfl, hG⟩
            exact hK.out _ hG
          · simp only [Act.put, List.setIfInBounds_toArray, List.set_cons_zero, List.set_cons_succ]
            go_simp
            refine (HND1.out U hU).mono ?_
            rintro e w' ⟨rfl, hG⟩
            exact hK.out _ hG
        simp only [Act.put, List.setIfInBounds_toArray, List.set_cons_zero, List.set_cons_succ]
        refine NoPanic.normal ?_
        have hNG1 := gr_trans (gr_drew hG0V) hGn1
        have hF1 : Z1.heap[B1]? = some (.cells ((f).map ub).toArray 25 (0, 0)) := (hGn1.block _ (Array.getElem?_eq_some_iff.1 hF).1 (by simp)).trans hF
        have hAl1 : Z1.heap[B2]? = some (.cells ((al).map ub).toArray 25 (0, 0)) := (hGn1.block _ (Array.getElem?_eq_some_iff.1 hAl).1 (by simp)).trans hAl
        have hRa1 : Z1.heap[w.heap.size + 1]? = some (.cells (brow 32 []).toArray 25 (0, 0)) := (hGn1.block _ (Array.getElem?_eq_some_iff.1 hR1).1 (by simp)).trans hR1
        have hRb1 : Z1.heap[w.heap.size + 2]? = some (.cells (brow 32 []).toArray 25 (0, 0)) := (hGn1.block _ (Array.getElem?_eq_some_iff.1 hR2).1 (by simp)).trans hR2
        have hbC1 : w.heap.size + 2 < C1 := Nat.lt_of_lt_of_le (Array.getElem?_eq_some_iff.1 hR2).1 hC1
        clear hS1 HND1 HxI1 hGn1 hC1 hR1 hR2 hF hAl hG0V
        generalize eN1 : sha (nodeL 1 (al) s) = nn1 at *
        have hnl1 : nn1.length = 32 := by rw [← eN1]; exact length_sha _
        go_wp2
        have HxE : Hid ((Tryd.prog.info? 25).map (·.size) = some ((f).map ub).length) := by
          show _ = _
          rw [info25' (R := ((f).map ub).toArray) rfl hfl]; simp
        have HyE : Hid ((Tryd.prog.info? 25).map (·.size) = some ((nn1).map ub).length) := by
          show _ = _
          rw [info25' (R := ((nn1).map ub).toArray) rfl hnl1]; simp
        have hSE : ∀ U : World, (∀ k, k ≠ w.heap.size + 1 → k ≠ w.heap.size + 2 → U.heap[k]? = Z1.drew.heap[k]?) → U.rangeAt B1 0 ((f).map ub) ∧ U.rangeAt C1 0 ((nn1).map ub) := fun U hU => ⟨fun j x hj => by
            have hb : U.heap[B1]? = some (.cells ((f).map ub).toArray 25 (0, 0)) := (hU _ (by omega) (by omega)).trans hF1
            rw [Nat.zero_add, cell_of_row U _ _ _ _ _ hb]; simpa using hj,
          fun j x hj => by
            have hb : U.heap[C1]? = some (.cells ((nn1).map ub).toArray 25 (0, 0)) := (hU _ (by omega) (by omega)).trans hZ1
            rw [Nat.zero_add, cell_of_row U _ _ _ _ _ hb]; simpa using hj⟩
        refine wp_region_noPanic ?_
        refine wp_region_T (last := 5) (S := fun w' => w'.rangeAt B1 0 ((f).map ub) ∧ w'.rangeAt C1 0 ((nn1).map ub)) (by kernel_rfl) (hSE _ (fun _ _ _ => rfl)) (fun hHeld => ?_)
        refine wpAnyT_take (i := 0) (oi := { dst := some 79, op := Op.load 25 (Operand.tmp 17), type := 25, pos := "tree.go:113", after := #[], guard := none }) (v := .agg ((f).map ub).toArray) rfl (by kernel_rfl) (by kernel_rfl) (by kernel_rfl) (fun _ _ _ h => h) (by kernel_rfl) (yieldsIf_load_mid (by rfl) _ _ rfl B1 0 rfl ((f).map ub) _ (fun w' hSw => hSw.1) Tryd.underlying25 rfl HxE.out) (by assumption) ?_
        simp only [Act.put, List.setIfInBounds_toArray, List.set_cons_zero, List.set_cons_succ]
        refine wpAnyT_take (i := 1) (oi := { dst := some 80, op := Op.load 25 (Operand.tmp 20), type := 25, pos := "tree.go:113", after := #[{ on := 3, ground := Ground.gcOnly Go.Departure.lateStores }], guard := none }) (v := .agg ((nn1).map ub).toArray) rfl (by kernel_rfl) (by kernel_rfl) (by kernel_rfl) (fun _ _ _ h => h) (by kernel_rfl) (yieldsIf_load_mid (by rfl) _ _ rfl C1 0 rfl ((nn1).map ub) _ (fun w' hSw => hSw.2) Tryd.underlying25 rfl HyE.out) (by assumption) ?_
        simp only [Act.put, List.setIfInBounds_toArray, List.set_cons_zero, List.set_cons_succ]
        refine wpAnyT_take (i := 2) (oi := { dst := some 81, op := Op.move (Operand.tmp 19), type := 4, pos := "tree.go:113", after := #[{ on := 4, ground := Ground.gcOnly Go.Departure.lateStores }], guard := none }) (v := ?_) rfl (by kernel_rfl) (by kernel_rfl) (by kernel_rfl) (fun _ _ _ h => h) (by kernel_rfl) (Or.inl ⟨by rfl, ?_⟩) (by assumption) ?_
        rotate_left
        · intro w' hSw
          try dsimp only at hSw
          go_simp
          try with_reducible rfl
        simp only [Act.put, List.setIfInBounds_toArray, List.set_cons_zero, List.set_cons_succ]
        refine wpAnyT_ss (i := 3) (j := 4) (k := 5) (p1 := 12) (q1 := 79) (p2 := 13) (q2 := 80) rfl rfl rfl (by kernel_rfl) (by kernel_rfl) (by kernel_rfl) (by kernel_rfl) rfl rfl rfl rfl rfl rfl rfl rfl 14 rfl (.bool okk) rfl (w.heap.size + 1) (w.heap.size + 2) f nn1 hfl hnl1 (by omega) rfl rfl rfl rfl hRa1 hRb1 (fun U hU => hSE U hU) (fun VE hTE => ?_)
        try simp only [Act.put, List.setIfInBounds_toArray, List.set_cons_zero, List.set_cons_succ]
        refine NoPanic.normal ?_
        obtain ⟨HIx, _, _⟩ := sum25 f hfl
        obtain ⟨HIy, _, _⟩ := sum25 nn1 hnl1
        have hGF := hTE.gr w (gr_drew hNG1) (by omega) (by omega)
        have hV1 := hTE.one
        have hV2 := hTE.two
        clear hTE hSE hHeld
        go_wp2
        refine bodyPost_ret (results_cct Tryd.results69 _ _ (w.heap.size + 1) (w.heap.size + 2) 25 _ _ (0, 0) (0, 0) _ _ rfl rfl rfl hV1 hV2 Tryd.underlying25 rfl HIx.out HIy.out) rfl ⟨f, nn1, hfl, hnl1, ?_, ?_, hGF⟩
        · rw [HUP.out, Option.isSome_map, eok]; rfl
        · intro t ht
          rw [HUP.out] at ht
          obtain ⟨t', h1, rfl⟩ := Option.map_eq_some_iff.1 ht
          rw [← HTOP.out t' h1]
          simp only [eN1]
    · have d2 : decide ((m : Int) ≤ (k : Int)) = false := by simp; omega
      rw [if_neg hik] at HUP
      go_wp2_with fail
      have wr1 : IntKind.i64.wrap ((m : Int) - (k : Int)) = (m : Int) - (k : Int) := by rw [IntKind.wrap_i64]; omega
      have wr2 : IntKind.i64.wrap ((n : Int) - (k : Int)) = (n : Int) - (k : Int) := by rw [IntKind.wrap_i64]; omega
      have hBD : Begun w W.drew a := ⟨gr_drew hBG.gr, hBG.box, hBG.one, hBG.two⟩
      have hS : ∀ U : World, W.drew.grownBy U none → U.rangeAt w.heap.size 0 (a.map ub) := fun U hU j x hj => by
        have hb : U.heap[w.heap.size]? = some (.cells (a.map ub).toArray 25 (0, 0)) := (hU.block _ (Array.getElem?_eq_some_iff.1 hBD.box).1 (by simp)).trans hBD.box
        rw [Nat.zero_add, cell_of_row U _ _ _ _ _ hb]; simpa using hj
      have HC : Hid (∀ V : World, W.drew.grownBy V none → Calls Tryd.prog 69 #[.pointer (some ⟨H, 0, none⟩), .int .i64 ((m : Int) - (k : Int)), .int .i64 ((n : Int) - (k : Int)), .slice (some ⟨g, o, none⟩) rest.length cap, .agg (a.map ub).toArray, .bool false] V fun e w' => ∃ f al, f.length = 32 ∧ al.length = 32 ∧ e = .returned (.tuple #[.agg (f.map ub).toArray, .agg (al.map ub).toArray, .bool (extR rest (m - k) (n - k) a false).isSome]) ∧ (∀ t, extR rest (m - k) (n - k) a false = some t → (f, al) = t) ∧ V.grownBy w' none) := fun V hV => by
        have hG := gr_trans hBD.gr hV
        have h := HIH.out (m - k) (n - k) a false (.slice (some ⟨g, o, none⟩) rest.length cap) V hl (by omega) (by omega) (by omega) (RefAt.gr HH.out hHs hG) (by have := hG.size; omega) (SumsIs.gr HV.out hG) (by omega)
        rw [show ((m - k : Nat) : Int) = (m : Int) - (k : Int) by omega, show ((n - k : Nat) : Int) = (n : Int) - (k : Int) by omega] at h
        exact h
      clear HIH HV hBG
      refine wp_region_noPanic ?_
      refine wp_region_T (last := 20) (S := fun w' => w'.rangeAt w.heap.size 0 (a.map ub)) (by kernel_rfl) (hS _ (gr_refl _)) (fun hHeld => ?_)
      refine wpAnyT_take (i := 0) (oi := { dst := some 83, op := Op.move (Operand.tmp 0), type := 22, pos := "tree.go:115", after := #[], guard := none }) (v := ?_) rfl (by kernel_rfl) (by kernel_rfl) (by kernel_rfl) (fun _ _ _ h => h) (by kernel_rfl) (Or.inl ⟨by rfl, ?_⟩) (by assumption) ?_
      rotate_left
      · intro w' hSw
        try dsimp only at hSw
        go_simp
        try with_reducible rfl
      simp only [Act.put, List.setIfInBounds_toArray, List.set_cons_zero, List.set_cons_succ]
      refine wpAnyT_take (i := 1) (oi := { dst := some 84, op := Op.move (Operand.tmp 1), type := 3, pos := "tree.go:115", after := #[], guard := none }) (v := ?_) rfl (by kernel_rfl) (by kernel_rfl) (by kernel_rfl) (fun _ _ _ h => h) (by kernel_rfl) (Or.inl ⟨by rfl, ?_⟩) (by assumption) ?_
      rotate_left
      · intro w' hSw
        try dsimp only at hSw
        go_simp
        try with_reducible rfl
      simp only [Act.put, List.setIfInBounds_toArray, List.set_cons_zero, List.set_cons_succ]
      refine wpAnyT_take (i := 2) (oi := { dst := some 85, op := Op.move (Operand.tmp 16), type := 3, pos := "tree.go:115", after := #[], guard := none }) (v := ?_) rfl (by kernel_rfl) (by kernel_rfl) (by kernel_rfl) (fun _ _ _ h => h) (by kernel_rfl) (Or.inl ⟨by rfl, ?_⟩) (by assumption) ?_
      rotate_left
      · intro w' hSw
        try dsimp only at hSw
        go_simp
        try with_reducible rfl
      simp only [Act.put, List.setIfInBounds_toArray, List.set_cons_zero, List.set_cons_succ]
      refine wpAnyT_take (i := 3) (oi := { dst := some 86, op := Op.binOp BinOp.sub 3 (Operand.tmp 84) (Operand.tmp 85) 3, type := 3, pos := "tree.go:115", after := #[{ on := 1, ground := Ground.data }, { on := 2, ground := Ground.data }], guard := none }) (v := ?_) rfl (by kernel_rfl) (by kernel_rfl) (by kernel_rfl) (fun _ _ _ h => h) (by kernel_rfl) (Or.inl ⟨by rfl, ?_⟩) (by assumption) ?_
      rotate_left
      · intro w' hSw
        try dsimp only at hSw
        go_simp
        try with_reducible rfl
      simp only [Act.put, List.setIfInBounds_toArray, List.set_cons_zero, List.set_cons_succ]
      refine wpAnyT_take (i := 4) (oi := { dst := some 87, op := Op.move (Operand.tmp 2), type := 3, pos := "tree.go:115", after := #[], guard := none }) (v := ?_) rfl (by kernel_rfl) (by kernel_rfl) (by kernel_rfl) (fun _ _ _ h => h) (by kernel_rfl) (Or.inl ⟨by rfl, ?_⟩) (by assumption) ?_
      rotate_left
      · intro w' hSw
        try dsimp only at hSw
        go_simp
        try with_reducible rfl
      simp only [Act.put, List.setIfInBounds_toArray, List.set_cons_zero, List.set_cons_succ]
      refine wpAnyT_take (i := 5) (oi := { dst := some 88, op := Op.move (Operand.tmp 16), type := 3, pos := "tree.go:115", after := #[], guard := none }) (v := ?_) rfl (by kernel_rfl) (by kernel_rfl) (by kernel_rfl) (fun _ _ _ h => h) (by kernel_rfl) (Or.inl ⟨by rfl, ?_⟩) (by assumption) ?_
      rotate_left
      · intro w' hSw
        try dsimp only at hSw
        go_simp
        try with_reducible rfl
      simp only [Act.put, List.setIfInBounds_toArray, List.set_cons_zero, List.set_cons_succ]
      refine wpAnyT_take (i := 6) (oi := { dst := some 89, op := Op.binOp BinOp.sub 3 (Operand.tmp 87) (Operand.tmp 88) 3, type := 3, pos := "tree.go:115", after := #[{ on := 4, ground := Ground.data }, { on := 5, ground := Ground.data }], guard := none }) (v := ?_) rfl (by kernel_rfl) (by kernel_rfl) (by kernel_rfl) (fun _ _ _ h => h) (by kernel_rfl) (Or.inl ⟨by rfl, ?_⟩) (by assumption) ?_
      rotate_left
      · intro w' hSw
        try dsimp only at hSw
        go_simp
        try with_reducible rfl
      simp only [Act.put, List.setIfInBounds_toArray, List.set_cons_zero, List.set_cons_succ]
      refine wpAnyT_take (i := 7) (oi := { dst := some 90, op := Op.move (Operand.tmp 3), type := 38, pos := "tree.go:115", after := #[], guard := none }) (v := ?_) rfl (by kernel_rfl) (by kernel_rfl) (by kernel_rfl) (fun _ _ _ h => h) (by kernel_rfl) (Or.inl ⟨by rfl, ?_⟩) (by assumption) ?_
      rotate_left
      · intro w' hSw
        try dsimp only at hSw
        go_simp
        try with_reducible rfl
      simp only [Act.put, List.setIfInBounds_toArray, List.set_cons_zero, List.set_cons_succ]
      refine wpAnyT_take (i := 8) (oi := { dst := some 91, op := Op.move (Operand.tmp 15), type := 3, pos := "tree.go:115", after := #[], guard := none }) (v := ?_) rfl (by kernel_rfl) (by kernel_rfl) (by kernel_rfl) (fun _ _ _ h => h) (by kernel_rfl) (Or.inl ⟨by rfl, ?_⟩) (by assumption) ?_
      rotate_left
      · intro w' hSw
        try dsimp only at hSw
        go_simp
        try with_reducible rfl
      simp only [Act.put, List.setIfInBounds_toArray, List.set_cons_zero, List.set_cons_succ]
      refine wpAnyT_take (i := 9) (oi := { dst := some 92, op := Op.slice 38 (Operand.tmp 90) none (some (Operand.tmp 91)) none, type := 38, pos := "tree.go:115", after := #[{ on := 7, ground := Ground.data }, { on := 8, ground := Ground.data }], guard := none }) (v := ?_) rfl (by kernel_rfl) (by kernel_rfl) (by kernel_rfl) (fun _ _ _ h => h) (by kernel_rfl) (Or.inl ⟨by rfl, ?_⟩) (by assumption) ?_
      rotate_left
      · intro w' hSw
        try dsimp only at hSw
        go_simp
        try with_reducible rfl
      simp only [Act.put, List.setIfInBounds_toArray, List.set_cons_zero, List.set_cons_succ]
      refine wpAnyT_take (i := 10) (oi := { dst := some 93, op := Op.load 25 (Operand.tmp 10), type := 25, pos := "tree.go:115", after := #[], guard := none }) (v := .agg (a.map ub).toArray) rfl (by kernel_rfl) (by kernel_rfl) (by kernel_rfl) (fun _ _ _ h => h) (by kernel_rfl) (yieldsIf_load_mid (by rfl) _ _ rfl w.heap.size 0 rfl (a.map ub) _ (fun w' hSw => hSw) Tryd.underlying25 rfl HaI.out) (by assumption) ?_
      simp only [Act.put, List.setIfInBounds_toArray, List.set_cons_zero, List.set_cons_succ]
      generalize W.drew = D at *
      clear hHeld
      have hGD := gr_refl D
      have hDD : w.heap.size + 2 < D.heap.size := (Array.getElem?_eq_some_iff.1 hBD.two).1
      obtain ⟨DS, hDS⟩ : ∃ DS, DS = D.heap.size := ⟨_, rfl⟩
      rw [← hDS] at hDD
      refine wpAnyT_three (i := 11) (j := 16) (k := 17) (oi := { dst := some 94, op := Op.call { callee := Callee.value (Operand.func 69), args := #[Operand.tmp 83, Operand.tmp 86, Operand.tmp 89, Operand.tmp 92, Operand.tmp 93, Operand.const (Value.bool false)], argTypes := #[22, 3, 3, 38, 25, 4] }, type := 107, pos := "tree.go:115", after := #[{ on := 0, ground := Ground.data }, { on := 3, ground := Ground.data }, { on := 6, ground := Ground.data }, { on := 9, ground := Ground.data }, { on := 10, ground := Ground.data }], guard := none }) (oj := { dst := some 21, op := Op.alloc 25, type := 0, pos := "tree.go:115", after := #[], guard := none }) (ok := { dst := some 22, op := Op.alloc 25, type := 0, pos := "tree.go:115", after := #[], guard := none }) rfl rfl rfl (by kernel_rfl) (fun K hK => ?p1R) (fun K hK => ?p2R) (fun K hK => ?p3R)
      case' p1R =>
        go_simp
        refine (HC.out D hGD).mono ?_
        rintro e X1 ⟨f, al, hfl, hall, rfl, htop, hGc⟩
        have hGX1 := gr_trans hGD hGc
        refine hK.out _ _ (hS _ hGX1) (fun _ => ?_)
        have hHeldX1 := hS _ hGX1
        clear hK K hGc
        try simp only [Act.put, List.setIfInBounds_toArray, List.set_cons_zero, List.set_cons_succ]
        refine wpAnyT_take (i := 12) (oi := { dst := some 82, op := Op.move (Operand.tmp 94), type := 107, pos := "tree.go:115", after := #[{ on := 11, ground := Ground.data }], guard := none }) (v := ?_) rfl (by kernel_rfl) (by kernel_rfl) (by kernel_rfl) (fun _ _ _ h => h) (by kernel_rfl) (Or.inl ⟨by rfl, ?_⟩) (by assumption) ?_
        rotate_left
        · intro w' hSw
          try dsimp only at hSw
          go_simp
          try with_reducible rfl
        simp only [Act.put, List.setIfInBounds_toArray, List.set_cons_zero, List.set_cons_succ]
        refine wpAnyT_take (i := 13) (oi := { dst := some 95, op := Op.extract (Operand.tmp 82) 0, type := 25, pos := "tree.go:115", after := #[{ on := 12, ground := Ground.data }], guard := none }) (v := ?_) rfl (by kernel_rfl) (by kernel_rfl) (by kernel_rfl) (fun _ _ _ h => h) (by kernel_rfl) (Or.inl ⟨by rfl, ?_⟩) (by assumption) ?_
        rotate_left
        · intro w' hSw
          try dsimp only at hSw
          go_simp
          try with_reducible rfl
        simp only [Act.put, List.setIfInBounds_toArray, List.set_cons_zero, List.set_cons_succ]
        refine wpAnyT_take (i := 14) (oi := { dst := some 96, op := Op.extract (Operand.tmp 82) 1, type := 25, pos := "tree.go:115", after := #[{ on := 12, ground := Ground.data }, { on := 18, ground := Ground.gcOnly Go.Departure.lateStores }], guard := none }) (v := ?_) rfl (by kernel_rfl) (by kernel_rfl) (by kernel_rfl) (fun _ _ _ h => h) (by kernel_rfl) (Or.inl ⟨by rfl, ?_⟩) (by assumption) ?_
        rotate_left
        · intro w' hSw
          try dsimp only at hSw
          go_simp
          try with_reducible rfl
        simp only [Act.put, List.setIfInBounds_toArray, List.set_cons_zero, List.set_cons_succ]
        refine wpAnyT_take (i := 15) (oi := { dst := some 97, op := Op.extract (Operand.tmp 82) 2, type := 4, pos := "tree.go:115", after := #[{ on := 12, ground := Ground.data }, { on := 19, ground := Ground.gcOnly Go.Departure.lateStores }], guard := none }) (v := ?_) rfl (by kernel_rfl) (by kernel_rfl) (by kernel_rfl) (fun _ _ _ h => h) (by kernel_rfl) (Or.inl ⟨by rfl, ?_⟩) (by assumption) ?_
        rotate_left
        · intro w' hSw
          try dsimp only at hSw
          go_simp
          try with_reducible rfl
        simp only [Act.put, List.setIfInBounds_toArray, List.set_cons_zero, List.set_cons_succ]
        refine wpAnyT_two (i := 16) (j := 17) (oi := { dst := some 21, op := Op.alloc 25, type := 0, pos := "tree.go:115", after := #[], guard := none }) (oj := { dst := some 22, op := Op.alloc 25, type := 0, pos := "tree.go:115", after := #[], guard := none }) rfl rfl (by kernel_rfl) (fun K hK => ?q11R) (fun K hK => ?q12R)
        case' q11R =>
          rw [if_pos (by rfl)]
          refine wp_alloc25 rfl ?_
          have hGa := gr_alloc X1 (.cells (brow 32 []).toArray 25)
          have hGY1 := gr_trans hGX1 hGa
          have hz1 := heap_alloc_new X1 (.cells (brow 32 []).toArray 25)
          have hs1 : X1.heap.size < (X1.alloc (.cells (brow 32 []).toArray 25)).heap.size := by simp
          have hl1 : DS ≤ X1.heap.size := by have := hGX1.size; omega
          refine hK.out _ _ (hS _ hGY1) (fun _ => ?_)
          have hHeldY1 := hS _ hGY1
          clear hK K hGa
          try simp only [Act.put, List.setIfInBounds_toArray, List.set_cons_zero, List.set_cons_succ]
          generalize X1.alloc (.cells (brow 32 []).toArray 25) = Y1 at *
          generalize X1.heap.size = B1 at *
          refine wpAnyT_one (i := 17) (o := { dst := some 22, op := Op.alloc 25, type := 0, pos := "tree.go:115", after := #[], guard := none }) rfl (by kernel_rfl) (fun K hK => ?_)
          rw [if_pos (by rfl)]
          refine wp_alloc25 rfl ?_
          have hGa := gr_alloc Y1 (.cells (brow 32 []).toArray 25)
          have hGZ := gr_trans hGY1 hGa
          have hz2 := heap_alloc_new Y1 (.cells (brow 32 []).toArray 25)
          have hs2 : Y1.heap.size < (Y1.alloc (.cells (brow 32 []).toArray 25)).heap.size := by simp
          have hl2 : DS ≤ Y1.heap.size := by have := hGY1.size; omega
          have hne0 := Nat.ne_of_lt hs1
          replace hz1 := (hGa.block _ hs1 (by simp)).trans hz1
          replace hs1 := Nat.lt_of_lt_of_le hs1 hGa.size
          refine hK.out _ _ (fun _ => hS _ hGZ) (fun _ => ?_)
          have hHeldZ := hS _ hGZ
          clear hK K hGa
          try simp only [Act.put, List.setIfInBounds_toArray, List.set_cons_zero, List.set_cons_succ]
          generalize Y1.alloc (.cells (brow 32 []).toArray 25) = Z at *
          generalize Y1.heap.size = B2 at *
          have hne : B1 ≠ B2 := hne0
          clear hne0
        case' q12R =>
          rw [if_pos (by rfl)]
          refine wp_alloc25 rfl ?_
          have hGa := gr_alloc X1 (.cells (brow 32 []).toArray 25)
          have hGY1 := gr_trans hGX1 hGa
          have hz2 := heap_alloc_new X1 (.cells (brow 32 []).toArray 25)
          have hs2 : X1.heap.size < (X1.alloc (.cells (brow 32 []).toArray 25)).heap.size := by simp
          have hl2 : DS ≤ X1.heap.size := by have := hGX1.size; omega
          refine hK.out _ _ (hS _ hGY1) (fun _ => ?_)
          have hHeldY1 := hS _ hGY1
          clear hK K hGa
          try simp only [Act.put, List.setIfInBounds_toArray, List.set_cons_zero, List.set_cons_succ]
          generalize X1.alloc (.cells (brow 32 []).toArray 25) = Y1 at *
          generalize X1.heap.size = B2 at *
          refine wpAnyT_one (i := 16) (o := { dst := some 21, op := Op.alloc 25, type := 0, pos := "tree.go:115", after := #[], guard := none }) rfl (by kernel_rfl) (fun K hK => ?_)
          rw [if_pos (by rfl)]
          refine wp_alloc25 rfl ?_
          have hGa := gr_alloc Y1 (.cells (brow 32 []).toArray 25)
          have hGZ := gr_trans hGY1 hGa
          have hz1 := heap_alloc_new Y1 (.cells (brow 32 []).toArray 25)
          have hs1 : Y1.heap.size < (Y1.alloc (.cells (brow 32 []).toArray 25)).heap.size := by simp
          have hl1 : DS ≤ Y1.heap.size := by have := hGY1.size; omega
          have hne0 := Nat.ne_of_lt hs2
          replace hz2 := (hGa.block _ hs2 (by simp)).trans hz2
          replace hs2 := Nat.lt_of_lt_of_le hs2 hGa.size
          refine hK.out _ _ (fun _ => hS _ hGZ) (fun _ => ?_)
          have hHeldZ := hS _ hGZ
          clear hK K hGa
          try simp only [Act.put, List.setIfInBounds_toArray, List.set_cons_zero, List.set_cons_succ]
          generalize Y1.alloc (.cells (brow 32 []).toArray 25) = Z at *
          generalize Y1.heap.size = B1 at *
          have hne : B1 ≠ B2 := Ne.symm hne0
          clear hne0
      case' p2R =>
        rw [if_pos (by rfl)]
        refine wp_alloc25 rfl ?_
        have hGa := gr_alloc D (.cells (brow 32 []).toArray 25)
        have hGX2 := gr_trans hGD hGa
        have hz1 := heap_alloc_new D (.cells (brow 32 []).toArray 25)
        have hs1 : D.heap.size < (D.alloc (.cells (brow 32 []).toArray 25)).heap.size := by simp
        have hl1 : DS ≤ D.heap.size := by have := hGD.size; omega
        refine hK.out _ _ (hS _ hGX2) (fun _ => ?_)
        have hHeldX2 := hS _ hGX2
        clear hK K hGa
        try simp only [Act.put, List.setIfInBounds_toArray, List.set_cons_zero, List.set_cons_succ]
        generalize D.alloc (.cells (brow 32 []).toArray 25) = X2 at *
        generalize D.heap.size = B1 at *
        refine wpAnyT_two (i := 11) (j := 17) (oi := { dst := some 94, op := Op.call { callee := Callee.value (Operand.func 69), args := #[Operand.tmp 83, Operand.tmp 86, Operand.tmp 89, Operand.tmp 92, Operand.tmp 93, Operand.const (Value.bool false)], argTypes := #[22, 3, 3, 38, 25, 4] }, type := 107, pos := "tree.go:115", after := #[{ on := 0, ground := Ground.data }, { on := 3, ground := Ground.data }, { on := 6, ground := Ground.data }, { on := 9, ground := Ground.data }, { on := 10, ground := Ground.data }], guard := none }) (oj := { dst := some 22, op := Op.alloc 25, type := 0, pos := "tree.go:115", after := #[], guard := none }) rfl rfl (by kernel_rfl) (fun K hK => ?q21R) (fun K hK => ?q22R)
        case' q21R =>
          go_simp
          refine (HC.out X2 hGX2).mono ?_
          rintro e Y2 ⟨f, al, hfl, hall, rfl, htop, hGc⟩
          have hGY2 := gr_trans hGX2 hGc
          replace hz1 := (hGc.block _ hs1 (by simp)).trans hz1
          replace hs1 := Nat.lt_of_lt_of_le hs1 hGc.size
          refine hK.out _ _ (hS _ hGY2) (fun _ => ?_)
          have hHeldY2 := hS _ hGY2
          clear hK K hGc
          try simp only [Act.put, List.setIfInBounds_toArray, List.set_cons_zero, List.set_cons_succ]
          refine wpAnyT_take (i := 12) (oi := { dst := some 82, op := Op.move (Operand.tmp 94), type := 107, pos := "tree.go:115", after := #[{ on := 11, ground := Ground.data }], guard := none }) (v := ?_) rfl (by kernel_rfl) (by kernel_rfl) (by kernel_rfl) (fun _ _ _ h => h) (by kernel_rfl) (Or.inl ⟨by rfl, ?_⟩) (by assumption) ?_
          rotate_left
          · intro w' hSw
            try dsimp only at hSw
            go_simp
            try with_reducible rfl
          simp only [Act.put, List.setIfInBounds_toArray, List.set_cons_zero, List.set_cons_succ]
          refine wpAnyT_take (i := 13) (oi := { dst := some 95, op := Op.extract (Operand.tmp 82) 0, type := 25, pos := "tree.go:115", after := #[{ on := 12, ground := Ground.data }], guard := none }) (v := ?_) rfl (by kernel_rfl) (by kernel_rfl) (by kernel_rfl) (fun _ _ _ h => h) (by kernel_rfl) (Or.inl ⟨by rfl, ?_⟩) (by assumption) ?_
          rotate_left
          · intro w' hSw
            try dsimp only at hSw
            go_simp
            try with_reducible rfl
          simp only [Act.put, List.setIfInBounds_toArray, List.set_cons_zero, List.set_cons_succ]
          refine wpAnyT_take (i := 14) (oi := { dst := some 96, op := Op.extract (Operand.tmp 82) 1, type := 25, pos := "tree.go:115", after := #[{ on := 12, ground := Ground.data }, { on := 18, ground := Ground.gcOnly Go.Departure.lateStores }], guard := none }) (v := ?_) rfl (by kernel_rfl) (by kernel_rfl) (by kernel_rfl) (fun _ _ _ h => h) (by kernel_rfl) (Or.inl ⟨by rfl, ?_⟩) (by assumption) ?_
          rotate_left
          · intro w' hSw
            try dsimp only at hSw
            go_simp
            try with_reducible rfl
          simp only [Act.put, List.setIfInBounds_toArray, List.set_cons_zero, List.set_cons_succ]
          refine wpAnyT_take (i := 15) (oi := { dst := some 97, op := Op.extract (Operand.tmp 82) 2, type := 4, pos := "tree.go:115", after := #[{ on := 12, ground := Ground.data }, { on := 19, ground := Ground.gcOnly Go.Departure.lateStores }], guard := none }) (v := ?_) rfl (by kernel_rfl) (by kernel_rfl) (by kernel_rfl) (fun _ _ _ h => h) (by kernel_rfl) (Or.inl ⟨by rfl, ?_⟩) (by assumption) ?_
          rotate_left
          · intro w' hSw
            try dsimp only at hSw
            go_simp
            try with_reducible rfl
          simp only [Act.put, List.setIfInBounds_toArray, List.set_cons_zero, List.set_cons_succ]
          refine wpAnyT_one (i := 17) (o := { dst := some 22, op := Op.alloc 25, type := 0, pos := "tree.go:115", after := #[], guard := none }) rfl (by kernel_rfl) (fun K hK => ?_)
          rw [if_pos (by rfl)]
          refine wp_alloc25 rfl ?_
          have hGa := gr_alloc Y2 (.cells (brow 32 []).toArray 25)
          have hGZ := gr_trans hGY2 hGa
          have hz2 := heap_alloc_new Y2 (.cells (brow 32 []).toArray 25)
          have hs2 : Y2.heap.size < (Y2.alloc (.cells (brow 32 []).toArray 25)).heap.size := by simp
          have hl2 : DS ≤ Y2.heap.size := by have := hGY2.size; omega
          have hne0 := Nat.ne_of_lt hs1
          replace hz1 := (hGa.block _ hs1 (by simp)).trans hz1
          replace hs1 := Nat.lt_of_lt_of_le hs1 hGa.size
          refine hK.out _ _ (fun _ => hS _ hGZ) (fun _ => ?_)
          have hHeldZ := hS _ hGZ
          clear hK K hGa
          try simp only [Act.put, List.setIfInBounds_toArray, List.set_cons_zero, List.set_cons_succ]
          generalize Y2.alloc (.cells (brow 32 []).toArray 25) = Z at *
          generalize Y2.heap.size = B2 at *
          have hne : B1 ≠ B2 := hne0
          clear hne0
        case' q22R =>
          rw [if_pos (by rfl)]
          refine wp_alloc25 rfl ?_
          have hGa := gr_alloc X2 (.cells (brow 32 []).toArray 25)
          have hGY2 := gr_trans hGX2 hGa
          have hz2 := heap_alloc_new X2 (.cells (brow 32 []).toArray 25)
          have hs2 : X2.heap.size < (X2.alloc (.cells (brow 32 []).toArray 25)).heap.size := by simp
          have hl2 : DS ≤ X2.heap.size := by have := hGX2.size; omega
          have hne0 := Nat.ne_of_lt hs1
          replace hz1 := (hGa.block _ hs1 (by simp)).trans hz1
          replace hs1 := Nat.lt_of_lt_of_le hs1 hGa.size
          refine hK.out _ _ (hS _ hGY2) (fun _ => ?_)
          have hHeldY2 := hS _ hGY2
          clear hK K hGa
          try simp only [Act.put, List.setIfInBounds_toArray, List.set_cons_zero, List.set_cons_succ]
          generalize X2.alloc (.cells (brow 32 []).toArray 25) = Y2 at *
          generalize X2.heap.size = B2 at *
          refine wpAnyT_one (i := 11) (o := { dst := some 94, op := Op.call { callee := Callee.value (Operand.func 69), args := #[Operand.tmp 83, Operand.tmp 86, Operand.tmp 89, Operand.tmp 92, Operand.tmp 93, Operand.const (Value.bool false)], argTypes := #[22, 3, 3, 38, 25, 4] }, type := 107, pos := "tree.go:115", after := #[{ on := 0, ground := Ground.data }, { on := 3, ground := Ground.data }, { on := 6, ground := Ground.data }, { on := 9, ground := Ground.data }, { on := 10, ground := Ground.data }], guard := none }) rfl (by kernel_rfl) (fun K hK => ?_)
          go_simp
          refine (HC.out Y2 hGY2).mono ?_
          rintro e Z ⟨f, al, hfl, hall, rfl, htop, hGc⟩
          have hGZ := gr_trans hGY2 hGc
          replace hz1 := (hGc.block _ hs1 (by simp)).trans hz1
          replace hs1 := Nat.lt_of_lt_of_le hs1 hGc.size
          replace hz2 := (hGc.block _ hs2 (by simp)).trans hz2
          replace hs2 := Nat.lt_of_lt_of_le hs2 hGc.size
          refine hK.out _ _ (fun _ => hS _ hGZ) (fun _ => ?_)
          have hHeldZ := hS _ hGZ
          clear hK K hGc
          try simp only [Act.put, List.setIfInBounds_toArray, List.set_cons_zero, List.set_cons_succ]
          refine wpAnyT_take (i := 12) (oi := { dst := some 82, op := Op.move (Operand.tmp 94), type := 107, pos := "tree.go:115", after := #[{ on := 11, ground := Ground.data }], guard := none }) (v := ?_) rfl (by kernel_rfl) (by kernel_rfl) (by kernel_rfl) (fun _ _ _ h => h) (by kernel_rfl) (Or.inl ⟨by rfl, ?_⟩) (by assumption) ?_
          rotate_left
          · intro w' hSw
            try dsimp only at hSw
            go_simp
            try with_reducible rfl
          simp only [Act.put, List.setIfInBounds_toArray, List.set_cons_zero, List.set_cons_succ]
          refine wpAnyT_take (i := 13) (oi := { dst := some 95, op := Op.extract (Operand.tmp 82) 0, type := 25, pos := "tree.go:115", after := #[{ on := 12, ground := Ground.data }], guard := none }) (v := ?_) rfl (by kernel_rfl) (by kernel_rfl) (by kernel_rfl) (fun _ _ _ h => h) (by kernel_rfl) (Or.inl ⟨by rfl, ?_⟩) (by assumption) ?_
          rotate_left
          · intro w' hSw
            try dsimp only at hSw
            go_simp
            try with_reducible rfl
          simp only [Act.put, List.setIfInBounds_toArray, List.set_cons_zero, List.set_cons_succ]
          refine wpAnyT_take (i := 14) (oi := { dst := some 96, op := Op.extract (Operand.tmp 82) 1, type := 25, pos := "tree.go:115", after := #[{ on := 12, ground := Ground.data }, { on := 18, ground := Ground.gcOnly Go.Departure.lateStores }], guard := none }) (v := ?_) rfl (by kernel_rfl) (by kernel_rfl) (by kernel_rfl) (fun _ _ _ h => h) (by kernel_rfl) (Or.inl ⟨by rfl, ?_⟩) (by assumption) ?_
          rotate_left
          · intro w' hSw
            try dsimp only at hSw
            go_simp
            try with_reducible rfl
          simp only [Act.put, List.setIfInBounds_toArray, List.set_cons_zero, List.set_cons_succ]
          refine wpAnyT_take (i := 15) (oi := { dst := some 97, op := Op.extract (Operand.tmp 82) 2, type := 4, pos := "tree.go:115", after := #[{ on := 12, ground := Ground.data }, { on := 19, ground := Ground.gcOnly Go.Departure.lateStores }], guard := none }) (v := ?_) rfl (by kernel_rfl) (by kernel_rfl) (by kernel_rfl) (fun _ _ _ h => h) (by kernel_rfl) (Or.inl ⟨by rfl, ?_⟩) (by assumption) ?_
          rotate_left
          · intro w' hSw
            try dsimp only at hSw
            go_simp
            try with_reducible rfl
          simp only [Act.put, List.setIfInBounds_toArray, List.set_cons_zero, List.set_cons_succ]
          have hne : B1 ≠ B2 := hne0
          clear hne0
      case' p3R =>
        rw [if_pos (by rfl)]
        refine wp_alloc25 rfl ?_
        have hGa := gr_alloc D (.cells (brow 32 []).toArray 25)
        have hGX3 := gr_trans hGD hGa
        have hz2 := heap_alloc_new D (.cells (brow 32 []).toArray 25)
        have hs2 : D.heap.size < (D.alloc (.cells (brow 32 []).toArray 25)).heap.size := by simp
        have hl2 : DS ≤ D.heap.size := by have := hGD.size; omega
        refine hK.out _ _ (hS _ hGX3) (fun _ => ?_)
        have hHeldX3 := hS _ hGX3
        clear hK K hGa
        try simp only [Act.put, List.setIfInBounds_toArray, List.set_cons_zero, List.set_cons_succ]
        generalize D.alloc (.cells (brow 32 []).toArray 25) = X3 at *
        generalize D.heap.size = B2 at *
        refine wpAnyT_two (i := 11) (j := 16) (oi := { dst := some 94, op := Op.call { callee := Callee.value (Operand.func 69), args := #[Operand.tmp 83, Operand.tmp 86, Operand.tmp 89, Operand.tmp 92, Operand.tmp 93, Operand.const (Value.bool false)], argTypes := #[22, 3, 3, 38, 25, 4] }, type := 107, pos := "tree.go:115", after := #[{ on := 0, ground := Ground.data }, { on := 3, ground := Ground.data }, { on := 6, ground := Ground.data }, { on := 9, ground := Ground.data }, { on := 10, ground := Ground.data }], guard := none }) (oj := { dst := some 21, op := Op.alloc 25, type := 0, pos := "tree.go:115", after := #[], guard := none }) rfl rfl (by kernel_rfl) (fun K hK => ?q31R) (fun K hK => ?q32R)
        case' q31R =>
          go_simp
          refine (HC.out X3 hGX3).mono ?_
          rintro e Y3 ⟨f, al, hfl, hall, rfl, htop, hGc⟩
          have hGY3 := gr_trans hGX3 hGc
          replace hz2 := (hGc.block _ hs2 (by simp)).trans hz2
          replace hs2 := Nat.lt_of_lt_of_le hs2 hGc.size
          refine hK.out _ _ (hS _ hGY3) (fun _ => ?_)
          have hHeldY3 := hS _ hGY3
          clear hK K hGc
          try simp only [Act.put, List.setIfInBounds_toArray, List.set_cons_zero, List.set_cons_succ]
          refine wpAnyT_take (i := 12) (oi := { dst := some 82, op := Op.move (Operand.tmp 94), type := 107, pos := "tree.go:115", after := #[{ on := 11, ground := Ground.data }], guard := none }) (v := ?_) rfl (by kernel_rfl) (by kernel_rfl) (by kernel_rfl) (fun _ _ _ h => h) (by kernel_rfl) (Or.inl ⟨by rfl, ?_⟩) (by assumption) ?_
          rotate_left
          · intro w' hSw
            try dsimp only at hSw
            go_simp
            try with_reducible rfl
          simp only [Act.put, List.setIfInBounds_toArray, List.set_cons_zero, List.set_cons_succ]
          refine wpAnyT_take (i := 13) (oi := { dst := some 95, op := Op.extract (Operand.tmp 82) 0, type := 25, pos := "tree.go:115", after := #[{ on := 12, ground := Ground.data }], guard := none }) (v := ?_) rfl (by kernel_rfl) (by kernel_rfl) (by kernel_rfl) (fun _ _ _ h => h) (by kernel_rfl) (Or.inl ⟨by rfl, ?_⟩) (by assumption) ?_
          rotate_left
          · intro w' hSw
            try dsimp only at hSw
            go_simp
            try with_reducible rfl
          simp only [Act.put, List.setIfInBounds_toArray, List.set_cons_zero, List.set_cons_succ]
          refine wpAnyT_take (i := 14) (oi := { dst := some 96, op := Op.extract (Operand.tmp 82) 1, type := 25, pos := "tree.go:115", after := #[{ on := 12, ground := Ground.data }, { on := 18, ground := Ground.gcOnly Go.Departure.lateStores }], guard := none }) (v := ?_) rfl (by kernel_rfl) (by kernel_rfl) (by kernel_rfl) (fun _ _ _ h => h) (by kernel_rfl) (Or.inl ⟨by rfl, ?_⟩) (by assumption) ?_
          rotate_left
          · intro w' hSw
            try dsimp only at hSw
            go_simp
            try with_reducible rfl
          simp only [Act.put, List.setIfInBounds_toArray, List.set_cons_zero, List.set_cons_succ]
          refine wpAnyT_take (i := 15) (oi := { dst := some 97, op := Op.extract (Operand.tmp 82) 2, type := 4, pos := "tree.go:115", after := #[{ on := 12, ground := Ground.data }, { on := 19, ground := Ground.gcOnly Go.Departure.lateStores }], guard := none }) (v := ?_) rfl (by kernel_rfl) (by kernel_rfl) (by kernel_rfl) (fun _ _ _ h => h) (by kernel_rfl) (Or.inl ⟨by rfl, ?_⟩) (by assumption) ?_
          rotate_left
          · intro w' hSw
            try dsimp only at hSw
            go_simp
            try with_reducible rfl
          simp only [Act.put, List.setIfInBounds_toArray, List.set_cons_zero, List.set_cons_succ]
          refine wpAnyT_one (i := 16) (o := { dst := some 21, op := Op.alloc 25, type := 0, pos := "tree.go:115", after := #[], guard := none }) rfl (by kernel_rfl) (fun K hK => ?_)
          rw [if_pos (by rfl)]
          refine wp_alloc25 rfl ?_
          have hGa := gr_alloc Y3 (.cells (brow 32 []).toArray 25)
          have hGZ := gr_trans hGY3 hGa
          have hz1 := heap_alloc_new Y3 (.cells (brow 32 []).toArray 25)
          have hs1 : Y3.heap.size < (Y3.alloc (.cells (brow 32 []).toArray 25)).heap.size := by simp
          have hl1 : DS ≤ Y3.heap.size := by have := hGY3.size; omega
          have hne0 := Nat.ne_of_lt hs2
          replace hz2 := (hGa.block _ hs2 (by simp)).trans hz2
          replace hs2 := Nat.lt_of_lt_of_le hs2 hGa.size
          refine hK.out _ _ (fun _ => hS _ hGZ) (fun _ => ?_)
          have hHeldZ := hS _ hGZ
          clear hK K hGa
          try simp only [Act.put, List.setIfInBounds_toArray, List.set_cons_zero, List.set_cons_succ]
          generalize Y3.alloc (.cells (brow 32 []).toArray 25) = Z at *
          generalize Y3.heap.size = B1 at *
          have hne : B1 ≠ B2 := Ne.symm hne0
          clear hne0
        case' q32R =>
          rw [if_pos (by rfl)]
          refine wp_alloc25 rfl ?_
          have hGa := gr_alloc X3 (.cells (brow 32 []).toArray 25)
          have hGY3 := gr_trans hGX3 hGa
          have hz1 := heap_alloc_new X3 (.cells (brow 32 []).toArray 25)
          have hs1 : X3.heap.size < (X3.alloc (.cells (brow 32 []).toArray 25)).heap.size := by simp
          have hl1 : DS ≤ X3.heap.size := by have := hGX3.size; omega
          have hne0 := Nat.ne_of_lt hs2
          replace hz2 := (hGa.block _ hs2 (by simp)).trans hz2
          replace hs2 := Nat.lt_of_lt_of_le hs2 hGa.size
          refine hK.out _ _ (hS _ hGY3) (fun _ => ?_)
          have hHeldY3 := hS _ hGY3
          clear hK K hGa
          try simp only [Act.put, List.setIfInBounds_toArray, List.set_cons_zero, List.set_cons_succ]
          generalize X3.alloc (.cells (brow 32 []).toArray 25) = Y3 at *
          generalize X3.heap.size = B1 at *
          refine wpAnyT_one (i := 11) (o := { dst := some 94, op := Op.call { callee := Callee.value (Operand.func 69), args := #[Operand.tmp 83, Operand.tmp 86, Operand.tmp 89, Operand.tmp 92, Operand.tmp 93, Operand.const (Value.bool false)], argTypes := #[22, 3, 3, 38, 25, 4] }, type := 107, pos := "tree.go:115", after := #[{ on := 0, ground := Ground.data }, { on := 3, ground := Ground.data }, { on := 6, ground := Ground.data }, { on := 9, ground := Ground.data }, { on := 10, ground := Ground.data }], guard := none }) rfl (by kernel_rfl) (fun K hK => ?_)
          go_simp
          refine (HC.out Y3 hGY3).mono ?_
          rintro e Z ⟨f, al, hfl, hall, rfl, htop, hGc⟩
          have hGZ := gr_trans hGY3 hGc
          replace hz2 := (hGc.block _ hs2 (by simp)).trans hz2
          replace hs2 := Nat.lt_of_lt_of_le hs2 hGc.size
          replace hz1 := (hGc.block _ hs1 (by simp)).trans hz1
          replace hs1 := Nat.lt_of_lt_of_le hs1 hGc.size
          refine hK.out _ _ (fun _ => hS _ hGZ) (fun _ => ?_)
          have hHeldZ := hS _ hGZ
          clear hK K hGc
          try simp only [Act.put, List.setIfInBounds_toArray, List.set_cons_zero, List.set_cons_succ]
          refine wpAnyT_take (i := 12) (oi := { dst := some 82, op := Op.move (Operand.tmp 94), type := 107, pos := "tree.go:115", after := #[{ on := 11, ground := Ground.data }], guard := none }) (v := ?_) rfl (by kernel_rfl) (by kernel_rfl) (by kernel_rfl) (fun _ _ _ h => h) (by kernel_rfl) (Or.inl ⟨by rfl, ?_⟩) (by assumption) ?_
          rotate_left
          · intro w' hSw
            try dsimp only at hSw
            go_simp
            try with_reducible rfl
          simp only [Act.put, List.setIfInBounds_toArray, List.set_cons_zero, List.set_cons_succ]
          refine wpAnyT_take (i := 13) (oi := { dst := some 95, op := Op.extract (Operand.tmp 82) 0, type := 25, pos := "tree.go:115", after := #[{ on := 12, ground := Ground.data }], guard := none }) (v := ?_) rfl (by kernel_rfl) (by kernel_rfl) (by kernel_rfl) (fun _ _ _ h => h) (by kernel_rfl) (Or.inl ⟨by rfl, ?_⟩) (by assumption) ?_
          rotate_left
          · intro w' hSw
            try dsimp only at hSw
            go_simp
            try with_reducible rfl
          simp only [Act.put, List.setIfInBounds_toArray, List.set_cons_zero, List.set_cons_succ]
          refine wpAnyT_take (i := 14) (oi := { dst := some 96, op := Op.extract (Operand.tmp 82) 1, type := 25, pos := "tree.go:115", after := #[{ on := 12, ground := Ground.data }, { on := 18, ground := Ground.gcOnly Go.Departure.lateStores }], guard := none }) (v := ?_) rfl (by kernel_rfl) (by kernel_rfl) (by kernel_rfl) (fun _ _ _ h => h) (by kernel_rfl) (Or.inl ⟨by rfl, ?_⟩) (by assumption) ?_
          rotate_left
          · intro w' hSw
            try dsimp only at hSw
            go_simp
            try with_reducible rfl
          simp only [Act.put, List.setIfInBounds_toArray, List.set_cons_zero, List.set_cons_succ]
          refine wpAnyT_take (i := 15) (oi := { dst := some 97, op := Op.extract (Operand.tmp 82) 2, type := 4, pos := "tree.go:115", after := #[{ on := 12, ground := Ground.data }, { on := 19, ground := Ground.gcOnly Go.Departure.lateStores }], guard := none }) (v := ?_) rfl (by kernel_rfl) (by kernel_rfl) (by kernel_rfl) (fun _ _ _ h => h) (by kernel_rfl) (Or.inl ⟨by rfl, ?_⟩) (by assumption) ?_
          rotate_left
          · intro w' hSw
            try dsimp only at hSw
            go_simp
            try with_reducible rfl
          simp only [Act.put, List.setIfInBounds_toArray, List.set_cons_zero, List.set_cons_succ]
          have hne : B1 ≠ B2 := Ne.symm hne0
          clear hne0
      all_goals
        clear HC
        have HTOP : Hid (∀ t, extR rest (m - k) (n - k) a false = some t → (f, al) = t) := htop
        clear htop
        generalize eok : (extR rest (m - k) (n - k) a false).isSome = okk at *
        have hD2 : w.heap.size + 2 < D.heap.size := (Array.getElem?_eq_some_iff.1 hBD.two).1
        have hG0Z := gr_trans hBD.gr hGZ
        have hSV : ∀ U : World, (∀ k, k ≠ B1 → k ≠ B2 → U.heap[k]? = Z.heap[k]?) → U.rangeAt w.heap.size 0 (a.map ub) := fun U hU j x hj => by
          have hb : U.heap[w.heap.size]? = some (.cells (a.map ub).toArray 25 (0, 0)) := (hU _ (by omega) (by omega)).trans ((hGZ.block _ (by omega) (by simp)).trans hBD.box)
          rw [Nat.zero_add, cell_of_row U _ _ _ _ _ hb]; simpa using hj
        refine wpAnyT_ss (i := 18) (j := 19) (k := 20) (p1 := 21) (q1 := 95) (p2 := 22) (q2 := 96) rfl rfl rfl (by kernel_rfl) (by kernel_rfl) (by kernel_rfl) (by kernel_rfl) rfl rfl rfl rfl rfl rfl rfl rfl 23 rfl (.bool okk) rfl B1 B2 f al hfl hall hne rfl rfl rfl rfl hz1 hz2 hSV (fun V hTW => ?_)
        try simp only [Act.put, List.setIfInBounds_toArray, List.set_cons_zero, List.set_cons_succ]
        refine NoPanic.normal ?_
        have hG0V := hTW.gr w hG0Z (by omega) (by omega)
        have hR1 : V.heap[w.heap.size + 1]? = some (.cells (brow 32 []).toArray 25 (0, 0)) := (hTW.other _ (by omega) (by omega)).trans ((hGZ.block _ (by omega) (by simp)).trans hBD.one)
        have hR2 : V.heap[w.heap.size + 2]? = some (.cells (brow 32 []).toArray 25 (0, 0)) := (hTW.other _ (by omega) (by omega)).trans ((hGZ.block _ (by omega) (by simp)).trans hBD.two)
        have hF := hTW.one
        have hAl := hTW.two
        have hb1 : w.heap.size + 2 < B1 := by omega
        have hb2 : w.heap.size + 2 < B2 := by omega
        clear hTW hSV hG0Z hS hGZ hz1 hz2 hs1 hs2 hl1 hl2 hBD hD2
        go_wp2
        have HxI1 : Hid ((Tryd.prog.info? 25).map (·.size) = some ((f).map ub).length) := by
          show _ = _
          rw [info25' (R := ((f).map ub).toArray) rfl hfl]; simp
        have hS1 : ∀ U : World, V.drew.grownBy U none → U.rangeAt B1 0 ((f).map ub) ∧ U.rangeAt g (o + rest.length * 32) (s.map ub) := fun U hU => ⟨fun j x hj => by
            have hb : U.heap[B1]? = some (.cells ((f).map ub).toArray 25 (0, 0)) := (hU.block _ (Array.getElem?_eq_some_iff.1 hF).1 (by simp)).trans hF
            rw [Nat.zero_add, cell_of_row U _ _ _ _ _ hb]; simpa using hj,
          fun j x hj => (gr_cell (gr_trans (gr_drew hG0V) hU) (p := ⟨g, o + rest.length * 32 + j, none⟩) hg).trans (HRG.out j x hj)⟩
        refine wp_region_noPanic ?_
        refine wp_region_T (last := 8) (S := fun w' => w'.rangeAt B1 0 ((f).map ub) ∧ w'.rangeAt g (o + rest.length * 32) (s.map ub)) (by kernel_rfl) (hS1 _ (gr_refl _)) (fun hHeld => ?_)
        refine wpAnyT_take (i := 0) (oi := { dst := some 98, op := Op.move (Operand.tmp 0), type := 22, pos := "tree.go:116", after := #[], guard := none }) (v := ?_) rfl (by kernel_rfl) (by kernel_rfl) (by kernel_rfl) (fun _ _ _ h => h) (by kernel_rfl) (Or.inl ⟨by rfl, ?_⟩) (by assumption) ?_
        rotate_left
        · intro w' hSw
          try dsimp only at hSw
          go_simp
          try with_reducible rfl
        simp only [Act.put, List.setIfInBounds_toArray, List.set_cons_zero, List.set_cons_succ]
        refine wpAnyT_take (i := 1) (oi := { dst := some 99, op := Op.move (Operand.tmp 3), type := 38, pos := "tree.go:116", after := #[], guard := none }) (v := ?_) rfl (by kernel_rfl) (by kernel_rfl) (by kernel_rfl) (fun _ _ _ h => h) (by kernel_rfl) (Or.inl ⟨by rfl, ?_⟩) (by assumption) ?_
        rotate_left
        · intro w' hSw
          try dsimp only at hSw
          go_simp
          try with_reducible rfl
        simp only [Act.put, List.setIfInBounds_toArray, List.set_cons_zero, List.set_cons_succ]
        refine wpAnyT_take (i := 2) (oi := { dst := some 100, op := Op.move (Operand.tmp 15), type := 3, pos := "tree.go:116", after := #[], guard := none }) (v := ?_) rfl (by kernel_rfl) (by kernel_rfl) (by kernel_rfl) (fun _ _ _ h => h) (by kernel_rfl) (Or.inl ⟨by rfl, ?_⟩) (by assumption) ?_
        rotate_left
        · intro w' hSw
          try dsimp only at hSw
          go_simp
          try with_reducible rfl
        simp only [Act.put, List.setIfInBounds_toArray, List.set_cons_zero, List.set_cons_succ]
        refine wpAnyT_take (i := 3) (oi := { dst := some 101, op := Op.indexAddr 38 (Operand.tmp 99) (Operand.tmp 100), type := 0, pos := "tree.go:116", after := #[{ on := 1, ground := Ground.data }, { on := 2, ground := Ground.data }], guard := none }) (v := ?_) rfl (by kernel_rfl) (by kernel_rfl) (by kernel_rfl) (fun _ _ _ h => h) (by kernel_rfl) (Or.inl ⟨by rfl, ?_⟩) (by assumption) ?_
        rotate_left
        · intro w' hSw
          try dsimp only at hSw
          go_simp
          try with_reducible rfl
        simp only [Act.put, List.setIfInBounds_toArray, List.set_cons_zero, List.set_cons_succ]
        refine wpAnyT_take (i := 4) (oi := { dst := some 102, op := Op.load 25 (Operand.tmp 101), type := 25, pos := "tree.go:116", after := #[{ on := 3, ground := Ground.data }], guard := none }) (v := .agg (s.map ub).toArray) rfl (by kernel_rfl) (by kernel_rfl) (by kernel_rfl) (fun _ _ _ h => h) (by kernel_rfl) (yieldsIf_load_mid (by rfl) _ _ rfl g (o + rest.length * 32) rfl (s.map ub) _ (fun w' hSw => hSw.2) Tryd.underlying25 rfl HsI.out) (by assumption) ?_
        simp only [Act.put, List.setIfInBounds_toArray, List.set_cons_zero, List.set_cons_succ]
        refine wpAnyT_take (i := 5) (oi := { dst := some 103, op := Op.load 25 (Operand.tmp 21), type := 25, pos := "tree.go:116", after := #[], guard := none }) (v := .agg ((f).map ub).toArray) rfl (by kernel_rfl) (by kernel_rfl) (by kernel_rfl) (fun _ _ _ h => h) (by kernel_rfl) (yieldsIf_load_mid (by rfl) _ _ rfl B1 0 rfl ((f).map ub) _ (fun w' hSw => hSw.1) Tryd.underlying25 rfl HxI1.out) (by assumption) ?_
        simp only [Act.put, List.setIfInBounds_toArray, List.set_cons_zero, List.set_cons_succ]
        clear hHeld
        have HND1 : Hid (∀ U : World, V.drew.grownBy U none → Calls Tryd.prog 56 #[.pointer (some ⟨H, 0, none⟩), .int .u8 1, .agg (((s)).map ub).toArray, .agg ((f).map ub).toArray] U fun e w' => e = .returned (.agg ((sha (nodeL 1 s (f))).map ub).toArray) ∧ U.grownBy w' none) := fun U hU =>
          node_any H 1 s (f) hs hfl U (RefAt.gr HH.out hHs (gr_trans (gr_drew hG0V) hU)) (by have := (gr_trans (gr_drew hG0V) hU).size; omega)
        refine wpAnyT_ca (i := 6) (j := 7) (k := 8) (R := sha (nodeL 1 s (f))) (p := 24) (q := 104) rfl rfl rfl (by kernel_rfl) (by kernel_rfl) (by kernel_rfl) (by kernel_rfl) (by kernel_rfl) rfl rfl rfl rfl rfl rfl rfl (by decide) (by decide) (by simp) (by simp) hS1 (length_sha _) (fun U a' hU ha' K hK => ?_) (fun C1 Z1 hC1 _ hZ1 hGn1 => ?_)
        · rcases ha' with rfl | ⟨x, rfl⟩
          · go_simp
            refine (HND1.out U hU).mono ?_
            rintro e w' ⟨rfl, hG⟩
            exact hK.out _ hG
          · simp only [Act.put, List.setIfInBounds_toArray, List.set_cons_zero, List.set_cons_succ]
            go_simp
            refine (HND1.out U hU).mono ?_
            rintro e w' ⟨rfl, hG⟩
            exact hK.out _ hG
        simp only [Act.put, List.setIfInBounds_toArray, List.set_cons_zero, List.set_cons_succ]
        refine NoPanic.normal ?_
        have hNG1 := gr_trans (gr_drew hG0V) hGn1
        have hF1 : Z1.heap[B1]? = some (.cells ((f).map ub).toArray 25 (0, 0)) := (hGn1.block _ (Array.getElem?_eq_some_iff.1 hF).1 (by simp)).trans hF
        have hAl1 : Z1.heap[B2]? = some (.cells ((al).map ub).toArray 25 (0, 0)) := (hGn1.block _ (Array.getElem?_eq_some_iff.1 hAl).1 (by simp)).trans hAl
        have hRa1 : Z1.heap[w.heap.size + 1]? = some (.cells (brow 32 []).toArray 25 (0, 0)) := (hGn1.block _ (Array.getElem?_eq_some_iff.1 hR1).1 (by simp)).trans hR1
        have hRb1 : Z1.heap[w.heap.size + 2]? = some (.cells (brow 32 []).toArray 25 (0, 0)) := (hGn1.block _ (Array.getElem?_eq_some_iff.1 hR2).1 (by simp)).trans hR2
        have hbC1 : w.heap.size + 2 < C1 := Nat.lt_of_lt_of_le (Array.getElem?_eq_some_iff.1 hR2).1 hC1
        clear hS1 HND1 HxI1 hGn1 hC1 hR1 hR2 hF hAl hG0V
        generalize eN1 : sha (nodeL 1 s (f)) = nn1 at *
        have hnl1 : nn1.length = 32 := by rw [← eN1]; exact length_sha _
        go_wp2
        have HxI2 : Hid ((Tryd.prog.info? 25).map (·.size) = some ((al).map ub).length) := by
          show _ = _
          rw [info25' (R := ((al).map ub).toArray) rfl hall]; simp
        have hS2 : ∀ U : World, Z1.drew.grownBy U none → U.rangeAt B2 0 ((al).map ub) ∧ U.rangeAt g (o + rest.length * 32) (s.map ub) := fun U hU => ⟨fun j x hj => by
            have hb : U.heap[B2]? = some (.cells ((al).map ub).toArray 25 (0, 0)) := (hU.block _ (Array.getElem?_eq_some_iff.1 hAl1).1 (by simp)).trans hAl1
            rw [Nat.zero_add, cell_of_row U _ _ _ _ _ hb]; simpa using hj,
          fun j x hj => (gr_cell (gr_trans (gr_drew hNG1) hU) (p := ⟨g, o + rest.length * 32 + j, none⟩) hg).trans (HRG.out j x hj)⟩
        refine wp_region_noPanic ?_
        refine wp_region_T (last := 8) (S := fun w' => w'.rangeAt B2 0 ((al).map ub) ∧ w'.rangeAt g (o + rest.length * 32) (s.map ub)) (by kernel_rfl) (hS2 _ (gr_refl _)) (fun hHeld => ?_)
        refine wpAnyT_take (i := 0) (oi := { dst := some 105, op := Op.move (Operand.tmp 0), type := 22, pos := "tree.go:117", after := #[], guard := none }) (v := ?_) rfl (by kernel_rfl) (by kernel_rfl) (by kernel_rfl) (fun _ _ _ h => h) (by kernel_rfl) (Or.inl ⟨by rfl, ?_⟩) (by assumption) ?_
        rotate_left
        · intro w' hSw
          try dsimp only at hSw
          go_simp
          try with_reducible rfl
        simp only [Act.put, List.setIfInBounds_toArray, List.set_cons_zero, List.set_cons_succ]
        refine wpAnyT_take (i := 1) (oi := { dst := some 106, op := Op.move (Operand.tmp 3), type := 38, pos := "tree.go:117", after := #[], guard := none }) (v := ?_) rfl (by kernel_rfl) (by kernel_rfl) (by kernel_rfl) (fun _ _ _ h => h) (by kernel_rfl) (Or.inl ⟨by rfl, ?_⟩) (by assumption) ?_
        rotate_left
        · intro w' hSw
          try dsimp only at hSw
          go_simp
          try with_reducible rfl
        simp only [Act.put, List.setIfInBounds_toArray, List.set_cons_zero, List.set_cons_succ]
        refine wpAnyT_take (i := 2) (oi := { dst := some 107, op := Op.move (Operand.tmp 15), type := 3, pos := "tree.go:117", after := #[], guard := none }) (v := ?_) rfl (by kernel_rfl) (by kernel_rfl) (by kernel_rfl) (fun _ _ _ h => h) (by kernel_rfl) (Or.inl ⟨by rfl, ?_⟩) (by assumption) ?_
        rotate_left
        · intro w' hSw
          try dsimp only at hSw
          go_simp
          try with_reducible rfl
        simp only [Act.put, List.setIfInBounds_toArray, List.set_cons_zero, List.set_cons_succ]
        refine wpAnyT_take (i := 3) (oi := { dst := some 108, op := Op.indexAddr 38 (Operand.tmp 106) (Operand.tmp 107), type := 0, pos := "tree.go:117", after := #[{ on := 1, ground := Ground.data }, { on := 2, ground := Ground.data }], guard := none }) (v := ?_) rfl (by kernel_rfl) (by kernel_rfl) (by kernel_rfl) (fun _ _ _ h => h) (by kernel_rfl) (Or.inl ⟨by rfl, ?_⟩) (by assumption) ?_
        rotate_left
        · intro w' hSw
          try dsimp only at hSw
          go_simp
          try with_reducible rfl
        simp only [Act.put, List.setIfInBounds_toArray, List.set_cons_zero, List.set_cons_succ]
        refine wpAnyT_take (i := 4) (oi := { dst := some 109, op := Op.load 25 (Operand.tmp 108), type := 25, pos := "tree.go:117", after := #[{ on := 3, ground := Ground.data }], guard := none }) (v := .agg (s.map ub).toArray) rfl (by kernel_rfl) (by kernel_rfl) (by kernel_rfl) (fun _ _ _ h => h) (by kernel_rfl) (yieldsIf_load_mid (by rfl) _ _ rfl g (o + rest.length * 32) rfl (s.map ub) _ (fun w' hSw => hSw.2) Tryd.underlying25 rfl HsI.out) (by assumption) ?_
        simp only [Act.put, List.setIfInBounds_toArray, List.set_cons_zero, List.set_cons_succ]
        refine wpAnyT_take (i := 5) (oi := { dst := some 110, op := Op.load 25 (Operand.tmp 22), type := 25, pos := "tree.go:117", after := #[], guard := none }) (v := .agg ((al).map ub).toArray) rfl (by kernel_rfl) (by kernel_rfl) (by kernel_rfl) (fun _ _ _ h => h) (by kernel_rfl) (yieldsIf_load_mid (by rfl) _ _ rfl B2 0 rfl ((al).map ub) _ (fun w' hSw => hSw.1) Tryd.underlying25 rfl HxI2.out) (by assumption) ?_
        simp only [Act.put, List.setIfInBounds_toArray, List.set_cons_zero, List.set_cons_succ]
        clear hHeld
        have HND2 : Hid (∀ U : World, Z1.drew.grownBy U none → Calls Tryd.prog 56 #[.pointer (some ⟨H, 0, none⟩), .int .u8 1, .agg (((s)).map ub).toArray, .agg ((al).map ub).toArray] U fun e w' => e = .returned (.agg ((sha (nodeL 1 s (al))).map ub).toArray) ∧ U.grownBy w' none) := fun U hU =>
          node_any H 1 s (al) hs hall U (RefAt.gr HH.out hHs (gr_trans (gr_drew hNG1) hU)) (by have := (gr_trans (gr_drew hNG1) hU).size; omega)
        refine wpAnyT_ca (i := 6) (j := 7) (k := 8) (R := sha (nodeL 1 s (al))) (p := 25) (q := 111) rfl rfl rfl (by kernel_rfl) (by kernel_rfl) (by kernel_rfl) (by kernel_rfl) (by kernel_rfl) rfl rfl rfl rfl rfl rfl rfl (by decide) (by decide) (by simp) (by simp) hS2 (length_sha _) (fun U a' hU ha' K hK => ?_) (fun C2 Z2 hC2 _ hZ2 hGn2 => ?_)
        · rcases ha' with rfl | ⟨x, rfl⟩
          · go_simp
            refine (HND2.out U hU).mono ?_
            rintro e w' ⟨rfl, hG⟩
            exact hK.out _ hG
          · simp only [Act.put, List.setIfInBounds_toArray, List.set_cons_zero, List.set_cons_succ]
            go_simp
            refine (HND2.out U hU).mono ?_
            rintro e w' ⟨rfl, hG⟩
            exact hK.out _ hG
        simp only [Act.put, List.setIfInBounds_toArray, List.set_cons_zero, List.set_cons_succ]
        refine NoPanic.normal ?_
        have hNG2 := gr_trans (gr_drew hNG1) hGn2
        have hF12 : Z2.heap[B1]? = some (.cells ((f).map ub).toArray 25 (0, 0)) := (hGn2.block _ (Array.getElem?_eq_some_iff.1 hF1).1 (by simp)).trans hF1
        have hAl12 : Z2.heap[B2]? = some (.cells ((al).map ub).toArray 25 (0, 0)) := (hGn2.block _ (Array.getElem?_eq_some_iff.1 hAl1).1 (by simp)).trans hAl1
        have hZ12 : Z2.heap[C1]? = some (.cells ((nn1).map ub).toArray 25 (0, 0)) := (hGn2.block _ (Array.getElem?_eq_some_iff.1 hZ1).1 (by simp)).trans hZ1
        have hRa2 : Z2.heap[w.heap.size + 1]? = some (.cells (brow 32 []).toArray 25 (0, 0)) := (hGn2.block _ (Array.getElem?_eq_some_iff.1 hRa1).1 (by simp)).trans hRa1
        have hRb2 : Z2.heap[w.heap.size + 2]? = some (.cells (brow 32 []).toArray 25 (0, 0)) := (hGn2.block _ (Array.getElem?_eq_some_iff.1 hRb1).1 (by simp)).trans hRb1
        have hbC2 : w.heap.size + 2 < C2 := Nat.lt_of_lt_of_le (Array.getElem?_eq_some_iff.1 hRb1).1 hC2
        clear hS2 HND2 HxI2 hGn2 hC2 hRa1 hRb1 hF1 hAl1 hZ1 hNG1
        generalize eN2 : sha (nodeL 1 s (al)) = nn2 at *
        have hnl2 : nn2.length = 32 := by rw [← eN2]; exact length_sha _
        go_wp2
        have HxE : Hid ((Tryd.prog.info? 25).map (·.size) = some ((nn1).map ub).length) := by
          show _ = _
          rw [info25' (R := ((nn1).map ub).toArray) rfl hnl1]; simp
        have HyE : Hid ((Tryd.prog.info? 25).map (·.size) = some ((nn2).map ub).length) := by
          show _ = _
          rw [info25' (R := ((nn2).map ub).toArray) rfl hnl2]; simp
        have hSE : ∀ U : World, (∀ k, k ≠ w.heap.size + 1 → k ≠ w.heap.size + 2 → U.heap[k]? = Z2.drew.heap[k]?) → U.rangeAt C1 0 ((nn1).map ub) ∧ U.rangeAt C2 0 ((nn2).map ub) := fun U hU => ⟨fun j x hj => by
            have hb : U.heap[C1]? = some (.cells ((nn1).map ub).toArray 25 (0, 0)) := (hU _ (by omega) (by omega)).trans hZ12
            rw [Nat.zero_add, cell_of_row U _ _ _ _ _ hb]; simpa using hj,
          fun j x hj => by
            have hb : U.heap[C2]? = some (.cells ((nn2).map ub).toArray 25 (0, 0)) := (hU _ (by omega) (by omega)).trans hZ2
            rw [Nat.zero_add, cell_of_row U _ _ _ _ _ hb]; simpa using hj⟩
        refine wp_region_noPanic ?_
        refine wp_region_T (last := 5) (S := fun w' => w'.rangeAt C1 0 ((nn1).map ub) ∧ w'.rangeAt C2 0 ((nn2).map ub)) (by kernel_rfl) (hSE _ (fun _ _ _ => rfl)) (fun hHeld => ?_)
        refine wpAnyT_take (i := 0) (oi := { dst := some 112, op := Op.load 25 (Operand.tmp 24), type := 25, pos := "tree.go:118", after := #[], guard := none }) (v := .agg ((nn1).map ub).toArray) rfl (by kernel_rfl) (by kernel_rfl) (by kernel_rfl) (fun _ _ _ h => h) (by kernel_rfl) (yieldsIf_load_mid (by rfl) _ _ rfl C1 0 rfl ((nn1).map ub) _ (fun w' hSw => hSw.1) Tryd.underlying25 rfl HxE.out) (by assumption) ?_
        simp only [Act.put, List.setIfInBounds_toArray, List.set_cons_zero, List.set_cons_succ]
        refine wpAnyT_take (i := 1) (oi := { dst := some 113, op := Op.load 25 (Operand.tmp 25), type := 25, pos := "tree.go:118", after := #[{ on := 3, ground := Ground.gcOnly Go.Departure.lateStores }], guard := none }) (v := .agg ((nn2).map ub).toArray) rfl (by kernel_rfl) (by kernel_rfl) (by kernel_rfl) (fun _ _ _ h => h) (by kernel_rfl) (yieldsIf_load_mid (by rfl) _ _ rfl C2 0 rfl ((nn2).map ub) _ (fun w' hSw => hSw.2) Tryd.underlying25 rfl HyE.out) (by assumption) ?_
        simp only [Act.put, List.setIfInBounds_toArray, List.set_cons_zero, List.set_cons_succ]
        refine wpAnyT_take (i := 2) (oi := { dst := some 114, op := Op.move (Operand.tmp 23), type := 4, pos := "tree.go:118", after := #[{ on := 4, ground := Ground.gcOnly Go.Departure.lateStores }], guard := none }) (v := ?_) rfl (by kernel_rfl) (by kernel_rfl) (by kernel_rfl) (fun _ _ _ h => h) (by kernel_rfl) (Or.inl ⟨by rfl, ?_⟩) (by assumption) ?_
        rotate_left
        · intro w' hSw
          try dsimp only at hSw
          go_simp
          try with_reducible rfl
        simp only [Act.put, List.setIfInBounds_toArray, List.set_cons_zero, List.set_cons_succ]
        refine wpAnyT_ss (i := 3) (j := 4) (k := 5) (p1 := 12) (q1 := 112) (p2 := 13) (q2 := 113) rfl rfl rfl (by kernel_rfl) (by kernel_rfl) (by kernel_rfl) (by kernel_rfl) rfl rfl rfl rfl rfl rfl rfl rfl 14 rfl (.bool okk) rfl (w.heap.size + 1) (w.heap.size + 2) nn1 nn2 hnl1 hnl2 (by omega) rfl rfl rfl rfl hRa2 hRb2 (fun U hU => hSE U hU) (fun VE hTE => ?_)
        try simp only [Act.put, List.setIfInBounds_toArray, List.set_cons_zero, List.set_cons_succ]
        refine NoPanic.normal ?_
        obtain ⟨HIx, _, _⟩ := sum25 nn1 hnl1
        obtain ⟨HIy, _, _⟩ := sum25 nn2 hnl2
        have hGF := hTE.gr w (gr_drew hNG2) (by omega) (by omega)
        have hV1 := hTE.one
        have hV2 := hTE.two
        clear hTE hSE hHeld
        go_wp2
        refine bodyPost_ret (results_cct Tryd.results69 _ _ (w.heap.size + 1) (w.heap.size + 2) 25 _ _ (0, 0) (0, 0) _ _ rfl rfl rfl hV1 hV2 Tryd.underlying25 rfl HIx.out HIy.out) rfl ⟨nn1, nn2, hnl1, hnl2, ?_, ?_, hGF⟩
        · rw [HUP.out, Option.isSome_map, eok]; rfl
        · intro t ht
          rw [HUP.out] at ht
          obtain ⟨t', h1, rfl⟩ := Option.map_eq_some_iff.1 ht
          rw [← HTOP.out t' h1]
          simp only [eN1, eN2]
end Go.Proofs.YtplhlhjakapaaaaDoor
