/-
  rootskeep's node.
-/
import Derived.Test.YtplhlhjakapaaaaDoorGuard
namespace Go.Proofs.YtplhlhjakapaaaaDoor
open Go Go.RowKit

theorem gr_own1 {w0 w w' : World} {base : Nat} {v : Value} {e : TypeId} {n : Nat} {xs : List Value} (h : w.ownsRow base e 1 v n xs) (hG : w.grownBy w' v.ownBlock) (h0 : w0.grownBy w none) (hb : w0.heap.size ≤ base) : w0.grownBy w' none := by
  refine ⟨hG.os.trans h0.os, hG.tape.trans h0.tape, hG.output.trans h0.output, Nat.le_trans h0.size hG.size, fun i hi _ => ?_⟩
  refine (hG.block i (Nat.lt_of_lt_of_le hi h0.size) ?_).trans (h0.block i hi (by simp))
  obtain ⟨_, h1 | ⟨g, cap, cur, hv, hb', _⟩⟩ := h
  · rw [h1.1]; simp [Value.ownBlock]
  · rw [hv]; simp [Value.ownBlock]; omega

theorem keepBelow {w w' : World} {base : Nat} {v : Value} {e : TypeId} {n i : Nat} {xs : List Value} (h : w.ownsRow base e 1 v n xs) (hG : w.grownBy w' v.ownBlock) (hi : i < base) (hs : i < w.heap.size) : w'.heap[i]? = w.heap[i]? := by
  refine hG.block i hs ?_
  obtain ⟨_, h1 | ⟨g, cap, cur, hv, hb, _⟩⟩ := h
  · rw [h1.1]; simp [Value.ownBlock]
  · rw [hv]; simp [Value.ownBlock]; omega

set_option maxHeartbeats 4000000 in
set_option maxRecDepth 100000 in
theorem knode_any (l r : List UInt8) (hl : l.length = 32) (hr : r.length = 32) (w : World) :
    Calls Tryd.prog 70 #[.agg (l.map ub).toArray, .agg (r.map ub).toArray] w fun e w' => e = .returned (.string (mkS (nodeL 1 l r))) ∧ w.grownBy w' none := by
  obtain ⟨i0, hi0, hz0, hz1, hz2⟩ := info_parts info5
  have HL : Hid _ := hl
  have HR : Hid _ := hr
  generalize eL : (l.map ub).toArray = L at *
  generalize eR : (r.map ub).toArray = R at *
  clear hl hr
  go_enter Tryd.func70, Tryd.ntmps70
  go_wp2
  have hs0 : ((w.alloc (Obj.cells L 25)).alloc (Obj.cells R 25)).heap.size = w.heap.size + 2 := by simp
  have hrow0 : (((w.alloc (Obj.cells L 25)).alloc (Obj.cells R 25)).alloc (Obj.cells #[Value.int IntKind.u8 1] 5)).heap[w.heap.size + 2]? = some (.cells #[Value.int IntKind.u8 1] 5 (0, 0)) := by rw [← hs0]; exact heap_alloc_new _ _
  have hL0 : (((w.alloc (Obj.cells L 25)).alloc (Obj.cells R 25)).alloc (Obj.cells #[Value.int IntKind.u8 1] 5)).heap[w.heap.size]? = some (.cells L 25 (0, 0)) := ((gr_alloc _ _).block _ (by omega) (by simp)).trans (heap_alloc2_old _ _ _)
  have hR0 : (((w.alloc (Obj.cells L 25)).alloc (Obj.cells R 25)).alloc (Obj.cells #[Value.int IntKind.u8 1] 5)).heap[w.heap.size + 1]? = some (.cells R 25 (0, 0)) := ((gr_alloc _ _).block _ (by omega) (by simp)).trans (heap_alloc2_new _ _ _)
  have hG0 := gr_trans (gr_trans (gr_alloc w (Obj.cells L 25)) (gr_alloc _ (Obj.cells R 25))) (gr_alloc _ (Obj.cells #[Value.int IntKind.u8 1] 5))
  have hs0 : ((w.alloc (Obj.cells L 25)).alloc (Obj.cells R 25)).heap.size = w.heap.size + 2 := by simp
  have hrow0 : (((w.alloc (Obj.cells L 25)).alloc (Obj.cells R 25)).alloc (Obj.cells #[Value.int IntKind.u8 1] 5)).heap[w.heap.size + 2]? = some (.cells #[Value.int IntKind.u8 1] 5 (0, 0)) := by rw [← hs0]; exact heap_alloc_new _ _
  have hL0 : (((w.alloc (Obj.cells L 25)).alloc (Obj.cells R 25)).alloc (Obj.cells #[Value.int IntKind.u8 1] 5)).heap[w.heap.size]? = some (.cells L 25 (0, 0)) := ((gr_alloc _ _).block _ (by omega) (by simp)).trans (heap_alloc2_old _ _ _)
  have hR0 : (((w.alloc (Obj.cells L 25)).alloc (Obj.cells R 25)).alloc (Obj.cells #[Value.int IntKind.u8 1] 5)).heap[w.heap.size + 1]? = some (.cells R 25 (0, 0)) := ((gr_alloc _ _).block _ (by omega) (by simp)).trans (heap_alloc2_new _ _ _)
  have hG0 := gr_trans (gr_trans (gr_alloc w (Obj.cells L 25)) (gr_alloc _ (Obj.cells R 25))) (gr_alloc _ (Obj.cells #[Value.int IntKind.u8 1] 5))
  go_loopw [5, 6] (fun v i wr => ∃ k : Nat, k ≤ 32 ∧ i = .int .i64 (k : Int) ∧ wr.ownsRow (w.heap.size + 2) 5 1 v (k + 1) ((1 :: l.take k).map ub) ∧ wr.heap[w.heap.size]? = some (.cells L 25 (0, 0)) ∧ wr.heap[w.heap.size + 1]? = some (.cells R 25 (0, 0)) ∧ w.grownBy wr none)
    (fun _ i _ => 32 - (intOf i).toNat)
  case atStart =>
    exact ⟨0, by omega, rfl, ⟨by simp, Or.inr ⟨w.heap.size + 2, 1, #[Value.int IntKind.u8 1], rfl, Nat.le_refl _, hrow0, by omega, by unfold maxLen; omega, by simp, by simp⟩⟩, hL0, hR0, hG0⟩
  case round =>
    clear hL0 hR0 hG0 hrow0 hs0
    obtain ⟨k, hk, rfl, hown, hLr, hRr, hG⟩ := hrel
    by_cases hlt : k < 32
    · have d0 : (k : Int) < 32 := by omega
      have hLr' := hLr
      rw [← eL] at hLr'
      have c1 := byte_at hLr' k (by rw [HL.out]; exact hlt)
      have htk : (1 :: l.take (k + 1)).map ub = (1 :: l.take k).map ub ++ [ub (l.getD k 0)] := by
        rw [take_snocB l k (by rw [HL.out]; exact hlt)]; simp
      generalize l.getD k 0 = x at c1 htk
      have HTK : Hid _ := htk
      have hGa := gr_alloc wr (Obj.cells #[ub x] 5)
      have HOWN : Hid ((wr.alloc (Obj.cells #[ub x] 5)).ownsRow (w.heap.size + 2) 5 1 u5 (k + 1) ((1 :: l.take k).map ub)) := by
        refine hown.kept hGa ?_
        cases hv : u5.ownBlock
        · exact Or.inl rfl
        · exact Or.inr (by simp)
      have hN : Hid (∀ j u, [ub x][j]? = some u → (wr.alloc (Obj.cells #[ub x] 5)).cell? ((⟨wr.heap.size, 0, none⟩ : Addr).add j) = some u) := fun j u hj => by
        have e : (⟨wr.heap.size, 0, none⟩ : Addr).add j = ⟨wr.heap.size, j, none⟩ := by unfold Addr.add; split <;> simp_all
        rw [e, cell_of_row _ _ _ _ _ _ (heap_alloc_new _ _)]
        match j, hj with
        | 0, hj => simpa using hj
      clear hLr' htk hown
      go_wp2_with (at_builtin; refine wpList_append_own _ rfl _ _ 27 rfl (w.heap.size + 2) 5 i0 (.int .u8 0) 1 1 Tryd.underlying27 hi0 hz0 hz1 hz2 rfl (by decide) _ _ _ rfl HOWN.out ⟨wr.heap.size, 0, none⟩ 1 1 [ub x] rfl rfl hN.out ?c2 ?c3 ?c4 ?c5 ?_)
      case c2 => intro u hu; rw [List.mem_singleton.1 hu]; rfl
      case c3 => unfold maxLen; omega
      case c4 => omega
      case c5 => have := (Array.getElem?_eq_some_iff.1 hRr).1; simp; omega
      intro v' w' hown' hG' _
      have hL' := (keepBelow HOWN.out hG' (by omega) (by have := (Array.getElem?_eq_some_iff.1 hLr).1; simp; omega)).trans ((hGa.block _ (Array.getElem?_eq_some_iff.1 hLr).1 (by simp)).trans hLr)
      have hR' := (keepBelow HOWN.out hG' (by omega) (by have := (Array.getElem?_eq_some_iff.1 hRr).1; simp; omega)).trans ((hGa.block _ (Array.getElem?_eq_some_iff.1 hRr).1 (by simp)).trans hRr)
      have hGF := gr_own1 HOWN.out hG' (gr_trans hG hGa) (by omega)
      have HO' : Hid (w'.ownsRow (w.heap.size + 2) 5 1 v' (k + 1 + 1) ((1 :: l.take (k + 1)).map ub)) := by
        show World.ownsRow _ _ _ _ _ _ _
        rw [HTK.out]; simpa [List.map_take] using hown'
      clear hown' hG' HOWN hN HTK hLr hRr hG hGa c1
      go_wp2
      exact ⟨⟨k + 1, by omega, by go_num, HO'.out, hL', hR', hGF⟩, by simp [intOf]; omega⟩
    · obtain rfl : k = 32 := by omega
      have hge : decide (((32 : Nat) : Int) < 32) = false := by simp
      have HO1 : Hid (wr.ownsRow (w.heap.size + 2) 5 1 u5 33 ((1 :: l).map ub)) := by
        have e : l.take 32 = l := List.take_of_length_le (by rw [HL.out]; omega)
        rw [e] at hown; exact hown
      clear hown hLr hlt hk
      go_wp2
      go_loopw [5, 7] (fun v i wr => ∃ k : Nat, k ≤ 32 ∧ i = .int .i64 (k : Int) ∧ wr.ownsRow (w.heap.size + 2) 5 1 v (k + 33) ((1 :: (l ++ r.take k)).map ub) ∧ wr.heap[w.heap.size + 1]? = some (.cells R 25 (0, 0)) ∧ w.grownBy wr none)
        (fun _ i _ => 32 - (intOf i).toNat)
      case atStart => exact ⟨0, by omega, rfl, by simpa using HO1.out, hRr, hG⟩
      case round =>
        clear hRr hG HO1
        obtain ⟨k, hk, rfl, hown, hRr, hG⟩ := hrel
        by_cases hlt : k < 32
        · have d0 : (k : Int) < 32 := by omega
          have hRr' := hRr
          rw [← eR] at hRr'
          have c1 := byte_at hRr' k (by rw [HR.out]; exact hlt)
          have htk : (1 :: (l ++ r.take (k + 1))).map ub = (1 :: (l ++ r.take k)).map ub ++ [ub (r.getD k 0)] := by
            rw [take_snocB r k (by rw [HR.out]; exact hlt)]; simp
          generalize r.getD k 0 = x at c1 htk
          have HTK : Hid _ := htk
          have hGa := gr_alloc wr (Obj.cells #[ub x] 5)
          have HOWN : Hid ((wr.alloc (Obj.cells #[ub x] 5)).ownsRow (w.heap.size + 2) 5 1 u5 (k + 33) ((1 :: (l ++ r.take k)).map ub)) := by
            refine hown.kept hGa ?_
            cases hv : u5.ownBlock
            · exact Or.inl rfl
            · exact Or.inr (by simp)
          have hN : Hid (∀ j u, [ub x][j]? = some u → (wr.alloc (Obj.cells #[ub x] 5)).cell? ((⟨wr.heap.size, 0, none⟩ : Addr).add j) = some u) := fun j u hj => by
            have e : (⟨wr.heap.size, 0, none⟩ : Addr).add j = ⟨wr.heap.size, j, none⟩ := by unfold Addr.add; split <;> simp_all
            rw [e, cell_of_row _ _ _ _ _ _ (heap_alloc_new _ _)]
            match j, hj with
            | 0, hj => simpa using hj
          clear hRr' htk hown
          go_wp2_with (at_builtin; refine wpList_append_own _ rfl _ _ 27 rfl (w.heap.size + 2) 5 i0 (.int .u8 0) 1 1 Tryd.underlying27 hi0 hz0 hz1 hz2 rfl (by decide) _ _ _ rfl HOWN.out ⟨wr.heap.size, 0, none⟩ 1 1 [ub x] rfl rfl hN.out ?e2 ?e3 ?e4 ?e5 ?_)
          case e2 => intro u hu; rw [List.mem_singleton.1 hu]; rfl
          case e3 => unfold maxLen; omega
          case e4 => omega
          case e5 => have := (Array.getElem?_eq_some_iff.1 hRr).1; simp; omega
          intro v' w' hown' hG' _
          have hR' := (keepBelow HOWN.out hG' (by omega) (by have := (Array.getElem?_eq_some_iff.1 hRr).1; simp; omega)).trans ((hGa.block _ (Array.getElem?_eq_some_iff.1 hRr).1 (by simp)).trans hRr)
          have hGF := gr_own1 HOWN.out hG' (gr_trans hG hGa) (by omega)
          have HO' : Hid (w'.ownsRow (w.heap.size + 2) 5 1 v' (k + 1 + 33) ((1 :: (l ++ r.take (k + 1))).map ub)) := by
            show World.ownsRow _ _ _ _ _ _ _
            rw [HTK.out, show k + 1 + 33 = k + 33 + 1 by omega]; simpa [List.map_take] using hown'
          clear hown' hG' HOWN hN HTK hRr hG hGa c1
          go_wp2
          refine ⟨?_, by simp [intOf]; omega⟩
          (repeat apply Exists.intro)
          refine ⟨?_, rfl⟩
          exact ⟨k + 1, by omega, by go_num, HO'.out, hR', hGF⟩
        · obtain rfl : k = 32 := by omega
          have hge2 : decide (((32 : Nat) : Int) < 32) = false := by simp
          have e : r.take 32 = r := List.take_of_length_le (by rw [HR.out]; omega)
          rw [e] at hown
          obtain ⟨hln, h0 | ⟨g, cap, cur, rfl, hb, hh, h1, h2, h3, h4⟩⟩ := hown
          · omega
          have hcv : (convert 27 9 (.slice (some ⟨g, 0, none⟩) 65 cap)).run Tryd.prog wr = .ok (.string (mkS (nodeL 1 l r))) wr := by
            have hn : (nodeL 1 l r).length = 65 := by simp [nodeL, HL.out, HR.out]
            have h := run_convert_bytes_back (P := Tryd.prog) wr 27 9 5 ⟨g, 0, none⟩ cap (nodeL 1 l r) Tryd.underlying27 Tryd.underlying5 Tryd.underlying9 (fun j hj => by
              have e : (⟨g, 0, none⟩ : Addr).add j = ⟨g, j, none⟩ := by unfold Addr.add; split <;> simp_all
              rw [e, cell_of_row _ _ _ _ _ _ hh]
              have h5 : cur[j]? = (cur.toList.take ((32 + 33) * 1))[j]? := by
                rw [List.getElem?_take, if_pos (by rw [hn] at hj; omega), Array.getElem?_toList]
              rw [h5, h4]
              show ((nodeL 1 l r).map ub)[j]? = _
              simp [hj])
            rw [hn] at h
            exact h
          clear hh h1 h2 h3 h4 hln
          go_wp2
          go_ret
          exact ⟨rfl, hG⟩
end Go.Proofs.YtplhlhjakapaaaaDoor
