import Derived.Test.YtjgmmdgcknnlpaaDoorTimes
namespace Go.Proofs.YtjgmmdgcknnlpaaDoor
open Go Go.RowKit

theorem val_split (V : List Nat) (k : Nat) (h : k < V.length) : val V = val (V.take k) + 4294967296 ^ k * (V.getD k 0 + 4294967296 * val (V.drop (k + 1))) := by
  have h1 : V = V.take k ++ (V.getD k 0 :: V.drop (k + 1)) := by
    rw [show V.getD k 0 = V[k] by simp [h], List.getElem_cons_drop, List.take_append_drop]
  have h2 : val V = val (V.take k ++ (V.getD k 0 :: V.drop (k + 1))) := congrArg val h1
  rw [h2, val_append, List.length_take, Nat.min_eq_left (by omega), val]
theorem cmp_lt (V D : List Nat) (k : Nat) (hl : V.length = D.length) (hk : k < V.length) (hV : ∀ d ∈ V, d < 4294967296) (hs : V.drop (k + 1) = D.drop (k + 1)) (h : V.getD k 0 < D.getD k 0) : val V < val D := by
  rw [val_split V k hk, val_split D k (by omega), ← hs]
  have h1 := val_lt (V.take k) (fun d hd => hV d (List.mem_of_mem_take hd))
  rw [List.length_take, Nat.min_eq_left (by omega)] at h1
  have h2 : 4294967296 ^ k * (V.getD k 0 + 4294967296 * val (V.drop (k + 1)) + 1) ≤ 4294967296 ^ k * (D.getD k 0 + 4294967296 * val (V.drop (k + 1))) := Nat.mul_le_mul_left _ (by omega)
  rw [Nat.mul_add _ _ 1, Nat.mul_one] at h2
  omega
theorem drop_step (V D : List Nat) (k : Nat) (hV : k < V.length) (hD : k < D.length) (h : V.getD k 0 = D.getD k 0) (hs : V.drop (k + 1) = D.drop (k + 1)) : V.drop k = D.drop k := by
  rw [List.drop_eq_getElem_cons hV, List.drop_eq_getElem_cons hD, hs]
  simp [hV, hD] at h
  rw [h]

/-- What the digits of p and noughts are. -/
def lowD (k p j : Nat) : List Nat := List.replicate k 0 ++ (p :: List.replicate j 0)
theorem length_lowD (k p j : Nat) : (lowD k p j).length = k + 1 + j := by simp [lowD]; omega
theorem val_lowD (k p j : Nat) : val (lowD k p j) = p * 4294967296 ^ k := by
  rw [lowD, val_append, val_zero, val, val_zero, List.length_replicate]
  simp [Nat.mul_comm]
theorem lowD_snoc (k p j : Nat) : lowD k p j ++ [0] = lowD k p (j + 1) := by
  simp [lowD, List.replicate_succ']
/-- A row that is owned and not empty, laid open. -/
theorem owned {w : World} {base n : Nat} {e : TypeId} {v : Value} {xs : List Value} (h : w.ownsRow base e 1 v n xs) (hn : 0 < n) :
    ∃ g cap, v = .slice (some ⟨g, 0, none⟩) n cap ∧ base ≤ g ∧ g < w.heap.size ∧ n ≤ cap ∧ ∀ j, j < n → w.cell? ⟨g, j, none⟩ = xs[j]? := by
  obtain ⟨hl, h | ⟨g, cap, cur, hv, hb, hh, h1, h2, h3, h4⟩⟩ := h
  · omega
  · refine ⟨g, cap, hv, hb, (Array.getElem?_eq_some_iff.1 hh).1, h1, fun j hj => ?_⟩
    rw [cell_of_row w _ _ _ _ _ hh, ← h4, Nat.mul_one, List.getElem?_take, if_pos hj]
    simp

set_option maxHeartbeats 1000000 in
set_option maxRecDepth 100000 in
theorem below_any (t p m : Nat) (w : World) (ht : t < 274877906944) (hp : p < 4294967296) (hm1 : 1 ≤ m) (hm2 : m ≤ 3) :
    Calls Tryd.prog 101 #[.int .u64 (t : Int), .int .u64 (p : Int), .int .i64 (m : Int)] w fun e w' => e = .returned (.bool (decide (t ^ m ≤ p * 4294967296 ^ m))) ∧ w.grownBy w' none := by
  obtain ⟨R, hR⟩ : ∃ R, R = decide (t ^ m ≤ p * 4294967296 ^ m) := ⟨_, rfl⟩
  rw [← hR]
  have HR : Hid (R = decide (t ^ m ≤ p * 4294967296 ^ m)) := hR
  clear hR
  obtain ⟨i0, hi0, hz0, hz1, hz2⟩ := info_parts info77
  go_enter Tryd.func101, Tryd.ntmps101
  go_wp2
  go_loopw [7, 8] (fun v i wr => ∃ (k g : Nat) (U : List Nat), k ≤ m ∧ i = .int .i64 (k : Int) ∧ v = .slice (some ⟨g, 0, none⟩) (1 + 2 * k) (1 + 2 * k) ∧ Hid (U.length = 1 + 2 * k) ∧ Hid (∀ d ∈ U, d < 4294967296) ∧ Hid (val U = t ^ k) ∧
      wr.heap[g]? = some (.cells (U.map ud).toArray 74 (0, 0)) ∧ w.heap.size ≤ g ∧ w.grownBy wr none)
    (fun _ i _ => m - (intOf i).toNat)
  case atStart => exact ⟨0, w.heap.size, [1], by omega, rfl, rfl, rfl, fun d hd => by simp at hd; omega, (rfl : val [1] = t ^ 0), heap_alloc_new _ _, Nat.le_refl _, gr_alloc _ _⟩
  case round =>
    obtain ⟨k, g, U, hk, rfl, rfl, hU, hD, hT, hrow, hg, hG⟩ := hrel
    have hgs : g < wr.heap.size := (Array.getElem?_eq_some_iff.1 hrow).1
    by_cases hlt : k < m
    · have hti := times_any g (1 + 2 * k) U t wr hgs (fun j hj => by
          rw [cell_of_row wr _ _ _ _ _ hrow, List.getElem?_toArray, List.getElem?_map, List.getElem?_eq_getElem hj]
          simp [hj]) hD.out ht (by rw [hU.out]; omega)
      rw [hU.out] at hti
      go_wp2_with fail
      refine hti.mono ?_
      rintro e w2 ⟨U2, hU2, hD2, hT2, rfl, hrow2, hG2⟩
      have HU2 : Hid (U2.length = 1 + 2 * (k + 1)) := by show _ = _; omega
      have HT2 : Hid (val U2 = t ^ (k + 1)) := by show _ = _; rw [hT2, hT.out, Nat.pow_succ]
      have hG02 := gr_trans hG hG2
      have hgr : w.heap.size ≤ wr.heap.size := hG.size
      clear hti hU2 hT2 hG2 hrow
      go_wp2_with fail
      exact ⟨⟨k + 1, wr.heap.size, U2, by omega, by go_num, by rw [show 1 + 2 * (k + 1) = 1 + 2 * k + 2 by omega], HU2, hD2, HT2, hrow2, hgr, hG02⟩, by simp [intOf]; omega⟩
    · have hkm : k = m := by omega
      subst hkm
      have hge : decide (k < k) = false := by simp
      clear hlt hk
      go_wp2_with (at_make; refine wpList_make_full _ rfl _ _ 116 rfl wr.heap.size 74 i0 (.int .u64 0) 1 Tryd.underlying116 hi0 hz0 hz1 _ _ _ _ k rfl rfl (by omega) (by omega) ?b2 ?b3 (Nat.le_refl _) ?_)
      case b2 => rw [hz2]; omega
      case b3 => unfold maxLen; omega
      intro w1 hown hG1
      go_wp2_with (at_builtin; refine wpList_append_own _ rfl _ _ 116 rfl wr.heap.size 74 i0 (.int .u64 0) 1 8 Tryd.underlying116 hi0 hz0 hz1 hz2 rfl (by decide) _ _ _ rfl (hown.alloc _) ⟨w1.heap.size, 0, none⟩ 1 1 [ud p] rfl rfl ?c1 ?c2 ?c3 ?c4 ?c5 ?_)
      case c1 =>
        intro j u hj
        match j, hj with
        | 0, hj => simp at hj; subst hj; simp [Addr.add]
      case c2 => intro u hu; simp at hu; subst hu; rfl
      case c3 => unfold maxLen; omega
      case c4 => omega
      case c5 => have := hG1.size; simp; omega
      intro v2 w2 hown2 hG2 _
      have hmade : (madeCells #[Value.int IntKind.u64 0] k).toList ++ [ud p] = (lowD k p 0).map ud := by
        rw [made_one]; simp [lowD]
      rw [hmade] at hown2
      have hrow1 : w1.heap[g]? = some (.cells (U.map ud).toArray 74 (0, 0)) := (hG1.block g hgs (by simp)).trans hrow
      have hs1 : wr.heap.size ≤ w1.heap.size := hG1.size
      have hG2' : w1.grownBy w2 (some wr.heap.size) := ⟨hG2.os, hG2.tape, hG2.output, by have := hG2.size; simp at this; omega, fun j hj hne =>
        (hG2.block j (by simp; omega) hne).trans (Below.heap_alloc _ _ _ hj)⟩
      have hrow2 : w2.heap[g]? = some (.cells (U.map ud).toArray 74 (0, 0)) := (hG2'.block g (by omega) (by simp; omega)).trans hrow1
      have hG02 : w.grownBy w2 none := gr_some (gr_trans hG hG1) hG2' (by have := hG.size; omega)
      obtain ⟨g2, cap2, rfl, hg2, hg2s, hcap2, _⟩ := owned hown2 (by omega)
      clear hmade hown hG2 hG2' hrow1 hrow hG1 hG hge
      have hlen : decide ((1 : Int) + 2 * (k : Int) < (k : Int) + 1) = false := by simp; omega
      go_wp2
      refine wp_loop_once ?_
      go_wp2
      go_loopw [9] (fun b ws => ∃ j g2 cap2, j ≤ k ∧ b = .slice (some ⟨g2, 0, none⟩) (k + 1 + j) cap2 ∧ ws.ownsRow wr.heap.size 74 1 b (k + 1 + j) ((lowD k p j).map ud) ∧ ws.heap[g]? = some (.cells (U.map ud).toArray 74 (0, 0)) ∧ w.grownBy ws none)
        (fun b _ => match b with | .slice _ n _ => 1 + 2 * k - n | _ => 0)
      case atStart => exact ⟨0, g2, cap2, by omega, rfl, hown2, hrow2, hG02⟩
      case round =>
        obtain ⟨j, g3, cap3, hj, rfl, hown3, hrow3, hG3⟩ := hrel
        clear hown2 hrow2 hG02 hg2 hg2s hcap2
        obtain ⟨g3', cap3', e3, hg3, hg3s, hcap3, hcell3⟩ := owned hown3 (by omega)
        obtain ⟨rfl, rfl⟩ : g3 = g3' ∧ cap3 = cap3' := by simpa using e3
        clear e3
        by_cases hlt : j < k
        · have htst : decide ((k : Int) + 1 + (j : Int) < 1 + 2 * (k : Int)) = true := by simp; omega
          clear hcell3
          go_wp2_with (at_builtin; refine wpList_append_own _ rfl _ _ 116 rfl _ 74 i0 (.int .u64 0) 1 8 Tryd.underlying116 hi0 hz0 hz1 hz2 rfl (by decide) _ _ _ rfl (hown3.alloc _) ⟨wr.heap.size, 0, none⟩ 1 1 [ud 0] rfl rfl ?c1 ?c2 ?c3 ?c4 ?c5 ?_)
          case c1 =>
            intro j u hj
            match j, hj with
            | 0, hj => simp at hj; subst hj; simp [Addr.add]
          case c2 => intro u hu; simp at hu; subst hu; rfl
          case c3 => unfold maxLen; omega
          case c4 => omega
          case c5 => simp; omega
          intro v4 w4 hown4 hG4 _
          have hG4' : wr.grownBy w4 (some g3) := ⟨hG4.os, hG4.tape, hG4.output, by have := hG4.size; simp at this; omega, fun j hj hne =>
            (hG4.block j (by simp; omega) hne).trans (Below.heap_alloc _ _ _ hj)⟩
          have hrow4 : w4.heap[g]? = some (.cells (U.map ud).toArray 74 (0, 0)) := (hG4'.block g (Array.getElem?_eq_some_iff.1 hrow3).1 (by simp; omega)).trans hrow3
          have hG04 : w.grownBy w4 none := gr_some hG3 hG4' (by omega)
          have hsn : (lowD k p j).map ud ++ [ud 0] = (lowD k p (j + 1)).map ud := by rw [← lowD_snoc]; simp
          rw [hsn] at hown4
          obtain ⟨g5, cap5, rfl, hg5, _, _, _⟩ := owned hown4 (by omega)
          clear hsn hG4 hG4' hown3 hrow3 hG3
          go_wp2
          exact ⟨⟨j + 1, g5, cap5, by omega, by rw [show k + 1 + (j + 1) = k + 1 + j + 1 by omega], hown4, hrow4, hG04⟩, by simp; omega⟩
        · have hjk : j = k := by omega
          subst hjk
          have htst : decide ((j : Int) + 1 + (j : Int) < 1 + 2 * (j : Int)) = false := by simp; omega
          clear hlt hj
          go_wp2
          have hDl := length_lowD j p j
          have hDv := val_lowD j p j
          have hDd : ∀ d ∈ lowD j p j, d < 4294967296 := fun d hd => by
            simp only [lowD, List.mem_append, List.mem_replicate, List.mem_cons] at hd
            omega
          generalize lowD j p j = D at hown3 hcell3 hDl hDv hDd
          have HDd : Hid _ := hDd
          clear hDd
          have HDl : Hid _ := hDl
          have HDv : Hid _ := hDv
          have cU : Hid (∀ i, i < 1 + 2 * j → wr.cell? ⟨g, i, none⟩ = some (ud (U.getD i 0))) := fun i hi => by
            rw [cell_of_row wr _ _ _ _ _ hrow3, List.getElem?_toArray, List.getElem?_map, List.getElem?_eq_getElem (by rw [hU.out]; exact hi)]
            simp [hU.out, hi]
          have cD : Hid (∀ i, i < 1 + 2 * j → wr.cell? ⟨g3, i, none⟩ = some (ud (D.getD i 0))) := fun i hi => by
            rw [hcell3 i (by omega), List.getElem?_map, List.getElem?_eq_getElem (by rw [hDl]; omega)]
            have : i < D.length := by omega
            simp [this]
          clear hcell3 hown3 hrow3 hDl hDv htst hlen
          go_loopw [10] (fun i ws => ∃ k : Nat, k ≤ 1 + 2 * j ∧ i = .int .i64 ((k : Int) - 1) ∧ (∃ q, ws = wr.drewN q) ∧ Hid (U.drop k = D.drop k))
            (fun i _ => (intOf i + 1).toNat)
          case atStart => exact ⟨1 + 2 * j, by omega, by go_num, ⟨0, rfl⟩, by show _ = _; rw [List.drop_of_length_le (by rw [hU.out]; omega), List.drop_of_length_le (by rw [HDl.out]; omega)]⟩
          case round =>
            obtain ⟨k, hk, rfl, ⟨q, rfl⟩, hdr⟩ := hrel
            by_cases hk0 : 0 < k
            · have x1 := cU.out (k - 1) (by omega)
              have x2 := cD.out (k - 1) (by omega)
              have tk : ((k : Int) - 1).toNat = k - 1 := by omega
              have b1 : (1 : Int) ≤ (k : Int) := by omega
              have b2 : (k : Int) - 1 < 1 + 2 * (j : Int) := by omega
              have b3 : (k : Int) - 1 < (j : Int) + 1 + (j : Int) := by omega
              generalize eX : U.getD (k - 1) 0 = x at x1
              generalize eY : D.getD (k - 1) 0 = y at x2
              have EX : Hid (U.getD (k - 1) 0 = x) := eX
              have EY : Hid (D.getD (k - 1) 0 = y) := eY
              clear eX eY
              by_cases hxy : x = y
              · subst hxy
                go_wp2
                go_quiet (fail)
                go_wp2
                have hd2 : U.drop (k - 1) = D.drop (k - 1) :=
                  drop_step U D (k - 1) (by rw [hU.out]; omega) (by rw [HDl.out]; omega) (EX.out.trans EY.out.symm) (by rw [show k - 1 + 1 = k by omega]; exact hdr.out)
                exact ⟨⟨k - 1, by omega, by go_num, ⟨_, rfl⟩, hd2⟩, by simp [intOf]; omega⟩
              · have hne : ((x : Int) != (y : Int)) = true := by rw [bne_iff_ne]; omega
                have HRxy : Hid (R = decide (x < y)) := by
                  show _ = _
                  rw [HR.out, ← hT.out, ← HDv.out]
                  have hs' : U.drop (k - 1 + 1) = D.drop (k - 1 + 1) := by rw [show k - 1 + 1 = k by omega]; exact hdr.out
                  have hUl : k - 1 < U.length := by rw [hU.out]; omega
                  have hlD : U.length = D.length := by rw [hU.out, HDl.out]; omega
                  by_cases hlt : x < y
                  · have h1 := cmp_lt U D (k - 1) hlD hUl hD.out hs' (by rw [EX.out, EY.out]; exact hlt)
                    simp [hlt]; omega
                  · have h1 := cmp_lt D U (k - 1) hlD.symm (by omega) HDd.out hs'.symm (by rw [EX.out, EY.out]; omega)
                    simp [hlt]; omega
                go_wp2
                go_quiet (fail)
                go_wp2
                go_quiet (fail)
                go_wp2
                go_ret
                refine ⟨?_, ?_⟩
                · rw [HRxy.out]; rfl
                · exact ⟨hG3.os, hG3.tape, hG3.output, hG3.size, hG3.block⟩
            · have hk00 : k = 0 := by omega
              subst hk00
              have HRt : Hid (R = true) := by
                show _ = _
                have h := hdr.out
                rw [List.drop_zero, List.drop_zero] at h
                rw [HR.out, ← hT.out, ← HDv.out, h]; simp
              clear hk0
              go_wp2
              go_ret
              refine ⟨?_, ?_⟩
              · rw [HRt.out]; rfl
              · exact ⟨hG3.os, hG3.tape, hG3.output, hG3.size, hG3.block⟩
end Go.Proofs.YtjgmmdgcknnlpaaDoor
