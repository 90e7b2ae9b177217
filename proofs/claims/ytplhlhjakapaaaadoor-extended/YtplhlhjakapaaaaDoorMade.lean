import Derived.Test.YtplhlhjakapaaaaDoorTabA
namespace Go.Proofs.YtplhlhjakapaaaaDoor
open Go Go.RowKit

/-- The tables as they lie in memory. -/
def TabsAt (w : World) (T : Nat) : Prop :=
  ∃ g1 c1 g2 c2, w.heap[T]? = some (.cells #[.slice (some ⟨g1, 0, none⟩) 8 c1, .slice (some ⟨g2, 0, none⟩) 64 c2] 94 (0, 0)) ∧ g1 < w.heap.size ∧ g2 < w.heap.size ∧
    (∀ j, j < 8 → w.cell? ⟨g1, j, none⟩ = some (uw (H0.list.getD j 0))) ∧ (∀ j, j < 64 → w.cell? ⟨g2, j, none⟩ = some (uw (KS.getD j 0)))

theorem map_take_snoc (l : List (BitVec 32)) (k : Nat) (h : k < l.length) : (l.map uw).take k ++ [uw (l.getD k 0)] = (l.map uw).take (k + 1) := by
  rw [List.take_succ_eq_append_getElem (by simpa using h)]
  simp [h]
theorem PS_small (k : Nat) (h : k < 64) : PS.getD k 0 < 4294967296 := by
  have h1 : PS.all (fun p => decide (p < 4294967296)) = true := by decide +kernel
  have h2 : k < PS.length := h
  rw [List.getD_eq_getElem?_getD, List.getElem?_eq_getElem h2]
  have := List.all_eq_true.1 h1 PS[k] (List.getElem_mem _)
  simpa using this

set_option maxHeartbeats 1000000 in
set_option maxRecDepth 100000 in
theorem made_any (w : World) :
    Calls Tryd.prog 55 #[] w fun e w' => ∃ T, e = .returned (.pointer (some ⟨T, 0, none⟩)) ∧ TabsAt w' T ∧ w.heap.size ≤ T ∧ w.grownBy w' none := by
  obtain ⟨i0, hi0, hz0, hz1, hz2⟩ := info_parts info83
  go_enter Tryd.func55, Tryd.ntmps55
  go_wp2_with fail
  refine (primes_any _).mono ?_
  rintro e w1 ⟨pg, pc, rfl, hpc, hpg, hps, hG1⟩
  have hs1 : w.heap.size + 1 ≤ w1.heap.size := by have := hG1.size; simpa using this
  have hpg' : w.heap.size + 1 ≤ pg := by simpa using hpg
  have hrowT : w1.heap[w.heap.size]? = some (.cells #[.slice none 0 0, .slice none 0 0] 94 (0, 0)) := (hG1.block _ (by simp) (by simp)).trans (heap_alloc_new _ _)
  have hG01 : w.grownBy w1 none := gr_trans (gr_alloc _ _) hG1
  have HPC : Hid _ := hpc
  clear hG1 hpg hpc
  go_wp2
  go_loopw [3] (fun i wr => ∃ (k : Nat) (sp : Option Addr) (cap : Nat), k ≤ 8 ∧ i = .int .i64 (k : Int) ∧ wr.heap[w.heap.size]? = some (.cells #[.slice sp k cap, .slice none 0 0] 94 (0, 0)) ∧
      wr.ownsRow w1.heap.size 96 1 (.slice sp k cap) k ((H0.list.map uw).take k) ∧ wr.heap[pg]? = w1.heap[pg]? ∧ w1.heap.size ≤ wr.heap.size ∧ w.grownBy wr none)
    (fun i _ => 8 - (intOf i).toNat)
  case atStart => exact ⟨0, none, 0, by omega, rfl, hrowT, World.ownsRow_nil _ _ _ _, rfl, Nat.le_refl _, hG01⟩
  case round =>
    clear hrowT hG01
    obtain ⟨k, sp, cap, hk, rfl, hT, hown, hP, hsz, hG⟩ := hrel
    by_cases hlt : k < 8
    · have hc : wr.cell? ⟨pg, k, none⟩ = some (ud (PS.getD k 0)) := (World.cell?_of_block (w := w1) hP).trans (HPC.out k (by omega))
      have hpl : PS.getD k 0 < 4294967296 := PS_small k (by omega)
      have hval := h0_at k hlt
      have hfr := fraction_any (PS.getD k 0) 2 wr hpl (by omega) (by omega)
      rw [hval] at hfr
      have HSN : Hid ((H0.list.map uw).take k ++ [uw (H0.list.getD k 0)] = (H0.list.map uw).take (k + 1)) := map_take_snoc _ _ hlt
      clear hval
      generalize PS.getD k 0 = pp at hc hpl hfr
      generalize H0.list.getD k 0 = hh at hfr HSN
      have hi8 : (k : Int) < 64 := by omega
      go_wp2_with fail
      refine hfr.mono ?_
      rintro e w2 ⟨rfl, hG2⟩
      clear hfr hc
      have hT2 : w2.heap[w.heap.size]? = some (.cells #[.slice sp k cap, .slice none 0 0] 94 (0, 0)) := (hG2.block _ (by omega) (by simp)).trans hT
      have hcT : w2.cell? ⟨w.heap.size, 0, none⟩ = some (.slice sp k cap) := by rw [cell_of_row w2 _ _ _ _ _ hT2]; rfl
      have hown2 : w2.ownsRow w1.heap.size 96 1 (.slice sp k cap) k ((H0.list.map uw).take k) := hown.kept hG2 (by
        cases sp with
        | none => left; rfl
        | some a => right; simp [Value.ownBlock])
      have hP2 : w2.heap[pg]? = w1.heap[pg]? := (hG2.block _ (by omega) (by simp)).trans hP
      have hsz2 : w1.heap.size ≤ w2.heap.size := by have := hG2.size; omega
      have hG02 := gr_trans hG hG2
      clear hT hown hP hsz hG hG2
      go_wp2_with (at_builtin; refine wpList_append_own _ rfl _ _ 92 rfl w1.heap.size 96 i0 (.int .u32 0) 1 4 Tryd.underlying92 hi0 hz0 hz1 hz2 rfl (by decide) _ _ _ rfl (hown2.alloc _) ⟨w2.heap.size, 0, none⟩ 1 1 [uw hh] rfl rfl ?c1 ?c2 ?c3 ?c4 ?c5 ?_)
      case c1 =>
        intro j u hj
        match j, hj with
        | 0, hj => simp at hj; subst hj; simp [Addr.add]
      case c2 => intro u hu; simp at hu; subst hu; rfl
      case c3 => unfold maxLen; omega
      case c4 => omega
      case c5 => simp; omega
      intro v4 w4 hown4 hG4 _
      have hlt0 := hown2.lt
      have hblk : ∀ i, i < w1.heap.size → w4.heap[i]? = w2.heap[i]? := fun i hi =>
        (hG4.block i (by simp; omega) (fun e => by have := (hlt0 i e.symm).1; omega)).trans (Below.heap_alloc _ _ _ (by omega))
      have hT4 : w4.heap[w.heap.size]? = some (.cells #[.slice sp k cap, .slice none 0 0] 94 (0, 0)) := (hblk _ (by omega)).trans hT2
      have hcT4 : w4.cell? ⟨w.heap.size, 0, none⟩ = some (.slice sp k cap) := by rw [cell_of_row w4 _ _ _ _ _ hT4]; rfl
      have hfT4 : w4.frozen? ⟨w.heap.size, 0, none⟩ = false := frozen_of_row w4 _ _ _ _ hT4
      have hsz4 : w1.heap.size ≤ w4.heap.size := by have := hG4.size; simp at this; omega
      have hG04 : w.grownBy w4 none := ⟨hG4.os.trans hG02.os, hG4.tape.trans hG02.tape, hG4.output.trans hG02.output, by omega, fun i hi _ => (hblk i (by omega)).trans (hG02.block i hi (by simp))⟩
      have hP4 : w4.heap[pg]? = w1.heap[pg]? := (hblk pg hps).trans hP2
      rw [HSN.out] at hown4
      obtain ⟨g5, cap5, rfl, hg5, _, _, _⟩ := owned hown4 (by omega)
      have hT5 := heap_setCell_same w4 w.heap.size 0 _ 94 (Value.slice (some ⟨g5, 0, none⟩) (k + 1) cap5) hT4
      have HT5 : Hid _ := hT5
      clear hT5 hblk hT2 hown2 hP2 hG02 hlt0 hG4 hcT
      go_wp2
      refine ⟨⟨k + 1, some ⟨g5, 0, none⟩, cap5, by omega, by go_num, HT5.out, ?_, (heap_setCell_other _ _ _ _ (by simp; omega)).trans hP4, by simpa using hsz4, ?_⟩, by simp [intOf]; omega⟩
      · exact ownsRow_setCell_below hown4 (by simp; omega) _
      · exact ⟨hG04.os, hG04.tape, hG04.output, by simpa using hG04.size, fun i hi _ => (heap_setCell_other _ _ _ _ (by simp; omega)).trans (hG04.block i hi (by simp))⟩
    · have hk8 : k = 8 := by omega
      rw [hk8] at hT hown
      have hge : decide ((k : Int) < 8) = false := by simp; omega
      obtain ⟨g1, cap1, e1, hg1b, hg1s, _, hcell1⟩ := owned hown (by omega)
      obtain ⟨rfl, rfl⟩ : sp = some ⟨g1, 0, none⟩ ∧ cap = cap1 := by simpa using e1
      have HCH : Hid (∀ j, j < 8 → wr.cell? ⟨g1, j, none⟩ = some (uw (H0.list.getD j 0))) := fun j hj => by
        rw [hcell1 j hj]
        obtain rfl | rfl | rfl | rfl | rfl | rfl | rfl | rfl : j = 0 ∨ j = 1 ∨ j = 2 ∨ j = 3 ∨ j = 4 ∨ j = 5 ∨ j = 6 ∨ j = 7 := by omega
        all_goals rfl
      clear hcell1 e1 hown hlt hk hk8
      obtain ⟨B2, hB2⟩ : ∃ B2, B2 = wr.heap.size := ⟨_, rfl⟩
      have HB2 : Hid (B2 ≤ wr.heap.size) := Nat.le_of_eq hB2
      rw [← hB2] at hg1s hsz
      clear hB2
      go_wp2
      go_loopw [5] (fun i ws => ∃ (k : Nat) (sp : Option Addr) (cp : Nat), k ≤ 64 ∧ i = .int .i64 (k : Int) ∧ ws.heap[w.heap.size]? = some (.cells #[.slice (some ⟨g1, 0, none⟩) 8 cap, .slice sp k cp] 94 (0, 0)) ∧
          ws.ownsRow B2 96 1 (.slice sp k cp) k ((KS.map uw).take k) ∧ ws.heap[pg]? = w1.heap[pg]? ∧ Hid (∀ j, j < 8 → ws.cell? ⟨g1, j, none⟩ = some (uw (H0.list.getD j 0))) ∧ B2 ≤ ws.heap.size ∧ w.grownBy ws none)
        (fun i _ => 64 - (intOf i).toNat)
      case atStart => exact ⟨0, none, 0, by omega, rfl, hT, World.ownsRow_nil _ _ _ _, hP, HCH, HB2.out, hG⟩
      case round =>
        clear hT hP HCH HB2 hG hge
        obtain ⟨k, sp, cp, hk, rfl, hT, hown, hP, HCH, hsB, hG⟩ := hrel
        by_cases hlt : k < 64
        · have hc : wr.cell? ⟨pg, k, none⟩ = some (ud (PS.getD k 0)) := (World.cell?_of_block (w := w1) hP).trans (HPC.out k (by omega))
          have hpl : PS.getD k 0 < 4294967296 := PS_small k (by omega)
          have hval := ks_at k hlt
          have hfr := fraction_any (PS.getD k 0) 3 wr hpl (by omega) (by omega)
          rw [hval] at hfr
          have HSN : Hid ((KS.map uw).take k ++ [uw (KS.getD k 0)] = (KS.map uw).take (k + 1)) := map_take_snoc _ _ hlt
          clear hval
          generalize PS.getD k 0 = pp at hc hpl hfr
          generalize KS.getD k 0 = hh at hfr HSN
          have hi8 : (k : Int) < 64 := by omega
          go_wp2_with fail
          refine hfr.mono ?_
          rintro e w2 ⟨rfl, hG2⟩
          clear hfr hc
          have hT2 : w2.heap[w.heap.size]? = some (.cells #[.slice (some ⟨g1, 0, none⟩) 8 cap, .slice sp k cp] 94 (0, 0)) := (hG2.block _ (by omega) (by simp)).trans hT
          have hcT : w2.cell? ⟨w.heap.size, 1, none⟩ = some (.slice sp k cp) := by rw [cell_of_row w2 _ _ _ _ _ hT2]; rfl
          have hown2 : w2.ownsRow B2 96 1 (.slice sp k cp) k ((KS.map uw).take k) := hown.kept hG2 (by
            cases sp with
            | none => left; rfl
            | some a => right; simp [Value.ownBlock])
          have hP2 : w2.heap[pg]? = w1.heap[pg]? := (hG2.block _ (by omega) (by simp)).trans hP
          have hsz2 : B2 ≤ w2.heap.size := by have := hG2.size; omega
          have HCH2 : Hid (∀ j, j < 8 → w2.cell? ⟨g1, j, none⟩ = some (uw (H0.list.getD j 0))) := fun j hj => (gr_cell hG2 (p := ⟨g1, j, none⟩) (by simp; omega)).trans (HCH.out j hj)
          have hG02 := gr_trans hG hG2
          clear hT hown hP hsB hG hG2 HCH
          go_wp2_with (at_builtin; refine wpList_append_own _ rfl _ _ 92 rfl B2 96 i0 (.int .u32 0) 1 4 Tryd.underlying92 hi0 hz0 hz1 hz2 rfl (by decide) _ _ _ rfl (hown2.alloc _) ⟨w2.heap.size, 0, none⟩ 1 1 [uw hh] rfl rfl ?c1 ?c2 ?c3 ?c4 ?c5 ?_)
          case c1 =>
            intro j u hj
            match j, hj with
            | 0, hj => simp at hj; subst hj; simp [Addr.add]
          case c2 => intro u hu; simp at hu; subst hu; rfl
          case c3 => unfold maxLen; omega
          case c4 => omega
          case c5 => simp; omega
          intro v4 w4 hown4 hG4 _
          have hlt0 := hown2.lt
          have hblk : ∀ i, i < B2 → w4.heap[i]? = w2.heap[i]? := fun i hi =>
            (hG4.block i (by simp; omega) (fun e => by have := (hlt0 i e.symm).1; omega)).trans (Below.heap_alloc _ _ _ (by omega))
          have hT4 : w4.heap[w.heap.size]? = some (.cells #[.slice (some ⟨g1, 0, none⟩) 8 cap, .slice sp k cp] 94 (0, 0)) := (hblk _ (by omega)).trans hT2
          have hcT4 : w4.cell? ⟨w.heap.size, 1, none⟩ = some (.slice sp k cp) := by rw [cell_of_row w4 _ _ _ _ _ hT4]; rfl
          have hfT4 : w4.frozen? ⟨w.heap.size, 1, none⟩ = false := frozen_of_row w4 _ _ _ _ hT4
          have HCH4 : Hid (∀ j, j < 8 → w4.cell? ⟨g1, j, none⟩ = some (uw (H0.list.getD j 0))) := fun j hj => (World.cell?_of_block (w := w2) (hblk g1 hg1s)).trans (HCH2.out j hj)
          have hsz4 : B2 ≤ w4.heap.size := by have := hG4.size; simp at this; omega
          have hG04 : w.grownBy w4 none := ⟨hG4.os.trans hG02.os, hG4.tape.trans hG02.tape, hG4.output.trans hG02.output, by omega, fun i hi _ => (hblk i (by omega)).trans (hG02.block i hi (by simp))⟩
          have hP4 : w4.heap[pg]? = w1.heap[pg]? := (hblk pg (by omega)).trans hP2
          rw [HSN.out] at hown4
          obtain ⟨g5, cap5, rfl, hg5, _, _, _⟩ := owned hown4 (by omega)
          have hT5 := heap_setCell_same w4 w.heap.size 1 _ 94 (Value.slice (some ⟨g5, 0, none⟩) (k + 1) cap5) hT4
          have HT5 : Hid _ := hT5
          clear hT5 hblk hT2 hown2 hP2 hG02 hlt0 hG4 hcT HCH2
          go_wp2
          refine ⟨⟨k + 1, some ⟨g5, 0, none⟩, cap5, by omega, by go_num, HT5.out, ?_, (heap_setCell_other _ _ _ _ (by simp; omega)).trans hP4, ?_, by simpa using hsz4, ?_⟩, by simp [intOf]; omega⟩
          · exact ownsRow_setCell_below hown4 (by simp; omega) _
          · exact fun j hj => (World.cell?_of_block (w := w4) (heap_setCell_other _ _ _ _ (by simp; omega))).trans (HCH4.out j hj)
          · exact ⟨hG04.os, hG04.tape, hG04.output, by simpa using hG04.size, fun i hi _ => (heap_setCell_other _ _ _ _ (by simp; omega)).trans (hG04.block i hi (by simp))⟩
        · have hk64 : k = 64 := by omega
          rw [hk64] at hT hown
          have hge : decide ((k : Int) < 64) = false := by simp; omega
          obtain ⟨g2, cap2, e2, hg2b, hg2s, _, hcell2⟩ := owned hown (by omega)
          obtain ⟨rfl, rfl⟩ : sp = some ⟨g2, 0, none⟩ ∧ cp = cap2 := by simpa using e2
          have HCK : Hid (∀ j, j < 64 → wr.cell? ⟨g2, j, none⟩ = some (uw (KS.getD j 0))) := fun j hj => by
            have hl : j < KS.length := hj
            rw [hcell2 j hj, List.getElem?_take, if_pos hj, List.getElem?_map, List.getElem?_eq_getElem hl]
            simp [hl]
          have HT : Hid _ := hT
          clear hcell2 e2 hown hlt hk hk64 hT
          go_wp2
          go_ret
          exact ⟨w.heap.size, rfl, ⟨g1, cap, g2, cp, HT.out, by omega, hg2s, HCH.out, HCK.out⟩, Nat.le_refl _, hG⟩
end Go.Proofs.YtplhlhjakapaaaaDoor
