import Derived.Test.YtplhlhjakapaaaaDoorMade
import Derived.Test.YtplhlhjakapaaaaDoorBlk
import Derived.Test.YtplhlhjakapaaaaDoorRight
import Derived.StillTailTactics
namespace Go.Proofs.YtplhlhjakapaaaaDoor
open Go Go.RowKit

/-- A hasher of the reference: its tables. -/
def RefAt (w : World) (H : Nat) : Prop := ∃ T sp n c, w.heap[H]? = some (.cells #[.pointer (some ⟨T, 0, none⟩), .slice sp n c] 90 (0, 0)) ∧ T < w.heap.size ∧ TabsAt w T

theorem index_bytes (b : ByteArray) (i : Int) (n : Nat) (hi : i = (n : Int)) (h : n < b.size) (W : World) :
    (Instr.index 9 (.string b) (.int .i64 i)).run Tryd.prog W = .ok (ub (b.data.toList.getD n 0)) W := by
  subst hi
  rw [run_index_string W 9 b .i64 _ Tryd.underlying9, dif_pos ⟨by omega, by omega⟩]
  have hl : n < b.data.size := h
  simp only [Int.toNat_natCast, List.getD_eq_getElem?_getD, Array.getElem?_toList, Array.getElem?_eq_getElem hl, Option.getD_some]
  rfl
theorem wrow_same (l : List (BitVec 32)) (h : l.length < 64) : (wrow l).set l.length (uw 0) = wrow l := by
  have := wrow_zero l h
  apply List.ext_getElem?
  intro j
  rw [List.getElem?_set]
  split
  · rename_i e
    subst e
    rw [if_pos (by rw [length_wrow _ (by omega)]; exact h), this]
  · rfl
theorem part_bits (x : BitVec 32) (b : UInt8) : bits BinOp.or IntKind.u32 ((x.toNat : Int) * 256 % 4294967296) ((b.toNat : Int) % 4294967296) = (((x <<< 8) ||| BitVec.ofNat 32 b.toNat).toNat : Int) := by
  rw [byte_word, shl_num _ 8 _ (by decide), bv_or]

def wrN (n : Nat) (l : List (BitVec 32)) : List Value := l.map uw ++ List.replicate (n - l.length) (uw 0)
theorem wrN_set (n : Nat) (l : List (BitVec 32)) (x : BitVec 32) (h : l.length < n) : (wrN n l).set l.length (uw x) = wrN n (l ++ [x]) := by
  have e : n - l.length = (n - (l.length + 1)) + 1 := by omega
  simp only [wrN, List.map_append, List.length_append, List.length_singleton, e, List.replicate_succ, List.map_cons, List.map_nil]
  rw [List.set_append_right _ _ (by simp)]
  simp
theorem wrN_at (n : Nat) (l : List (BitVec 32)) (j : Nat) (h : j < l.length) : (wrN n l)[j]? = some (uw (l.getD j 0)) := by
  simp [wrN, List.getElem?_append, h]
theorem wrN_zero (n : Nat) (l : List (BitVec 32)) (h : l.length < n) : (wrN n l)[l.length]? = some (uw 0) := by
  rw [wrN, List.getElem?_append_right (by simp), List.length_map, Nat.sub_self, List.getElem?_replicate, if_pos (by omega)]
theorem plus_at (s t : Eight) (k : Nat) (h : k < 8) : (s.plus t).list.getD k 0 = s.list.getD k 0 + t.list.getD k 0 := by
  obtain rfl | rfl | rfl | rfl | rfl | rfl | rfl | rfl : k = 0 ∨ k = 1 ∨ k = 2 ∨ k = 3 ∨ k = 4 ∨ k = 5 ∨ k = 6 ∨ k = 7 := by omega
  all_goals rfl
theorem take_snocD (l : List (BitVec 32)) (k : Nat) (h : k < l.length) : l.take (k + 1) = l.take k ++ [l.getD k 0] := by
  rw [List.take_succ_eq_append_getElem h]; simp [h]
theorem length_eight (s : Eight) : s.list.length = 8 := rfl
theorem one_bits (E : Eight) (k v : BitVec 32) : (((E.h.toNat : Int) + (bg1 E.e).toNat + (cho E.e E.f E.g).toNat + k.toNat) % 4294967296 + v.toNat) % 4294967296 = ((E.one k v).toNat : Int) := by
  simp only [Eight.one, BitVec.toNat_add]
  omega
theorem two_bits (E : Eight) : ((bg0 E.a).toNat + (mst E.a E.b E.c).toNat : Int) % 4294967296 = (E.two.toNat : Int) := by
  simp only [Eight.two, BitVec.toNat_add]
  omega

set_option maxHeartbeats 2000000 in
set_option maxRecDepth 100000 in
theorem block_any (H g c : Nat) (s : Eight) (b : ByteArray) (hb : b.size = 64) (w : World) (hH : RefAt w H) (hHs : H < w.heap.size) (hgs : g < w.heap.size)
    (hv : ∀ j, j < 8 → w.cell? ⟨g, j, none⟩ = some (uw (s.list.getD j 0))) :
    Calls Tryd.prog 58 #[.pointer (some ⟨H, 0, none⟩), .slice (some ⟨g, 0, none⟩) 8 c, .string b] w fun e w' => ∃ g', e = .returned (.slice (some ⟨g', 0, none⟩) 8 8) ∧
      (∀ j, j < 8 → w'.cell? ⟨g', j, none⟩ = some (uw ((s.mix KS b.data.toList).list.getD j 0))) ∧ w.heap.size ≤ g' ∧ g' < w'.heap.size ∧ w.grownBy w' none := by
  have HH : Hid _ := hH
  have HV : Hid _ := hv
  clear hH hv
  obtain ⟨i0, hi0, hz0, hz1, hz2⟩ := info_parts info83
  go_enter Tryd.func58, Tryd.ntmps58
  go_wp2_with (at_make; refine wpList_make_full _ rfl _ _ 92 rfl w.heap.size 96 i0 (.int .u32 0) 1 Tryd.underlying92 hi0 hz0 hz1 _ _ _ _ 64 rfl rfl (by omega) (by omega) ?b2 ?b3 (Nat.le_refl _) ?_)
  case b2 => rw [hz2]; omega
  case b3 => unfold maxLen; omega
  intro w1 hown hG1
  have hrow1 : w1.heap[w.heap.size]? = some (.cells (wrow []).toArray 96 (0, 0)) := made_row hown
  clear hown
  go_wp2
  go_loopw [8] (fun i wr => ∃ k : Nat, k ≤ 64 ∧ i = .int .i64 (k : Int) ∧ wr.heap[w.heap.size]? = some (.cells (wrow (wTo b.data.toList k)).toArray 96 (0, 0)) ∧ w.grownBy wr none)
    (fun i _ => 64 - (intOf i).toNat)
  case atStart => exact ⟨0, by omega, rfl, hrow1, hG1⟩
  case round =>
    clear hrow1 hG1
    obtain ⟨k, hk, rfl, hrow, hG⟩ := hrel
    by_cases hlt : k < 64
    · by_cases h16 : k < 16
      · have t64 : decide ((k : Int) < 64) = true := by simp; omega
        have t16 : decide ((k : Int) < 16) = true := by simp; omega
        go_wp2
        go_loopw [9] (fun i ws => ∃ j : Nat, j ≤ 4 ∧ i = .int .i64 (j : Int) ∧ ws.heap[w.heap.size]? = some (.cells ((wrow (wTo b.data.toList k)).set k (uw (partW b.data.toList k j))).toArray 96 (0, 0)) ∧ w.grownBy ws none)
          (fun i _ => 4 - (intOf i).toNat)
        case atStart =>
          refine ⟨0, by omega, rfl, ?_, hG⟩
          have h := wrow_same (wTo b.data.toList k) (by rw [length_wTo _ _ (by omega)]; exact hlt)
          rw [length_wTo _ _ (by omega)] at h
          rw [partW, h]
          exact hrow
        case round =>
          clear hrow hG
          obtain ⟨j, hj, rfl, hrow, hG⟩ := hrel
          by_cases hj4 : j < 4
          · have hix := index_bytes b ((4 : Int) * (k : Int) + (j : Int)) (4 * k + j) (by omega) (by omega)
            have d0 : (k : Int) < 64 := by omega
            have hwl := length_wrow (wTo b.data.toList k) (by rw [length_wTo _ _ (by omega)]; omega)
            have hc : wr.cell? ⟨w.heap.size, k, none⟩ = some (uw (partW b.data.toList k j)) := by
              rw [cell_of_row wr _ _ _ _ _ hrow, List.getElem?_toArray, List.getElem?_set, if_pos rfl, if_pos (by omega)]
            have hf : wr.frozen? ⟨w.heap.size, k, none⟩ = false := frozen_of_row wr _ _ _ _ hrow
            have HS : Hid ((wr.setCell ⟨w.heap.size, k, none⟩ (uw (partW b.data.toList k (j + 1)))).heap[w.heap.size]? = some (.cells ((wrow (wTo b.data.toList k)).set k (uw (partW b.data.toList k (j + 1)))).toArray 96 (0, 0))) := by
              show _ = _
              rw [heap_setCell_same _ _ _ _ _ _ hrow, List.setIfInBounds_toArray, List.set_set]
            have HP : Hid (partW b.data.toList k (j + 1) = (partW b.data.toList k j <<< 8) ||| BitVec.ofNat 32 (b.data.toList.getD (4 * k + j) 0).toNat) := rfl
            generalize partW b.data.toList k j = x at hc HP
            generalize b.data.toList.getD (4 * k + j) 0 = bb at hix HP
            clear hwl
            go_wp2
            go_region
            rw [part_bits, ← HP.out]
            go_wp2
            go_roundw
            case rel => exact ⟨j + 1, by omega, by go_num, HS.out, ⟨hG.os, hG.tape, hG.output, by simpa using hG.size, fun i hi _ => (heap_setCell_other _ _ _ _ (by simp; omega)).trans (hG.block i hi (by simp))⟩⟩
            case measure => simp [intOf]; omega
          · have hj4' : j = 4 := by omega
            have HS : Hid (wr.heap[w.heap.size]? = some (.cells (wrow (wTo b.data.toList (k + 1))).toArray 96 (0, 0))) := by
              show _ = _
              rw [hj4', partW_four] at hrow
              have h := wrow_set (wTo b.data.toList k) (wordOf (b.data.toList.getD (4 * k) 0) (b.data.toList.getD (4 * k + 1) 0) (b.data.toList.getD (4 * k + 2) 0) (b.data.toList.getD (4 * k + 3) 0)) (by rw [length_wTo _ _ (by omega)]; exact hlt)
              rw [length_wTo _ _ (by omega), ← wTo_low _ _ h16] at h
              rw [← h]; exact hrow
            have hge : decide ((j : Int) < 4) = false := by simp; omega
            clear hrow hj4' hj4 hj
            go_wp2
            go_roundw
            case rel => exact ⟨k + 1, by omega, by go_num, HS.out, hG⟩
            case measure => simp [intOf]; omega
      · have t64 : decide ((k : Int) < 64) = true := by simp; omega
        have t16 : decide ((k : Int) < 16) = false := by simp; omega
        have hl := length_wTo b.data.toList k (by omega)
        have hN := wTo_high b.data.toList k (by omega) hlt
        generalize wTo b.data.toList k = L at hrow hl hN
        have HLk : Hid (L.length = k) := hl
        have HN : Hid _ := hN
        clear hN hl
        have cc : ∀ d : Nat, 0 < d → d ≤ 16 → wr.cell? ⟨w.heap.size, k - d, none⟩ = some (uw (L.getD (L.length - d) 0)) := fun d h0 h1 => by
          rw [cell_of_row wr _ _ _ _ _ hrow, List.getElem?_toArray, wrow_at _ _ (by have := HLk.out; omega), HLk.out]
        have c15 := cc 15 (by omega) (by omega)
        have c2 := cc 2 (by omega) (by omega)
        have c16 := cc 16 (by omega) (by omega)
        have c7 := cc 7 (by omega) (by omega)
        clear cc
        have t15 : ((k : Int) - 15).toNat = k - 15 := by omega
        have t2 : ((k : Int) - 2).toNat = k - 2 := by omega
        have t16' : ((k : Int) - 16).toNat = k - 16 := by omega
        have t7 : ((k : Int) - 7).toNat = k - 7 := by omega
        generalize e15 : L.getD (L.length - 15) 0 = x15 at c15
        generalize e2 : L.getD (L.length - 2) 0 = x2 at c2
        generalize e16 : L.getD (L.length - 16) 0 = x16 at c16
        generalize e7 : L.getD (L.length - 7) 0 = x7 at c7
        have E15 : Hid (L.getD (L.length - 15) 0 = x15) := e15
        have E2 : Hid (L.getD (L.length - 2) 0 = x2) := e2
        have E16 : Hid (L.getD (L.length - 16) 0 = x16) := e16
        have E7 : Hid (L.getD (L.length - 7) 0 = x7) := e7
        clear e15 e2 e16 e7
        have b15 : (15 : Int) ≤ (k : Int) := by omega
        have b16 : (16 : Int) ≤ (k : Int) := by omega
        have b7 : (7 : Int) ≤ (k : Int) := by omega
        have d15 : (k : Int) - 15 < 64 := by omega
        have d2 : (k : Int) - 2 < 64 := by omega
        have d16 : (k : Int) - 16 < 64 := by omega
        have d7 : (k : Int) - 7 < 64 := by omega
        have d0 : (k : Int) < 64 := by omega
        have fw : wr.frozen? ⟨w.heap.size, k, none⟩ = false := frozen_of_row wr _ _ _ _ hrow
        have cw : wr.cell? ⟨w.heap.size, k, none⟩ = some (uw 0) := by
          rw [cell_of_row wr _ _ _ _ _ hrow, List.getElem?_toArray]
          have := wrow_zero L (by rw [HLk.out]; omega)
          rwa [HLk.out] at this
        go_wp2
        have hw16 : IntKind.i64.wrap ((k : Int) - 16) = (k : Int) - 16 := by rw [IntKind.wrap_i64]; omega
        have hw7 : IntKind.i64.wrap ((k : Int) - 7) = (k : Int) - 7 := by rw [IntKind.wrap_i64]; omega
        refine wp_region_still_tail 32 (by kernel_rfl) (by decide +kernel) ?_
        simp only [List.take_succ_cons, List.take_zero, List.drop_succ_cons, List.drop_zero]
        repeat (first | still_step | still_call (right_any _ _ _ (by decide)))
        refine wpStill_nil ?_
        clear hw16 hw7
        go_wp2
        rw [sm0_bits, sm1_bits, sum4]
        have hS := row_store (w := wr) (nextW L) hrow (by rw [HLk.out]; omega)
        rw [HLk.out] at hS
        have hNx : x16 + x7 + sm0 x15 + sm1 x2 = nextW L := by
          rw [nextW, E15.out, E2.out, E16.out, E7.out, BitVec.add_assoc x16, BitVec.add_comm x7, ← BitVec.add_assoc x16]
        rw [hNx]
        refine ⟨⟨k + 1, by omega, by go_num, by rw [HN.out]; exact hS, ?_⟩, by simp [intOf]; omega⟩
        exact ⟨hG.os, hG.tape, hG.output, by simpa using hG.size, fun i hi _ => (heap_setCell_other _ _ _ _ (by simp; omega)).trans (hG.block i hi (by simp))⟩
    · have hk64 : k = 64 := by omega
      have hge : decide ((k : Int) < 64) = false := by simp; omega
      rw [hk64, wTo_all] at hrow
      clear hk64 hlt hk
      have hHg := hG.size
      have cV : Hid (∀ j v, (s.list.map uw)[j]? = some v → wr.cell? ((⟨g, 0, none⟩ : Addr).add j) = some v) := fun j v hj => by
        have hj8 : j < 8 := by have := (List.getElem?_eq_some_iff.1 hj).1; simpa [Eight.list] using this
        have e : (⟨g, 0, none⟩ : Addr).add j = ⟨g, j, none⟩ := by unfold Addr.add; split <;> simp_all
        rw [e, gr_cell hG (p := ⟨g, j, none⟩) hgs, HV.out j hj8, ← hj, List.getElem?_map, List.getElem?_eq_getElem (by simpa [Eight.list] using hj8)]
        have : j < s.list.length := by simpa [Eight.list] using hj8
        simp [this]
      go_wp2_with (at_builtin; refine wpList_append_own _ rfl _ _ 92 rfl wr.heap.size 96 i0 (.int .u32 0) 1 4 Tryd.underlying92 hi0 hz0 hz1 hz2 rfl (by decide) _ _ _ rfl (World.ownsRow_nil _ _ _ _) ⟨g, 0, none⟩ 8 c (s.list.map uw) rfl ?c0 cV.out ?c2 ?c3 ?c4 (Nat.le_refl _) ?_)
      case c0 => simp [Eight.list]
      case c2 => intro u hu; obtain ⟨x, _, rfl⟩ := List.mem_map.1 hu; rfl
      case c3 => unfold maxLen; omega
      case c4 => omega
      intro v2 w2 hown2 hG2 _
      have hG2' : wr.grownBy w2 none := hG2
      have hG02 := gr_trans hG hG2'
      obtain ⟨g3, cap3, rfl, hg3, hg3s, hcap3, hcell3⟩ := owned hown2 (by omega)
      have cS : Hid (∀ j, j < 8 → w2.cell? ⟨g3, j, none⟩ = some (uw (s.list.getD j 0))) := fun j hj => by
        rw [hcell3 j hj, List.getElem?_map, List.getElem?_eq_getElem (by simpa [Eight.list] using hj)]
        have : j < s.list.length := by simpa [Eight.list] using hj
        simp [this]
      have hNs : w.heap.size < wr.heap.size := (Array.getElem?_eq_some_iff.1 hrow).1
      have hrow2 : w2.heap[w.heap.size]? = some (.cells (wrow (allW b.data.toList)).toArray 96 (0, 0)) := (hG2'.block _ hNs (by simp)).trans hrow
      have hlW := length_allW b.data.toList
      obtain ⟨ws0, hws0⟩ : ∃ x, x = allW b.data.toList := ⟨_, rfl⟩
      have HWS : Hid (ws0 = allW b.data.toList) := hws0
      have HWL : Hid (ws0.length = 64) := by rw [hws0]; exact hlW
      rw [← hws0] at hrow2
      obtain ⟨T, spE, nE, cE, hRT, hTs, hTab⟩ := HH.out
      obtain ⟨tg1, tc1, tg2, tc2, hTT, htg1, htg2, hH8, hK64⟩ := hTab
      have HRT : Hid _ := hRT
      have HTT : Hid _ := hTT
      have HK64 : Hid _ := hK64
      clear hws0 hlW hcell3 hown2 hG2 hG2' hrow hG cV hRT hTT hK64 hH8 hge
      go_wp2
      go_loopw [12, 13] (fun v i wq => ∃ (k g3 cap3 : Nat) (E : Eight), k ≤ 64 ∧ i = .int .i64 (k : Int) ∧ v = .slice (some ⟨g3, 0, none⟩) 8 cap3 ∧ Hid (s.steps KS ws0 k = E) ∧ Hid (∀ j, j < 8 → wq.cell? ⟨g3, j, none⟩ = some (uw (E.list.getD j 0))) ∧ g3 < wq.heap.size ∧ w.heap.size < g3 ∧
          wq.heap[w.heap.size]? = some (.cells (wrow ws0).toArray 96 (0, 0)) ∧ w.grownBy wq none)
        (fun _ i _ => 64 - (intOf i).toNat)
      case atStart => exact ⟨0, g3, cap3, s, by omega, rfl, rfl, rfl, cS, hg3s, by omega, hrow2, hG02⟩
      case round =>
        clear cS hg3 hg3s hcap3 hrow2 hG02
        obtain ⟨k, g3, cap3, E, hk, rfl, rfl, hE, cS, hg3s, hg3, hrow, hG⟩ := hrel
        by_cases hlt : k < 64
        · obtain ⟨ea, eb, ec, ed, ee, ef, eg, eh⟩ := E
          have c0 : wr.cell? ⟨g3, 0, none⟩ = some (uw ea) := cS.out 0 (by omega)
          have c1 : wr.cell? ⟨g3, 1, none⟩ = some (uw eb) := cS.out 1 (by omega)
          have c2 : wr.cell? ⟨g3, 2, none⟩ = some (uw ec) := cS.out 2 (by omega)
          have c3 : wr.cell? ⟨g3, 3, none⟩ = some (uw ed) := cS.out 3 (by omega)
          have c4 : wr.cell? ⟨g3, 4, none⟩ = some (uw ee) := cS.out 4 (by omega)
          have c5 : wr.cell? ⟨g3, 5, none⟩ = some (uw ef) := cS.out 5 (by omega)
          have c6 : wr.cell? ⟨g3, 6, none⟩ = some (uw eg) := cS.out 6 (by omega)
          have c7 : wr.cell? ⟨g3, 7, none⟩ = some (uw eh) := cS.out 7 (by omega)
          have cH : wr.cell? ⟨H, 0, none⟩ = some (.pointer (some ⟨T, 0, none⟩)) := (gr_cell hG (p := ⟨H, 0, none⟩) hHs).trans (by rw [cell_of_row w _ _ _ _ _ HRT.out]; rfl)
          have cT : wr.cell? ⟨T, 1, none⟩ = some (.slice (some ⟨tg2, 0, none⟩) 64 tc2) := (gr_cell hG (p := ⟨T, 1, none⟩) hTs).trans (by rw [cell_of_row w _ _ _ _ _ HTT.out]; rfl)
          have cK : wr.cell? ⟨tg2, k, none⟩ = some (uw (KS.getD k 0)) := (gr_cell hG (p := ⟨tg2, k, none⟩) htg2).trans (HK64.out k hlt)
          have cW : wr.cell? ⟨w.heap.size, k, none⟩ = some (uw (ws0.getD k 0)) := by
            rw [cell_of_row wr _ _ _ _ _ hrow, List.getElem?_toArray, wrow_at _ _ (by rw [HWL.out]; exact hlt)]
          generalize eK : KS.getD k 0 = kk at cK
          generalize eV : ws0.getD k 0 = vv at cW
          have EK : Hid (KS.getD k 0 = kk) := eK
          have EV : Hid (ws0.getD k 0 = vv) := eV
          clear eK eV
          have d0 : (k : Int) < 64 := by omega
          have hnot := unary_not32 ee
          have hb1 := bg1_bits ee
          have hch := cho_bits ee ef eg
          have hb0 := bg0_bits ea
          have hmst := mst_bits ea eb ec
          go_wp2
          go_quiet ((go_at_call 82; exact Calls.quiet_of_same (right_any _ _ _ (by decide))))
          rw [one_bits ⟨ea, eb, ec, ed, ee, ef, eg, eh⟩ kk vv]
          generalize eOne : (Eight.one ⟨ea, eb, ec, ed, ee, ef, eg, eh⟩ kk vv) = one
          have EOne : Hid ((Eight.one ⟨ea, eb, ec, ed, ee, ef, eg, eh⟩ kk vv) = one) := eOne
          clear eOne hb1 hch hnot cK cW cH cT
          have k0 : (wr.drewN nq).cell? ⟨g3, 0, none⟩ = some (uw ea) := c0
          have k1 : (wr.drewN nq).cell? ⟨g3, 1, none⟩ = some (uw eb) := c1
          have k2 : (wr.drewN nq).cell? ⟨g3, 2, none⟩ = some (uw ec) := c2
          have k3 : (wr.drewN nq).cell? ⟨g3, 3, none⟩ = some (uw ed) := c3
          have k4 : (wr.drewN nq).cell? ⟨g3, 4, none⟩ = some (uw ee) := c4
          have k5 : (wr.drewN nq).cell? ⟨g3, 5, none⟩ = some (uw ef) := c5
          have k6 : (wr.drewN nq).cell? ⟨g3, 6, none⟩ = some (uw eg) := c6
          have k7 : (wr.drewN nq).cell? ⟨g3, 7, none⟩ = some (uw eh) := c7
          have hrow' : (wr.drewN nq).heap[w.heap.size]? = some (.cells (wrow ws0).toArray 96 (0, 0)) := hrow
          have hG' : w.grownBy (wr.drewN nq) none := ⟨hG.os, hG.tape, hG.output, hG.size, hG.block⟩
          have hs' : g3 < (wr.drewN nq).heap.size := hg3s
          clear c0 c1 c2 c3 c4 c5 c6 c7 hrow hG cS hg3s
          generalize wr.drewN nq = wq at k0 k1 k2 k3 k4 k5 k6 k7 hrow' hG' hs' ⊢
          go_wp2
          go_quiet ((go_at_call 82; exact Calls.quiet_of_same (right_any _ _ _ (by decide))))
          rw [two_bits ⟨ea, eb, ec, ed, ee, ef, eg, eh⟩]
          generalize eTwo : (Eight.two ⟨ea, eb, ec, ed, ee, ef, eg, eh⟩) = two
          have ETwo : Hid ((Eight.two ⟨ea, eb, ec, ed, ee, ef, eg, eh⟩) = two) := eTwo
          clear eTwo hb0 hmst
          have m0 : (wq.drewN nq).cell? ⟨g3, 0, none⟩ = some (uw ea) := k0
          have m1 : (wq.drewN nq).cell? ⟨g3, 1, none⟩ = some (uw eb) := k1
          have m2 : (wq.drewN nq).cell? ⟨g3, 2, none⟩ = some (uw ec) := k2
          have m3 : (wq.drewN nq).cell? ⟨g3, 3, none⟩ = some (uw ed) := k3
          have m4 : (wq.drewN nq).cell? ⟨g3, 4, none⟩ = some (uw ee) := k4
          have m5 : (wq.drewN nq).cell? ⟨g3, 5, none⟩ = some (uw ef) := k5
          have m6 : (wq.drewN nq).cell? ⟨g3, 6, none⟩ = some (uw eg) := k6
          have m7 : (wq.drewN nq).cell? ⟨g3, 7, none⟩ = some (uw eh) := k7
          have hrow2 : (wq.drewN nq).heap[w.heap.size]? = some (.cells (wrow ws0).toArray 96 (0, 0)) := hrow'
          have hG2 : w.grownBy (wq.drewN nq) none := ⟨hG'.os, hG'.tape, hG'.output, hG'.size, hG'.block⟩
          clear k0 k1 k2 k3 k4 k5 k6 k7 hrow' hG' hs'
          generalize wq.drewN nq = wz at m0 m1 m2 m3 m4 m5 m6 m7 hrow2 hG2 ⊢
          go_wp2
          refine wp_region_still_tail 26 (by kernel_rfl) (by decide +kernel) ?_
          simp only [List.take_succ_cons, List.take_zero, List.drop_succ_cons, List.drop_zero]
          repeat still_step
          refine wpStill_nil ?_
          go_wp2
          have hsz := hG2.size
          have hNz : w.heap.size < wz.heap.size := (Array.getElem?_eq_some_iff.1 hrow2).1
          have eA : (((one.toNat : Int) + two.toNat) % 4294967296) = ((one + two).toNat : Int) := sum2 _ _
          have eD : (((ed.toNat : Int) + one.toNat) % 4294967296) = ((ed + one).toNat : Int) := sum2 _ _
          rw [eA, eD]
          refine ⟨⟨k + 1, wz.heap.size, 8, Eight.step ⟨ea, eb, ec, ed, ee, ef, eg, eh⟩ kk vv, by omega, by go_num, rfl, ?_, ?_, by simp, hNz, (Below.heap_alloc _ _ _ hNz).trans hrow2, ?_⟩, by simp [intOf]; omega⟩
          · show s.steps KS ws0 (k + 1) = _
            rw [Eight.steps, hE.out, EK.out, EV.out]
          · intro j hj
            show (wz.alloc _).cell? _ = _
            rw [cell_of_row _ _ _ _ _ _ (heap_alloc_new _ _), Eight.step, EOne.out, ETwo.out]
            obtain rfl | rfl | rfl | rfl | rfl | rfl | rfl | rfl : j = 0 ∨ j = 1 ∨ j = 2 ∨ j = 3 ∨ j = 4 ∨ j = 5 ∨ j = 6 ∨ j = 7 := by omega
            all_goals rfl
          · exact gr_drew (gr_trans hG2 (gr_alloc _ _))
        · have hk64 : k = 64 := by omega
          rw [hk64] at hE
          have hge : decide ((k : Int) < 64) = false := by simp; omega
          have hNz : w.heap.size < wr.heap.size := (Array.getElem?_eq_some_iff.1 hrow).1
          clear hk64 hlt hk hrow
          go_wp2_with (at_make; refine wpList_make_full _ rfl _ _ 92 rfl wr.heap.size 96 i0 (.int .u32 0) 1 Tryd.underlying92 hi0 hz0 hz1 _ _ _ _ 8 rfl rfl (by omega) (by omega) ?b2 ?b3 (Nat.le_refl _) ?_)
          case b2 => rw [hz2]; omega
          case b3 => unfold maxLen; omega
          intro w5 hown5 hG5
          have hrow5 : w5.heap[wr.heap.size]? = some (.cells (wrN 8 []).toArray 96 (0, 0)) := made_row hown5
          have hG05 := gr_trans hG hG5
          have cS5 : Hid (∀ j, j < 8 → w5.cell? ⟨g3, j, none⟩ = some (uw (E.list.getD j 0))) := fun j hj => (gr_cell hG5 (p := ⟨g3, j, none⟩) hg3s).trans (cS.out j hj)
          obtain ⟨M0, hM0⟩ : ∃ M0, M0 = wr.heap.size := ⟨_, rfl⟩
          rw [← hM0] at hrow5 hg3s hNz
          have HM0 : Hid (M0 = wr.heap.size) := hM0
          rw [← hM0]
          clear hown5 hG5 cS hG hM0
          go_wp2
          go_loopw [19] (fun i wq => ∃ k : Nat, k ≤ 8 ∧ i = .int .i64 (k : Int) ∧ wq.heap[M0]? = some (.cells (wrN 8 ((s.plus E).list.take k)).toArray 96 (0, 0)) ∧ Hid (∀ j, j < 8 → wq.cell? ⟨g3, j, none⟩ = some (uw (E.list.getD j 0))) ∧ w.grownBy wq none)
            (fun i _ => 8 - (intOf i).toNat)
          case atStart => exact ⟨0, by omega, rfl, hrow5, cS5, hG05⟩
          case round =>
            clear hrow5 cS5 hG05 hge
            obtain ⟨k, hk, rfl, hrow, cS, hG⟩ := hrel
            by_cases hlt : k < 8
            · have hl : ((s.plus E).list.take k).length = k := by rw [List.length_take, length_eight]; omega
              have c1 : wr.cell? ⟨g, k, none⟩ = some (uw (s.list.getD k 0)) := (gr_cell hG (p := ⟨g, k, none⟩) hgs).trans (HV.out k hlt)
              have c2 := cS.out k hlt
              have c3 : wr.cell? ⟨M0, k, none⟩ = some (uw 0) := by
                rw [cell_of_row wr _ _ _ _ _ hrow, List.getElem?_toArray]
                have := wrN_zero 8 ((s.plus E).list.take k) (by omega)
                rwa [hl] at this
              have f3 : wr.frozen? ⟨M0, k, none⟩ = false := frozen_of_row wr _ _ _ _ hrow
              have HS : Hid ((wr.setCell ⟨M0, k, none⟩ (uw (s.list.getD k 0 + E.list.getD k 0))).heap[M0]? = some (.cells (wrN 8 ((s.plus E).list.take (k + 1))).toArray 96 (0, 0))) := by
                show _ = _
                have h := wrN_set 8 ((s.plus E).list.take k) (s.list.getD k 0 + E.list.getD k 0) (by omega)
                rw [hl] at h
                rw [heap_setCell_same _ _ _ _ _ _ hrow, List.setIfInBounds_toArray, h, ← plus_at _ _ _ hlt, ← take_snocD _ _ (by rw [length_eight]; exact hlt)]
              generalize s.list.getD k 0 = sk at c1 HS
              generalize E.list.getD k 0 = ek at c2 HS
              clear hl
              have d0 : (k : Int) < 8 := by omega
              go_wp2
              go_region
              rw [sum2]
              go_wp2
              go_roundw
              case rel => exact ⟨k + 1, by omega, by go_num, HS.out, fun j hj => (World.cell?_setCell_other _ _ _ _ (by simp <;> omega)).trans (cS.out j hj), ⟨hG.os, hG.tape, hG.output, by simpa using hG.size, fun i hi _ => (heap_setCell_other _ _ _ _ (by simp; omega)).trans (hG.block i hi (by simp))⟩⟩
              case measure => simp [intOf]; omega
            · have hk8 : k = 8 := by omega
              rw [hk8, List.take_of_length_le (by rw [length_eight]; omega)] at hrow
              have hge : decide ((k : Int) < 8) = false := by simp; omega
              have HRW : Hid _ := hrow
              clear hk8 hlt hk hrow
              go_wp2
              go_ret
              refine ⟨M0, rfl, fun j hj => ?_, by omega, (Array.getElem?_eq_some_iff.1 HRW.out).1, hG⟩
              rw [cell_of_row wr _ _ _ _ _ HRW.out, List.getElem?_toArray, wrN_at _ _ _ (by rw [length_eight]; exact hj)]
              have hM : s.mix KS b.data.toList = s.plus E := by rw [Eight.mix, ← HWS.out, hE.out]
              rw [hM]
end Go.Proofs.YtplhlhjakapaaaaDoor
