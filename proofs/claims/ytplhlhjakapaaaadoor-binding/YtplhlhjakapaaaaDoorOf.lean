import Derived.Test.YtplhlhjakapaaaaDoorBlock
namespace Go.Proofs.YtplhlhjakapaaaaDoor
open Go Go.RowKit

def mkS (l : List UInt8) : ByteArray := ⟨l.toArray⟩
theorem size_mkS (l : List UInt8) : (mkS l).size = l.length := by simp [mkS, ByteArray.size]
theorem mkS_append (a b : List UInt8) : mkS a ++ mkS b = mkS (a ++ b) := by
  apply ByteArray.ext
  simp [mkS]

def padTo (sl : List UInt8) (j : Nat) : List UInt8 := sl ++ (128 :: List.replicate j 0)
theorem padTo_snoc (sl : List UInt8) (j : Nat) : padTo sl j ++ [0] = padTo sl (j + 1) := by simp [padTo, List.replicate_succ']
theorem length_padTo (sl : List UInt8) (j : Nat) : (padTo sl j).length = sl.length + 1 + j := by simp [padTo]; omega
def strLen : Value → Nat | .string s => s.size | _ => 0
theorem conv_one (W : World) (x : UInt8) :
    (convert 27 9 (.slice (some ⟨W.heap.size, 0, none⟩) 1 1)).run Tryd.prog (W.alloc (.cells #[.int .u8 (x.toNat : Int)] 5)) = .ok (.string (mkS [x])) (W.alloc (.cells #[.int .u8 (x.toNat : Int)] 5)) := by
  have h := run_convert_bytes_back (P := Tryd.prog) (W.alloc (.cells #[.int .u8 (x.toNat : Int)] 5)) 27 9 5 ⟨W.heap.size, 0, none⟩ 1 [x] Tryd.underlying27 Tryd.underlying5 Tryd.underlying9 (fun j hj => by
    obtain rfl : j = 0 := by simpa using hj
    have e : (⟨W.heap.size, 0, none⟩ : Addr).add 0 = ⟨W.heap.size, 0, none⟩ := by unfold Addr.add; split <;> simp_all
    rw [e, cell_of_row _ _ _ _ _ _ (heap_alloc_new _ _)]; rfl)
  exact h

theorem slice_bytes (PP : List UInt8) (k : Nat) (h : 64 * k + 64 ≤ PP.length) (W : World) :
    (Instr.slice 9 (.string (mkS PP)) (some (.int .i64 (64 * (k : Int)))) (some (.int .i64 (64 * (k : Int) + 64))) none).run Tryd.prog W = .ok (.string (mkS ((PP.drop (64 * k)).take 64))) W := by
  rw [run_slice_string W 9 (mkS PP) .i64 .i64 _ _ Tryd.underlying9 (by omega) (by omega) (by rw [size_mkS]; omega)]
  have e1 : ((64 : Int) * (k : Int)).toNat = 64 * k := by omega
  have e2 : ((64 : Int) * (k : Int) + 64).toNat = 64 * k + 64 := by omega
  rw [e1, e2]
  congr 2
  apply ByteArray.ext
  simp [mkS, List.extract_eq_take_drop]
theorem told_take (s : Eight) (k : Nat) (h : k < 32) : (toldL s).take (k + 1) = (toldL s).take k ++ [bt (s.list.getD (k / 4) 0) (2 ^ (24 - 8 * (k % 4)))] := by
  have hl : (toldL s).length = 32 := rfl
  rw [List.take_succ_eq_append_getElem (by omega)]
  congr 2
  have e : ∀ q r, q < 8 → r < 4 → (toldL s)[4 * q + r]? = some (bt (s.list.getD q 0) (2 ^ (24 - 8 * r))) := fun q r hq hr => by
    obtain rfl | rfl | rfl | rfl | rfl | rfl | rfl | rfl : q = 0 ∨ q = 1 ∨ q = 2 ∨ q = 3 ∨ q = 4 ∨ q = 5 ∨ q = 6 ∨ q = 7 := by omega
    all_goals
      obtain rfl | rfl | rfl | rfl : r = 0 ∨ r = 1 ∨ r = 2 ∨ r = 3 := by omega
      all_goals rfl
  have h1 := e (k / 4) (k % 4) (by omega) (by omega)
  rw [show 4 * (k / 4) + k % 4 = k by omega, List.getElem?_eq_getElem (by omega)] at h1
  exact Option.some.inj h1
theorem bt_pow (x : BitVec 32) (n : Nat) : (x.toNat : Int) / 2 ^ n % 256 = ((bt x (2 ^ n)).toNat : Int) := by
  rw [← bt_val]; simp
theorem RefAt.gr {a b : World} {H : Nat} (h : RefAt a H) (hs : H < a.heap.size) (k : a.grownBy b none) : RefAt b H := by
  obtain ⟨T, sp, n, c, h1, h2, g1, c1, g2, c2, h3, h4, h5, h6, h7⟩ := h
  have := k.size
  exact ⟨T, sp, n, c, (k.block _ hs (by simp)).trans h1, by omega, g1, c1, g2, c2, (k.block _ h2 (by simp)).trans h3, by omega, by omega,
    fun j hj => (gr_cell k (p := ⟨g1, j, none⟩) h4).trans (h6 j hj), fun j hj => (gr_cell k (p := ⟨g2, j, none⟩) h5).trans (h7 j hj)⟩

set_option maxHeartbeats 1000000 in
set_option maxRecDepth 100000 in
theorem of_any (H : Nat) (sl : List UInt8) (w : World) (hH : RefAt w H) (hHs : H < w.heap.size) (hlen : sl.length < 1000000000) :
    Calls Tryd.prog 16 #[.pointer (some ⟨H, 0, none⟩), .string (mkS sl)] w fun e w' => e = .returned (.agg ((sha sl).map ub).toArray) ∧ w.grownBy w' none := by
  have HH : Hid _ := hH
  clear hH
  obtain ⟨i0, hi0, hz0, hz1, hz2⟩ := info_parts info83
  have hsz := size_mkS
  have h128 : (⟨#[128]⟩ : ByteArray) = mkS [128] := rfl
  have hcat := mkS_append
  go_enter Tryd.func16, Tryd.ntmps16
  go_wp2
  obtain ⟨ha1, ha2⟩ := atOf_le sl.length
  generalize eA : atOf sl.length = A at ha1 ha2
  have EA : Hid (atOf sl.length = A) := eA
  have hAm : Hid (∀ j, j ≤ A - 1 → ((sl.length + 1 + j) % 64 = 56 ↔ j = A - 1)) := fun j hj => by rw [← eA, atOf] at *; omega
  clear eA h128
  have h0 : (⟨#[0]⟩ : ByteArray) = mkS [0] := rfl
  have hps := padTo_snoc sl
  have hpl := length_padTo sl
  go_loop [6] (fun v => ∃ j, j ≤ A - 1 ∧ v = .string (mkS (padTo sl j))) (fun v => sl.length + 100 - strLen v)
  case atStart => exact ⟨0, by omega, rfl⟩
  case round =>
    obtain ⟨j, hj, rfl⟩ := hrel
    by_cases hlt : j < A - 1
    · have htest : (((sl.length : Int) + 1 + (j : Int)) % 64 != 56) = true := by
        have := hAm.out j hj
        rw [bne_iff_ne]; omega
      go_wp2
      go_round
      case rel => exact ⟨j + 1, by omega, rfl⟩
      case measure => simp [strLen, hsz, hpl]; omega
    · have hjA : j = A - 1 := by omega
      have htest : (((sl.length : Int) + 1 + (j : Int)) % 64 != 56) = false := by
        have := (hAm.out j hj).2 hjA
        rw [bne_eq_false_iff_eq]; omega
      have HP : Hid (padTo sl j ++ lenL sl.length 8 = sl ++ padL sl.length) := by
        show _ = _
        rw [padL, EA.out, hjA, padTo]; simp
      have hjl : j ≤ 63 := by omega
      clear hjA hlt hj h0 hps
      generalize eP : padTo sl j = P1 at HP
      have hl1 : P1.length = sl.length + 1 + j := by rw [← eP]; exact hpl j
      clear eP
      have hr0 : (w.alloc (Obj.cells (brow 32 []).toArray 25)).heap[w.heap.size]? = some (.cells (brow 32 []).toArray 25 (0, 0)) := heap_alloc_new _ _
      have hG0 : w.grownBy (w.alloc (Obj.cells (brow 32 []).toArray 25)) none := gr_alloc _ _
      clear EA hAm hpl ha1 ha2
      go_wp2
      change Code.wp _ _ _ _ (w.alloc (Obj.cells (brow 32 []).toArray 25))
      generalize w.alloc (Obj.cells (brow 32 []).toArray 25) = W0 at hr0 hG0 ⊢
      go_loopw [6, 7] (fun v i wr => ∃ k : Nat, k ≤ 8 ∧ v = .string (mkS (P1 ++ lenL sl.length k)) ∧ i = .int .i64 (7 - (k : Int)) ∧ wr.heap[w.heap.size]? = some (.cells (brow 32 []).toArray 25 (0, 0)) ∧ w.grownBy wr none)
        (fun _ i _ => (intOf i + 1).toNat)
      case atStart => exact ⟨0, by omega, by rw [lenL, List.append_nil], rfl, hr0, hG0⟩
      case round =>
        clear hr0 hG0
        obtain ⟨k, hk, rfl, rfl, hr, hG⟩ := hrel
        have hll := length_lenL sl.length k
        by_cases hlt : k < 8
        · have hval := lenB_val sl.length k
          have hcv := conv_one
          have HSN : Hid (P1 ++ lenL sl.length k ++ [lenB sl.length k] = P1 ++ lenL sl.length (k + 1)) := by
            show _ = _
            rw [lenL, List.append_assoc]
          have t8 : ((8 : Int) * (7 - (k : Int))).toNat = 56 - 8 * k := by omega
          generalize eL : P1 ++ lenL sl.length k = L1 at HSN
          have hl2 : L1.length = sl.length + 1 + j + k := by rw [← eL, List.length_append, hl1, hll]
          clear eL hll
          go_wp2
          exact ⟨⟨k + 1, by omega, by rw [HSN.out], by go_num, (Below.heap_alloc _ _ _ (Array.getElem?_eq_some_iff.1 hr).1).trans hr, gr_trans hG (gr_alloc _ _)⟩, by simp [intOf]; omega⟩
        · have hk8 : k = 8 := by omega
          rw [hk8, HP.out]
          have hk8' : (k : Int) = 8 := by omega
          clear hll
          have hPl : (sl ++ padL sl.length).length = sl.length + atOf sl.length + 8 := by rw [List.length_append, length_padL]; omega
          obtain ⟨NB, hNB⟩ : ∃ NB, sl.length + atOf sl.length + 8 = 64 * NB := ⟨(sl.length + atOf sl.length + 8) / 64, by unfold atOf; omega⟩
          rw [hNB] at hPl
          have hNBb : NB < 20000000 := by have := (atOf_le sl.length).2; omega
          have HSH : Hid (sha sl = toldL (mixN H0 (sl ++ padL sl.length) NB)) := by
            show _ = _
            rw [sha, hPl]; congr 2; omega
          generalize sl ++ padL sl.length = PP at hPl HSH
          obtain ⟨T, spE, nE, cE, hRT, hTs, tg1, tc1, tg2, tc2, hTT, htg1, htg2, hH8, hK64⟩ := HH.out
          have cH : wr.cell? ⟨H, 0, none⟩ = some (.pointer (some ⟨T, 0, none⟩)) := (gr_cell hG (p := ⟨H, 0, none⟩) hHs).trans (by rw [cell_of_row w _ _ _ _ _ hRT]; rfl)
          have cT : wr.cell? ⟨T, 0, none⟩ = some (.slice (some ⟨tg1, 0, none⟩) 8 tc1) := (gr_cell hG (p := ⟨T, 0, none⟩) hTs).trans (by rw [cell_of_row w _ _ _ _ _ hTT]; rfl)
          have cV : Hid (∀ j v, (H0.list.map uw)[j]? = some v → wr.cell? ((⟨tg1, 0, none⟩ : Addr).add j) = some v) := fun j v hj => by
            have hj8 : j < 8 := by have := (List.getElem?_eq_some_iff.1 hj).1; simpa [Eight.list] using this
            have e : (⟨tg1, 0, none⟩ : Addr).add j = ⟨tg1, j, none⟩ := by unfold Addr.add; split <;> simp_all
            rw [e, gr_cell hG (p := ⟨tg1, j, none⟩) htg1, hH8 j hj8, ← hj, List.getElem?_map, List.getElem?_eq_getElem (by simpa [Eight.list] using hj8)]
            have : j < H0.list.length := by simpa [Eight.list] using hj8
            simp [this]
          clear hRT hTT hH8 hK64 hNB HP hl1 htest hk hlt
          have hge : decide ((0 : Int) ≤ 7 - (k : Int)) = false := by simp; omega
          have hsz7 := hG.size
          go_wp2_with (at_builtin; refine wpList_append_own _ rfl _ _ 92 rfl wr.heap.size 96 i0 (.int .u32 0) 1 4 Tryd.underlying92 hi0 hz0 hz1 hz2 rfl (by decide) _ _ _ rfl (World.ownsRow_nil _ _ _ _) ⟨tg1, 0, none⟩ 8 tc1 (H0.list.map uw) rfl ?c0 cV.out ?c2 ?c3 ?c4 (Nat.le_refl _) ?_)
          case c0 => simp [Eight.list]
          case c2 => intro u hu; obtain ⟨x, _, rfl⟩ := List.mem_map.1 hu; rfl
          case c3 => unfold maxLen; omega
          case c4 => omega
          intro v2 w2 hown2 hG2 _
          have hG2' : wr.grownBy w2 none := hG2
          have hG02 := gr_trans hG hG2'
          have hNs : w.heap.size < wr.heap.size := (Array.getElem?_eq_some_iff.1 hr).1
          have hr2 : w2.heap[w.heap.size]? = some (.cells (brow 32 []).toArray 25 (0, 0)) := (hG2'.block _ hNs (by simp)).trans hr
          obtain ⟨g3, cap3, rfl, hg3, hg3s, hcap3, hcell3⟩ := owned hown2 (by omega)
          have cS : Hid (∀ j, j < 8 → w2.cell? ⟨g3, j, none⟩ = some (uw (H0.list.getD j 0))) := fun j hj => by
            rw [hcell3 j hj, List.getElem?_map, List.getElem?_eq_getElem (by simpa [Eight.list] using hj)]
            have : j < H0.list.length := by simpa [Eight.list] using hj
            simp [this]
          clear hcell3 hown2 hG2 hG2' cV cH cT hr hG hge hk8 hk8'
          go_wp2
          go_loopw [8, 9] (fun v i wq => ∃ (k g3 cap3 : Nat), k ≤ NB ∧ i = .int .i64 (64 * (k : Int)) ∧ v = .slice (some ⟨g3, 0, none⟩) 8 cap3 ∧ Hid (∀ j, j < 8 → wq.cell? ⟨g3, j, none⟩ = some (uw ((mixN H0 PP k).list.getD j 0))) ∧ g3 < wq.heap.size ∧ w.heap.size < g3 ∧
              wq.heap[w.heap.size]? = some (.cells (brow 32 []).toArray 25 (0, 0)) ∧ w.grownBy wq none)
            (fun _ i _ => 64 * NB - (intOf i).toNat)
          case atStart => exact ⟨0, g3, cap3, by omega, rfl, rfl, cS, hg3s, by omega, hr2, hG02⟩
          case round =>
            clear cS hg3 hg3s hcap3 hr2 hG02
            obtain ⟨k, g3, cap3, hk, rfl, rfl, cS, hg3s, hg3, hr, hG⟩ := hrel
            by_cases hlt : k < NB
            · have hsl := slice_bytes PP k (by omega)
              have HM : Hid (mixN H0 PP (k + 1) = (mixN H0 PP k).mix KS ((PP.drop (64 * k)).take 64)) := rfl
              have hl64 : ((PP.drop (64 * k)).take 64).length = 64 := by simp; omega
              generalize (PP.drop (64 * k)).take 64 = bk at hsl HM hl64
              generalize eM : mixN H0 PP k = st at cS HM
              clear eM
              have hbl := block_any H g3 cap3 st (mkS bk) (by rw [size_mkS]; exact hl64) wr (RefAt.gr HH.out hHs hG) (by have := hG.size; omega) hg3s cS.out
              have hdata : (mkS bk).data.toList = bk := rfl
              rw [hdata] at hbl
              have hst : decide (k < NB) = true := by simp; omega
              clear hdata hl64
              go_wp2_with fail
              refine hbl.mono ?_
              rintro e w3 ⟨g4, rfl, c4, hg4, hg4s, hG3⟩
              clear hbl
              have hrs : w.heap.size < wr.heap.size := (Array.getElem?_eq_some_iff.1 hr).1
              have hr3 : w3.heap[w.heap.size]? = some (.cells (brow 32 []).toArray 25 (0, 0)) := (hG3.block _ hrs (by simp)).trans hr
              have hG03 := gr_trans hG hG3
              have C4 : Hid (∀ j, j < 8 → w3.cell? ⟨g4, j, none⟩ = some (uw ((mixN H0 PP (k + 1)).list.getD j 0))) := fun j hj => by rw [HM.out]; exact c4 j hj
              clear c4 hG3 hG hr cS
              go_wp2_with fail
              exact ⟨⟨k + 1, g4, 8, by omega, by go_num, rfl, C4, hg4s, by omega, hr3, hG03⟩, by simp [intOf]; omega⟩
            · have hkN : k = NB := by omega
              have hst : decide (k < NB) = false := by simp; omega
              rw [hkN] at cS
              generalize mixN H0 PP NB = st at cS HSH
              clear hkN hlt hk
              have hrs : w.heap.size < wr.heap.size := (Array.getElem?_eq_some_iff.1 hr).1
              have hr3 : (wr.alloc (Obj.cells (brow 32 []).toArray 25)).heap[w.heap.size]? = some (.cells (brow 32 []).toArray 25 (0, 0)) := (Below.heap_alloc _ _ _ hrs).trans hr
              have hr4 : (wr.alloc (Obj.cells (brow 32 []).toArray 25)).heap[wr.heap.size]? = some (.cells (brow 32 []).toArray 25 (0, 0)) := heap_alloc_new _ _
              have hG3 := gr_trans hG (gr_alloc wr (Obj.cells (brow 32 []).toArray 25))
              have C3 : Hid (∀ j, j < 8 → (wr.alloc (Obj.cells (brow 32 []).toArray 25)).cell? ⟨g3, j, none⟩ = some (uw (st.list.getD j 0))) := fun j hj => (gr_cell (gr_alloc wr _) (p := ⟨g3, j, none⟩) hg3s).trans (cS.out j hj)
              obtain ⟨M0, hM0⟩ : ∃ M0, M0 = wr.heap.size := ⟨_, rfl⟩
              clear cS hG hr
              go_wp2
              change Code.wp _ _ _ _ (wr.alloc (Obj.cells (brow 32 []).toArray 25))
              generalize wr.alloc (Obj.cells (brow 32 []).toArray 25) = W1 at hr3 hr4 hG3 C3 ⊢
              rw [← hM0] at hr4 hg3s hrs ⊢
              clear hM0
              go_loopw [11] (fun i wq => ∃ k : Nat, k ≤ 32 ∧ i = .int .i64 (k : Int) ∧ wq.heap[M0]? = some (.cells (brow 32 ((toldL st).take k)).toArray 25 (0, 0)) ∧ wq.heap[w.heap.size]? = some (.cells (brow 32 []).toArray 25 (0, 0)) ∧ Hid (∀ j, j < 8 → wq.cell? ⟨g3, j, none⟩ = some (uw (st.list.getD j 0))) ∧ w.grownBy wq none)
                (fun i _ => 32 - (intOf i).toNat)
              case atStart => exact ⟨0, by omega, rfl, hr4, hr3, C3, hG3⟩
              case round =>
                clear hr4 hr3 C3 hG3
                obtain ⟨k, hk, rfl, hrow, hr, cS, hG⟩ := hrel
                by_cases hlt : k < 32
                · have hl : ((toldL st).take k).length = k := by rw [List.length_take]; show min k 32 = k; omega
                  have cq : wr.cell? ⟨g3, k / 4, none⟩ = some (uw (st.list.getD (k / 4) 0)) := cS.out (k / 4) (by omega)
                  have cM : wr.cell? ⟨M0, k, none⟩ = some (ub 0) := by rw [cell_of_row wr _ _ _ _ _ hrow, List.getElem?_toArray, brow_zero _ _ _ (by omega) (by omega)]
                  have fM : wr.frozen? ⟨M0, k, none⟩ = false := frozen_of_row wr _ _ _ _ hrow
                  have HSN := told_take st k hlt
                  have HS : Hid ((wr.setCell ⟨M0, k, none⟩ (ub (bt (st.list.getD (k / 4) 0) (2 ^ (24 - 8 * (k % 4)))))).heap[M0]? = some (.cells (brow 32 ((toldL st).take (k + 1))).toArray 25 (0, 0))) := by
                    rw [HSN]
                    exact brow_store' _ k hl.symm hrow (by omega)
                  generalize st.list.getD (k / 4) 0 = x at cq HS
                  clear hl HSN
                  have q1 : (k : Int) / 4 < 8 := by omega
                  have q2 : ((k : Int) / 4).toNat = k / 4 := by omega
                  have d0 : (k : Int) < 32 := by omega
                  have r1 : (0 : Int) ≤ 24 - (k : Int) % 4 * 8 := by omega
                  have r2 : (24 - (k : Int) % 4 * 8).toNat = 24 - 8 * (k % 4) := by omega
                  go_wp2
                  rw [bt_pow]
                  refine ⟨⟨k + 1, by omega, by go_num, HS.out, (heap_setCell_other _ _ _ _ (by simp <;> omega)).trans hr, fun j hj => (World.cell?_setCell_other _ _ _ _ (by simp <;> omega)).trans (cS.out j hj), ?_⟩, by simp [intOf]; omega⟩
                  exact ⟨hG.os, hG.tape, hG.output, by simpa using hG.size, fun i hi _ => (heap_setCell_other _ _ _ _ (by simp; omega)).trans (hG.block i hi (by simp))⟩
                · have hk32 : k = 32 := by omega
                  have hl : (toldL st).length = 32 := rfl
                  rw [hk32, List.take_of_length_le (by omega)] at hrow
                  have hge : decide ((k : Int) < 32) = false := by simp; omega
                  have HI : Hid _ := info25 (brow 32 (toldL st)) (length_brow _ _ (by omega))
                  have HO : Hid ((brow 32 []).toArray.size = (brow 32 (toldL st)).toArray.size) := by
                    show _ = _
                    rw [List.size_toArray, List.size_toArray, length_brow _ _ (by simp), length_brow _ _ (by omega)]
                  have Hl : Hid _ := hl
                  clear hk32 hlt hk hl
                  go_wp2_with (first
                    | (refine wpList_load_row rfl 25 _ rfl M0 rfl 25 _ (0, 0) _ hrow Tryd.underlying25 rfl HI.out ?_)
                    | (refine wpList_store_row rfl 25 _ _ rfl w.heap.size _ rfl rfl 25 _ hr HI.out HO.out (brow_one _ _) ?_))
                  refine bodyPost_ret (v := .agg (brow 32 (toldL st)).toArray) (results_cell_row Tryd.results16 _ _ w.heap.size 25 _ (0, 0) _ rfl (setRow_heap wr _ _ _ 25 _ hr) Tryd.underlying25 rfl HI.out) rfl ⟨by rw [brow_full _ _ Hl.out, HSH.out], gr_row hG _ _ (Nat.le_refl _)⟩
end Go.Proofs.YtplhlhjakapaaaaDoor
