import Derived.Test.YtjgmmdgcknnlpaaDoorMix
import Derived.Test.YtjgmmdgcknnlpaaDoorMsg
import Derived.Deep.RegionLaw
import Derived.Laws.CopyOwn
namespace Go.Proofs.YtjgmmdgcknnlpaaDoor
open Go Go.RowKit

/-- 'copy' into a row that is known whole, in a region that draws: the row spliced, all else as it was. -/
theorem step_copy_grow {P : Program} {ops : Array Oper} {o : Oper} {a : Act} {w : World} {K : Act → World → Prop} {Q : Exit → Act → World → Prop} {E : Prop} (hgd : o.guard = none) (d s : Operand) (dT sT : TypeId)
    (ho : o.op = .call { callee := .builtin .copy, args := #[d, s], argTypes := #[dT, sT] }) (elem : TypeId) (hu : P.underlying dT = some (.slice elem)) (hsz : (P.info? elem).map (·.size) = some 1)
    (ad : Addr) (dLen dCap sLen sCap : Nat) (g off : Nat) (hd : a.eval d = .slice (some ⟨g, off, none⟩) dLen dCap) (hs : a.eval s = .slice (some ad) sLen sCap)
    (cur : List Value) (t : TypeId) (hg : w.heap[g]? = some (.cells cur.toArray t (0, 0))) (cs : List Value) (hn : cs.length = Nat.min sLen dLen)
    (hsrc : ∀ j v, cs[j]? = some v → w.cell? (ad.add j) = some v)
    (hfit : off + cs.length ≤ cur.length) (h1 : ∀ v ∈ cs, v.oneCell' = true)
    (h : ∀ w', w'.heap[g]? = some (.cells (splice cur off cs).toArray t (0, 0)) → w.grownBy w' (some g) → w'.heap.size = w.heap.size → K (a.put o.dst (goInt cs.length)) w') :
    if Region.wanted o (yielded ops a.tmps) = true then Oper.wp P o a w K Q else E := by
  have hw : Region.wanted o (yielded ops a.tmps) = true := by simp [Region.wanted, hgd]
  rw [if_pos hw]
  have hrun := run_copy_row (P := P) w dT sT o.type elem g off dLen dCap ad sLen sCap cur.toArray t cs hu hsz hg hn hsrc (by simpa using hfit) h1
  unfold Oper.wp
  simp [execOp, ho, resolve, invoke, builtin, hd, hs, hrun, Result.andThen]
  exact h _ (by simpa [splice] using setRow_heap w g _ _ t _ hg) ⟨rfl, rfl, rfl, by simp, fun k _ hne => setRow_other w g k _ (by simpa using hne)⟩ (by simp)

/-- A hasher that has taken in M lies in block g. -/
def HasherIs (w : World) (g : Nat) (M : List UInt8) : Prop :=
  ∃ s blk, w.heap[g]? = some (.cells (hrow s blk (M.length : Int)).toArray 122 (0, 0)) ∧ Rep M s blk

theorem hrow_splice (s : Eight) (blk : List UInt8) (n : Int) (off : Nat) (cs : List UInt8) (h : off + cs.length ≤ blk.length) :
    splice (hrow s blk n) (8 + off) (cs.map ub) = hrow s (splice blk off cs) n := by
  have h8 : (s.list.map uw).length = 8 := by simp [Eight.list]
  have e : 8 + off + cs.length = (s.list.map uw).length + (off + cs.length) := by omega
  rw [splice, hrow, List.take_append, h8, List.take_of_length_le (by omega), show 8 + off - 8 = off by omega, List.length_map, e, List.drop_append,
    List.drop_of_length_le (l := s.list.map uw) (by omega), List.take_append_of_le_length (by simp; omega), Nat.add_sub_cancel_left, List.drop_append_of_le_length (by simp; omega)]
  simp [hrow, splice]

theorem slice_rest (g c : Nat) (hc : c < 64) (W : World) :
    (Instr.sliceAt 120 (.pointer (some ⟨g, 8, none⟩)) (some (.int .u64 (c : Int))) none none).run Tryd.prog W = .ok (.slice (some ⟨g, 8 + c, none⟩) (64 - c) (64 - c)) W := by
  rw [run_sliceAt_array_l W 120 ⟨g, 8, none⟩ (by simp [Program.arrayLen, Program.elem, Tryd.underlying120]) .u64 _ (by omega) (by rw [al102]; omega), al102]
  have h3 : ¬ 64 = c := by omega
  simp [go_sem, Program.elem, Tryd.underlying120, h3, Addr.add]

theorem hrow_size (s : Eight) (blk : List UInt8) (n : Int) (h : blk.length = 64) : (hrow s blk n)[72]? = some (.int .u64 n) := by
  have h8 : (s.list.map uw).length = 8 := by simp [Eight.list]
  rw [hrow, List.getElem?_append_right (by omega), h8, List.getElem?_append_right (by simp [h])]
  simp [h]
theorem hrow_set (s : Eight) (blk : List UInt8) (n n' : Int) (h : blk.length = 64) : (hrow s blk n).set 72 (.int .u64 n') = hrow s blk n' := by
  have h8 : (s.list.map uw).length = 8 := by simp [Eight.list]
  rw [hrow, List.set_append_right _ _ (by omega), h8, List.set_append_right _ _ (by simp [h])]
  simp [h, hrow]
theorem length_hrow (s : Eight) (blk : List UInt8) (n : Int) (h : blk.length = 64) : (hrow s blk n).length = 73 := by
  simp [hrow, Eight.list, h]
theorem slice_on (sb so L cap m : Nat) (hm : m ≤ L) :
    ∃ p, (∀ W : World, (Instr.slice 27 (.slice (some ⟨sb, so, none⟩) L cap) (some (.int .i64 (m : Int))) none none).run Tryd.prog W = .ok (.slice p (L - m) (cap - m)) W) ∧ (m < cap → p = some ⟨sb, so + m, none⟩) := by
  refine ⟨if cap = m then some ⟨sb, so, none⟩ else some ⟨sb, so + m, none⟩, fun W => ?_, fun h => by rw [if_neg (by omega)]⟩
  rw [run_slice_l W 27 (some ⟨sb, so, none⟩) L cap (by simp [Program.elem, Tryd.underlying27]) .i64 _ (by omega) (by omega)]
  by_cases hc : cap = m <;> simp [go_sem, Program.elem, Tryd.underlying27, hc, Addr.add]

set_option maxHeartbeats 1000000 in
set_option maxRecDepth 100000 in
theorem write_any (g : Nat) (M bs : List UInt8) (sp : Option Addr) (cap : Nat) (w : World) (hg1 : 1 < g) (hT : Tab w) (hH : HasherIs w g M)
    (hlen : M.length + bs.length < 1152921504606846976) (hcap : bs.length ≤ cap)
    (hsp : 0 < bs.length → ∃ sb so, sp = some ⟨sb, so, none⟩ ∧ sb ≠ g ∧ sb < w.heap.size ∧ ∀ j, j < bs.length → w.cell? ⟨sb, so + j, none⟩ = some (ub (bs.getD j 0))) :
    Calls Tryd.prog 80 #[.pointer (some ⟨g, 0, none⟩), .slice sp bs.length cap] w fun e w' => e = .returned (.tuple #[]) ∧ HasherIs w' g (M ++ bs) ∧ w.grownBy w' (some g) := by
  have hgw : g < w.heap.size := by
    obtain ⟨_, _, h, _⟩ := hH
    exact (Array.getElem?_eq_some_iff.1 h).1
  have HT : Hid (Tab w) := hT
  have HH : Hid (HasherIs w g M) := hH
  have HSP : Hid _ := hsp
  clear hT hH hsp
  go_enter Tryd.func80, Tryd.ntmps80
  go_wp2
  go_loopw [1] (fun v wr => ∃ k p, k ≤ bs.length ∧ v = .slice p (bs.length - k) (cap - k) ∧ HasherIs wr g (M ++ bs.take k) ∧ w.grownBy wr (some g) ∧
      (k < bs.length → ∃ sb so, p = some ⟨sb, so, none⟩ ∧ sb ≠ g ∧ sb < w.heap.size ∧ ∀ j, j < bs.length - k → w.cell? ⟨sb, so + j, none⟩ = some (ub (bs.getD (k + j) 0))))
    (fun v _ => match v with | .slice _ n _ => n | _ => 0)
  case atStart =>
    refine ⟨0, sp, by omega, rfl, by simpa using HH.out, ⟨rfl, rfl, rfl, Nat.le_refl _, fun _ _ _ => rfl⟩, ?_⟩
    simpa using HSP.out
  case round =>
    obtain ⟨k, p, hk, rfl, hHr, hGr, hp⟩ := hrel
    by_cases hlt : k < bs.length
    · obtain ⟨sb, so, rfl, hne, hsb, hsrc⟩ := hp hlt
      obtain ⟨s, blk, hrowr, hrep⟩ := hHr
      have hc0 : wr.cell? ⟨g, 72, none⟩ = some (.int .u64 ((M ++ bs.take k).length : Int)) := by rw [cell_of_row wr _ _ _ _ _ hrowr, List.getElem?_toArray, hrow_size _ _ _ hrep.len]
      have hcl : (M ++ bs.take k).length + (bs.length - k) < 1152921504606846976 := by simp; omega
      have hR : ∃ R : List UInt8, R.length = bs.length - k ∧ bs.drop k = R := ⟨_, by simp, rfl⟩
      obtain ⟨R, hRl, hR⟩ := hR
      have HR : Hid (bs.drop k = R) := hR
      clear hR
      generalize eN : M ++ bs.take k = N at hc0 hcl hrowr hrep
      have EN : Hid (M ++ bs.take k = N) := eN
      clear eN hp
      have hfit : N.length % 64 < 64 := by omega
      generalize eC : N.length % 64 = c at hfit
      have hm : ∃ m : Nat, m = Nat.min (bs.length - k) (64 - c) := ⟨_, rfl⟩
      obtain ⟨m, hm⟩ := hm
      have hm0 : 0 < m := by rw [hm]; exact Nat.lt_min.2 ⟨by omega, by omega⟩
      have hm1 : m ≤ bs.length - k := by rw [hm]; exact Nat.min_le_left _ _
      have hm2 : c + m ≤ 64 := by have : m ≤ 64 - c := by rw [hm]; exact Nat.min_le_right _ _
                                  omega
      have HM : Hid (m = Nat.min (bs.length - k) (64 - c)) := hm
      have EC : Hid (N.length % 64 = c) := eC
      have hcI : (N.length : Int).tmod 64 = (c : Int) := by rw [Int.tmod_eq_emod_of_nonneg (by omega)]; omega
      clear hm eC
      have hsl := slice_rest g c hfit
      have hcs : ((R.take m).map ub).length = m := by simp; omega
      have HCS : Hid (((R.take m).map ub).length = Nat.min (bs.length - k) (64 - c)) := hcs.trans HM.out
      have HSRC : Hid (∀ j v, ((R.take m).map ub)[j]? = some v → wr.cell? ((⟨sb, so, none⟩ : Addr).add j) = some v) := fun j v hv => by
        have hj : j < m := by rw [← hcs]; exact (List.getElem?_eq_some_iff.1 hv).1
        have hRj : R.getD j 0 = bs.getD (k + j) 0 := by rw [← HR.out]; simp
        have e1 : wr.cell? ⟨sb, so + j, none⟩ = w.cell? ⟨sb, so + j, none⟩ := World.cell?_of_block (w := w) (hGr.block sb hsb (by simpa using hne))
        have e2 : (⟨sb, so, none⟩ : Addr).add j = ⟨sb, so + j, none⟩ := by unfold Addr.add; split <;> simp_all
        rw [e2, e1, hsrc j (by omega), ← hRj, ← hv]
        simp [hj, show j < R.length by omega]
      have HFIT : Hid (8 + c + ((R.take m).map ub).length ≤ (hrow s blk (N.length : Int)).length) := by
        show _ ≤ _
        rw [hcs, length_hrow _ _ _ hrep.len]; omega
      have HONE : Hid (∀ v ∈ (R.take m).map ub, v.oneCell' = true) := fun v hv => by
        obtain ⟨x, _, rfl⟩ := List.mem_map.1 hv; rfl
      have HSPL : Hid (splice (hrow s blk (N.length : Int)) (8 + c) ((R.take m).map ub) = hrow s (splice blk c (R.take m)) (N.length : Int)) :=
        hrow_splice _ _ _ _ _ (by rw [hrep.len]; simp; omega)
      have HCSm : Hid (((R.take m).map ub).length = m) := hcs
      have HCh : Hid (Rep (N ++ R.take m) (if c + m = 64 then s.mix KS (splice blk c (R.take m)) else s) (splice blk c (R.take m))) := by
        have hl : (R.take m).length = m := by simp; omega
        show Rep _ _ _
        by_cases h64 : c + m = 64
        · rw [if_pos h64, ← EC.out]; exact hrep.full _ (by rw [EC.out, hl]; exact h64)
        · rw [if_neg h64, ← EC.out]; exact hrep.chunk _ (by rw [EC.out, hl]; omega)
      have hbl : (splice blk c (R.take m)).length = 64 := by rw [length_splice _ _ _ (by rw [hrep.len]; simp; omega), hrep.len]
      have HSRC0 : Hid _ := hsrc
      clear hcs hsrc hRl hrep
      go_wp2
      go_region_law (refine step_copy_grow rfl _ _ 27 27 rfl 5 Tryd.underlying27 (by kernel_rfl) ⟨sb, so, none⟩ _ _ _ _ g (8 + c) rfl rfl _ 122 hrowr ((R.take m).map ub) HCS.out HSRC.out HFIT.out HONE.out ?_; intro w4 hw4 hG4 hs4; rw [HSPL.out] at hw4; rw [HCSm.out])
      have hgn : g < w4.heap.size := (Array.getElem?_eq_some_iff.1 hw4).1
      have hc4 : w4.cell? ⟨g, 72, none⟩ = some (.int .u64 (N.length : Int)) := by rw [cell_of_row w4 _ _ _ _ _ hw4, List.getElem?_toArray, hrow_size _ _ _ hbl]
      have hf4 : w4.frozen? ⟨g, 72, none⟩ = false := frozen_of_row w4 _ _ _ _ hw4
      have hS5 : (w4.setCell ⟨g, 72, none⟩ (.int .u64 ((N.length : Int) + (m : Int)))).heap[g]? = some (.cells (hrow s (splice blk c (R.take m)) ((N.length : Int) + (m : Int))).toArray 122 (0, 0)) := by
        rw [heap_setCell_same _ _ _ _ _ _ hw4, List.setIfInBounds_toArray, hrow_set _ _ _ _ hbl]
      have hG5 : w.grownBy (w4.setCell ⟨g, 72, none⟩ (.int .u64 ((N.length : Int) + (m : Int)))) (some g) :=
        ⟨hG4.os.trans hGr.os, hG4.tape.trans hGr.tape, hG4.output.trans hGr.output, by have := hGr.size; have := hG4.size; simp at *; omega, fun j hj hne' =>
          (heap_setCell_other _ _ _ _ (by simpa using hne')).trans ((hG4.block j (by have := hGr.size; simp; omega) hne').trans (hGr.block j hj hne'))⟩
      have hT5 : Tab (w4.setCell ⟨g, 72, none⟩ (.int .u64 ((N.length : Int) + (m : Int)))) := fun j hj =>
        (World.cell?_of_block (w := w) (hG5.block 1 (by have := hGr.size; have := hG4.size; simp at *; omega) (by simp; omega))).trans (HT.out j hj)
      have HS5 : Hid _ := hS5
      have HG5 : Hid _ := hG5
      have HT5 : Hid _ := hT5
      obtain ⟨p', hon, hp'⟩ := slice_on sb so (bs.length - k) (cap - k) m hm1
      have HP : Hid _ := hp'
      have HC : Hid (c + m = 64 ↔ (N.length + m) % 64 = 0) := by show _ ↔ _; have := EC.out; omega
      clear hw4 hG4 hs4 hrowr hc0 hS5 hG5 hT5 hp' hsl hGr
      have hkm : bs.length - k - m = bs.length - (k + m) := by omega
      have hkc : cap - k - m = cap - (k + m) := by omega
      have HMsg : Hid (N ++ R.take m = M ++ bs.take (k + m)) := by
        show _ = _
        rw [← EN.out, ← HR.out, List.append_assoc, List.take_add]
      have HLn : Hid (((N ++ R.take m).length : Int) = (N.length : Int) + (m : Int)) := by
        have := HCSm.out
        show _ = _
        simp at this ⊢; omega
      have HNext : Hid (k + m < bs.length → ∃ sb' so', p' = some ⟨sb', so', none⟩ ∧ sb' ≠ g ∧ sb' < w.heap.size ∧ ∀ j, j < bs.length - (k + m) → w.cell? ⟨sb', so' + j, none⟩ = some (ub (bs.getD (k + m + j) 0))) := fun h =>
        ⟨sb, so + m, HP.out (by omega), hne, hsb, fun j hj => by
          have := HSRC0.out (m + j) (by omega)
          rw [show so + m + j = so + (m + j) by omega, show k + m + j = k + (m + j) by omega]
          exact this⟩
      have HK1 : Hid (bs.length - k - m = bs.length - (k + m)) := hkm
      have HK2 : Hid (cap - k - m = cap - (k + m)) := hkc
      clear hkm hkc
      by_cases h64 : c + m = 64
      · have htest : (((N.length : Int) + (m : Int)) % 64 == 0) = true := by
          have := HC.out.1 h64
          rw [beq_iff_eq]; omega
        have HCh' : Hid (Rep (N ++ R.take m) (s.mix KS (splice blk c (R.take m))) (splice blk c (R.take m))) := by
          have := HCh.out; rw [if_pos h64] at this; exact this
        clear h64 HCh hcI
        go_wp2_with fail
        refine (mix_any g 122 s (splice blk c (R.take m)) _ hbl _ hg1 HT5.out HS5.out).mono ?_
        rintro e w6 ⟨rfl, hrow6, hG6⟩
        have hH6 : HasherIs w6 g (M ++ bs.take (k + m)) := by
          rw [← HMsg.out]
          exact ⟨_, _, by rw [HLn.out]; exact hrow6, HCh'.out⟩
        have HH6 : Hid _ := hH6
        have hG7 : w.grownBy w6 (some g) := by
          have h5 := HG5.out
          exact ⟨hG6.os.trans h5.os, hG6.tape.trans h5.tape, hG6.output.trans h5.output, Nat.le_trans h5.size hG6.size, fun j hj hne' => (hG6.block j (Nat.lt_of_lt_of_le hj h5.size) hne').trans (h5.block j hj hne')⟩
        have HG7 : Hid _ := hG7
        clear hrow6 hG6 hH6 hG7
        go_wp2_with fail
        exact ⟨⟨k + m, p', by omega, by rw [HK1.out, HK2.out], HH6.out, HG7.out, HNext.out⟩, by simp; omega⟩
      · have htest : (((N.length : Int) + (m : Int)) % 64 == 0) = false := by
          have : ¬ (N.length + m) % 64 = 0 := fun h => h64 (HC.out.2 h)
          rw [beq_eq_false_iff_ne]; omega
        have HCh' : Hid (Rep (N ++ R.take m) s (splice blk c (R.take m))) := by
          have := HCh.out; rw [if_neg h64] at this; exact this
        clear h64 HCh hcI
        go_wp2_with fail
        refine ⟨⟨k + m, p', by omega, by rw [HK1.out, HK2.out], ?_, HG5.out, HNext.out⟩, by simp; omega⟩
        rw [← HMsg.out]
        exact ⟨_, _, by rw [HLn.out]; exact HS5.out, HCh'.out⟩
    · have hke : k = bs.length := by omega
      have hHe : HasherIs wr g (M ++ bs) := by rw [hke, List.take_length] at hHr; exact hHr
      have hge : decide (0 < bs.length - k) = false := by simp; omega
      have HHe : Hid _ := hHe
      have HGe : Hid _ := hGr
      clear hHe hHr hGr hp hlt hke
      go_wp2
      go_end0
      exact ⟨rfl, HHe.out, HGe.out⟩
end Go.Proofs.YtjgmmdgcknnlpaaDoor
