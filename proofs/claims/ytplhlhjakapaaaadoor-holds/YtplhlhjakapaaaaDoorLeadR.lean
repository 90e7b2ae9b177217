/-
  rootsref's Lead: where a proof leads from a hash at a place.
-/
import Derived.Test.YtplhlhjakapaaaaDoorPlaceR
import Derived.Test.YtplhlhjakapaaaaDoorNew
import Derived.Test.YtplhlhjakapaaaaDoorTake
import Derived.Test.YtplhlhjakapaaaaDoorGuard
import Derived.WalkSmall
import Derived.StillTailTactics
namespace Go.Proofs.YtplhlhjakapaaaaDoor
open Go Go.RowKit

/-- One level: the hash and the one beside it, each on its side. -/
def stepL (pl k : Nat) (x s : List UInt8) : List UInt8 := if pl / 2 ^ k % 2 = 1 then sha (nodeL 3 s x) else sha (nodeL 3 x s)
/-- The levels from k on, f of them. -/
def leadO (pl mask : Nat) : Nat → Nat → List UInt8 → List (List UInt8) → Option (List UInt8)
  | 0, _, x, ps => if ps = [] then some x else none
  | f + 1, k, x, ps => if mask / 2 ^ k % 2 = 1 then (match ps with
      | [] => none
      | s :: ps => leadO pl mask f (k + 1) (stepL pl k x s) ps)
    else leadO pl mask f (k + 1) (stepL pl k x (er k)) ps

theorem leadO_skip (pl mask f k : Nat) (x : List UInt8) (ps : List (List UInt8)) (h : ¬ mask / 2 ^ k % 2 = 1) : leadO pl mask (f + 1) k x ps = leadO pl mask f (k + 1) (stepL pl k x (er k)) ps := by
  rw [leadO.eq_def]; simp only [if_neg h]
theorem leadO_take (pl mask f k : Nat) (x s : List UInt8) (ps : List (List UInt8)) (h : mask / 2 ^ k % 2 = 1) : leadO pl mask (f + 1) k x (s :: ps) = leadO pl mask f (k + 1) (stepL pl k x s) ps := by
  rw [leadO.eq_def]; simp only [if_pos h]
theorem leadO_out (pl mask f k : Nat) (x : List UInt8) (h : mask / 2 ^ k % 2 = 1) : leadO pl mask (f + 1) k x [] = none := by
  rw [leadO.eq_def]; simp only [if_pos h]

/-- A proof's cells. -/
def proofC (mask : Nat) (path : Value) (taken : Bool) (key val : List UInt8) : List Value := .int .u64 (mask : Int) :: path :: .bool taken :: (key.map ub ++ val.map ub)
theorem bit_eq (m k : Nat) (hm : m < 18446744073709551616) : bits BinOp.and IntKind.u64 ((m : Int) / 2 ^ k) 1 = ((m / 2 ^ k % 2 : Nat) : Int) := by
  have e : (m : Int) / 2 ^ k = ((m / 2 ^ k : Nat) : Int) := by simp
  have h : m / 2 ^ k ≤ m := Nat.div_le_self _ _
  rw [e]
  generalize m / 2 ^ k = q at h ⊢
  rw [and_one_u64 _ (by omega) (by omega)]
  omega
theorem length_stepL (pl k : Nat) (x s : List UInt8) : (stepL pl k x s).length = 32 := by unfold stepL; split <;> exact length_sha _

set_option maxHeartbeats 4000000 in
set_option maxRecDepth 100000 in
theorem lead_any (H : Nat) (pl mask : Nat) (x0 key val : List UInt8) (ps : List (List UInt8)) (path : Value) (taken : Bool) (w : World) (hH : RefAt w H) (hE : EmptyAt w H) (hHs : H < w.heap.size)
    (hpl : pl < 18446744073709551616) (hm : mask < 18446744073709551616) (hx : x0.length = 32) (hk : key.length = 32) (hv : val.length = 32) (hp : SumsIs w path ps) (hps : ps.length < 1000000) :
    Calls Tryd.prog 52 #[.pointer (some ⟨H, 0, none⟩), .int .u64 (pl : Int), .agg (x0.map ub).toArray, .agg (proofC mask path taken key val).toArray] w
      fun e w' => ∃ r, r.length = 32 ∧ e = .returned (.tuple #[.agg (r.map ub).toArray, .bool (leadO pl mask 64 0 x0 ps).isSome]) ∧ (∀ t, leadO pl mask 64 0 x0 ps = some t → r = t) ∧ w.grownBy w' none := by
  have HH : Hid (RefAt w H) := hH
  have HE : Hid (EmptyAt w H) := hE
  have HP : Hid (SumsIs w path ps) := hp
  have HPL : Hid (pl < 18446744073709551616) := hpl
  have HM : Hid (mask < 18446744073709551616) := hm
  have HKV : Hid (key.length = 32 ∧ val.length = 32) := ⟨hk, hv⟩
  obtain ⟨_, sp, cap, rfl, hcap, _⟩ := hp
  clear hH hE hpl hm hk hv
  have hPs : (proofC mask (.slice sp ps.length cap) taken key val).length = 67 := by simp [proofC, HKV.out.1, HKV.out.2]
  have hP0 : (proofC mask (.slice sp ps.length cap) taken key val)[0]? = some (.int .u64 (mask : Int)) := rfl
  have hP1 : (proofC mask (.slice sp ps.length cap) taken key val)[1]? = some (.slice sp ps.length cap) := rfl
  generalize proofC mask (.slice sp ps.length cap) taken key val = C at hPs hP0 hP1 ⊢
  obtain ⟨HI, HO, HN⟩ := sum25 x0 hx
  go_enter Tryd.func52, Tryd.ntmps52
  go_wp2
  have hG0 := gr_trans (gr_trans (gr_alloc w (Obj.cells (x0.map ub).toArray 25)) (gr_alloc _ (Obj.cells C.toArray 76))) (gr_alloc _ (Obj.cells (brow 32 []).toArray 25))
  have hs1 : ((w.alloc (Obj.cells (x0.map ub).toArray 25)).alloc (Obj.cells C.toArray 76)).heap.size = w.heap.size + 1 + 1 := by simp
  have hX0 : (((w.alloc (Obj.cells (x0.map ub).toArray 25)).alloc (Obj.cells C.toArray 76)).alloc (Obj.cells (brow 32 []).toArray 25)).heap[w.heap.size]? = some (.cells (x0.map ub).toArray 25 (0, 0)) := ((gr_alloc _ _).block _ (by simp; omega) (by simp)).trans (heap_alloc2_old _ _ _)
  have hC0 : (((w.alloc (Obj.cells (x0.map ub).toArray 25)).alloc (Obj.cells C.toArray 76)).alloc (Obj.cells (brow 32 []).toArray 25)).heap[w.heap.size + 1]? = some (.cells C.toArray 76 (0, 0)) := ((gr_alloc _ _).block _ (by simp) (by simp)).trans (heap_alloc2_new _ _ _)
  have hB0 : (((w.alloc (Obj.cells (x0.map ub).toArray 25)).alloc (Obj.cells C.toArray 76)).alloc (Obj.cells (brow 32 []).toArray 25)).heap[w.heap.size + 1 + 1]? = some (.cells (brow 32 []).toArray 25 (0, 0)) := by rw [← hs1]; exact heap_alloc_new _ _
  change Code.wp _ _ _ _ (((w.alloc (Obj.cells (x0.map ub).toArray 25)).alloc (Obj.cells C.toArray 76)).alloc (Obj.cells (brow 32 []).toArray 25))
  clear hs1
  generalize ((w.alloc (Obj.cells (x0.map ub).toArray 25)).alloc (Obj.cells C.toArray 76)).alloc (Obj.cells (brow 32 []).toArray 25) = W0 at hG0 hX0 hC0 hB0 ⊢
  go_loopw [10, 11] (fun a b wr => ∃ (n k : Nat) (x : List UInt8), k ≤ 64 ∧ n ≤ ps.length ∧ a = .int .i64 (n : Int) ∧ b = .int .i64 (k : Int) ∧ x.length = 32 ∧ Hid (leadO pl mask (64 - k) k x (ps.drop n) = leadO pl mask 64 0 x0 ps) ∧
      wr.heap[w.heap.size]? = some (.cells (x.map ub).toArray 25 (0, 0)) ∧ wr.heap[w.heap.size + 1]? = some (.cells C.toArray 76 (0, 0)) ∧ wr.heap[w.heap.size + 1 + 1]? = some (.cells (brow 32 []).toArray 25 (0, 0)) ∧ w.grownBy wr none)
    (fun _ b _ => 64 - (intOf b).toNat)
  case atStart => exact ⟨0, 0, x0, by omega, by omega, rfl, rfl, hx, by show _ = _; simp, hX0, hC0, hB0, hG0⟩
  case round =>
    clear hX0 hC0 hB0 hG0 HI HO HN hx
    obtain ⟨n, k, x, hk, hn, rfl, rfl, hx, HL, hX, hC, hB, hG⟩ := hrel
    by_cases hlt : k < 64
    · have d0 : (k : Int) < 64 := by omega
      have d65 : (k : Int) < 65 := by omega
      obtain ⟨T, ge, capE, hHc, hge, hcE, hEr⟩ := (HE.out.gr hG)
      have cE : wr.cell? ⟨H, 1, none⟩ = some (.slice (some ⟨ge, 0, none⟩) 65 capE) := by rw [cell_of_row wr _ _ _ _ _ hHc]; rfl
      have hEk := hEr k (by omega)
      have HEK : Hid (wr.rangeAt ge (k * 32) ((er k).map ub)) := hEk
      have hel := length_er k
      obtain ⟨HIe, HOe, HNe⟩ := sum25 (er k) hel
      have HIe' : Hid ((Tryd.prog.info? 25).map (·.size) = some ((er k).map ub).length) := by show _ = _; rw [HIe.out]; simp
      obtain ⟨HIx, HOx, HNx⟩ := sum25 x hx
      clear hEr hEk hHc
      have HF : Hid (∀ V : World, wr.grownBy V none → V.cell? ⟨w.heap.size + 1, 0, none⟩ = some (.int .u64 (mask : Int)) ∧ V.cell? ⟨w.heap.size + 1, 1, none⟩ = some (.slice sp ps.length cap) ∧ V.heap[w.heap.size]? = some (.cells (x.map ub).toArray 25 (0, 0)) ∧ V.heap[w.heap.size + 1]? = some (.cells C.toArray 76 (0, 0)) ∧ V.heap[w.heap.size + 1 + 1]? = some (.cells (brow 32 []).toArray 25 (0, 0)) ∧ w.grownBy V none) := fun V hV => by
        have hC1 := (hV.block _ (Array.getElem?_eq_some_iff.1 hC).1 (by simp)).trans hC
        refine ⟨?_, ?_, (hV.block _ (Array.getElem?_eq_some_iff.1 hX).1 (by simp)).trans hX, hC1, (hV.block _ (Array.getElem?_eq_some_iff.1 hB).1 (by simp)).trans hB, gr_trans hG hV⟩
        · rw [cell_of_row V _ _ _ _ _ hC1]; simpa using hP0
        · rw [cell_of_row V _ _ _ _ _ hC1]; simpa using hP1
      clear hX hC hB hG hP0 hP1
      have eM := bit_eq mask k HM.out
      have eP := bit_eq pl k HPL.out
      have hbM : mask / 2 ^ k % 2 < 2 := Nat.mod_lt _ (by omega)
      have hbP : pl / 2 ^ k % 2 < 2 := Nat.mod_lt _ (by omega)
      by_cases hbm : mask / 2 ^ k % 2 = 1
      · rw [hbm] at eM
        by_cases hnl : n = ps.length
        · have dn : ((n : Int) == (ps.length : Int)) = true := by simp; omega
          have HNO : Hid (leadO pl mask 64 0 x0 ps = none) := by
            show _ = _
            rw [← HL.out, show 64 - k = (64 - (k + 1)) + 1 by omega, hnl, List.drop_length, leadO_out pl mask _ k x hbm]
          clear HL eP
          go_wp2_with (first | (refine wpList_load_mid rfl 25 _ rfl ge (k * 32) rfl ((er k).map ub) _ HEK.out Tryd.underlying25 rfl HIe'.out ?_) | (refine wpList_load_row rfl 25 _ rfl w.heap.size rfl 25 _ (0, 0) _ hX1 Tryd.underlying25 rfl HIx.out ?_) | (refine wpList_store_row rfl 25 _ _ rfl (w.heap.size + 1 + 1) (x.map ub).toArray rfl rfl 25 _ hB1 HIx.out HOx.out HNx.out ?_) | (refine store_new rfl 25 _ _ rfl ((er k).map ub).toArray _ _ rfl rfl HIe.out HOe.out HNe.out ?_; intro W1 hW1 hs1 hG1; clear hs1; obtain ⟨c0, c1, hX1, hC1, hB1, hG01⟩ := HF.out W1 hG1))
          exact bodyPost_ret (results_ct Tryd.results52 _ _ (w.heap.size + 1 + 1) 25 _ (0, 0) _ _ rfl rfl (setRow_heap _ _ _ _ 25 _ hB1) Tryd.underlying25 rfl HIx.out) rfl ⟨x, hx, by rw [HNO.out]; rfl, by rw [HNO.out]; simp, gr_row hG01 _ _ (by omega)⟩
        · have dn : ((n : Int) == (ps.length : Int)) = false := by simp; omega
          have dn2 : (n : Int) < (ps.length : Int) := by omega
          obtain ⟨h32, sp', cap', e', hc', hq⟩ := HP.out
          obtain ⟨rfl, rfl⟩ : sp = sp' ∧ cap = cap' := by cases e'; exact ⟨rfl, rfl⟩
          obtain ⟨gp, op, rfl, hgp, hrows⟩ := hq (by omega)
          obtain ⟨t, ht⟩ : ∃ t, ps[n]? = some t := ⟨ps[n], List.getElem?_eq_getElem (by omega)⟩
          have htl : t.length = 32 := h32 t (List.mem_of_getElem? ht)
          have hdrop : ps.drop n = t :: ps.drop (n + 1) := by
            rw [List.drop_eq_getElem_cons (by omega)]
            have := List.getElem?_eq_getElem (l := ps) (i := n) (by omega)
            rw [ht] at this
            rw [Option.some.inj this]
          have HPTV : Hid (∀ V : World, w.grownBy V none → V.rangeAt gp (op + n * 32) (t.map ub)) := fun V hV j u hj => (gr_cell hV (p := ⟨gp, op + n * 32 + j, none⟩) hgp).trans (hrows n t ht j u hj)
          obtain ⟨HIt, _, HNt⟩ := sum25 t htl
          have HIt' : Hid ((Tryd.prog.info? 25).map (·.size) = some (t.map ub).length) := by show _ = _; rw [HIt.out]; simp
          have HOt' : Hid (((er k).map ub).toArray.size = (t.map ub).toArray.size) := by show _ = _; simp [hel, htl]
          clear e' hc' hq hrows h32
          by_cases hbp : pl / 2 ^ k % 2 = 1
          · rw [hbp] at eP
            go_wp2_with (first | (refine wpList_load_mid rfl 25 _ rfl ge (k * 32) rfl ((er k).map ub) _ HEK.out Tryd.underlying25 rfl HIe'.out ?_) | (refine wpList_load_mid rfl 25 _ rfl gp (op + n * 32) rfl (t.map ub) _ HPT.out Tryd.underlying25 rfl HIt'.out ?_) | (refine wpList_load_row rfl 25 _ rfl wr.heap.size rfl 25 _ (0, 0) _ hW2 Tryd.underlying25 rfl HIt.out ?_) | (refine wpList_load_row rfl 25 _ rfl w.heap.size rfl 25 _ (0, 0) _ hX2 Tryd.underlying25 rfl HIx.out ?_) | (refine wpList_store_row rfl 25 _ _ rfl wr.heap.size (t.map ub).toArray rfl rfl 25 _ hW1 HIt.out HOt'.out HNt.out ?_; have hW2 := setRow_heap W1 wr.heap.size _ (t.map ub).toArray 25 _ hW1; have hG2 := gr_row hG1 wr.heap.size (t.map ub).toArray (Nat.le_refl _); obtain ⟨_, _, hX2, hC2, hB2, hG02⟩ := HF.out _ hG2) | (refine store_new rfl 25 _ _ rfl ((er k).map ub).toArray _ _ rfl rfl HIe.out HOe.out HNe.out ?_; intro W1 hW1 hs1 hG1; clear hs1; obtain ⟨c0, c1, hX1, hC1, hB1, hG01⟩ := HF.out W1 hG1; have HPT : Hid (W1.rangeAt gp (op + n * 32) (t.map ub)) := HPTV.out W1 hG01))
            have hXW := hX2
            have hCW := hC2
            have hBW := hB2
            have hGW := hG02
            clear c0 c1 hX1 hC1 hB1 hG01 hW1 hG1 hX2 hC2 hB2 hG02 hW2 hG2
            refine (node_any H 3 t x htl hx _ (RefAt.gr HH.out hHs hGW) (by have := hGW.size; omega)).mono ?_
            rintro e w4 ⟨rfl, hG4⟩
            have hyl := length_sha (nodeL 3 t x)
            have HST : Hid (stepL pl k x t = sha (nodeL 3 t x)) := by show _ = _; unfold stepL; rw [if_pos hbp]
            have HL2 : Hid (leadO pl mask (64 - (k + 1)) (k + 1) (sha (nodeL 3 t x)) (ps.drop (n + 1)) = leadO pl mask 64 0 x0 ps) := by
              show _ = _
              rw [← HL.out, ← HST.out, show 64 - k = (64 - (k + 1)) + 1 by omega]
              rw [hdrop, leadO_take pl mask _ k x _ _ hbm]
            generalize sha (nodeL 3 t x) = y at hyl HL2 ⊢
            clear HST
            obtain ⟨HIy, _, HNy⟩ := sum25 y hyl
            have hX4 := (hG4.block _ (Array.getElem?_eq_some_iff.1 hXW).1 (by simp)).trans hXW
            have hC4 := (hG4.block _ (Array.getElem?_eq_some_iff.1 hCW).1 (by simp)).trans hCW
            have hB4 := (hG4.block _ (Array.getElem?_eq_some_iff.1 hBW).1 (by simp)).trans hBW
            have hG04 := gr_trans hGW hG4
            have HOy' : Hid ((x.map ub).toArray.size = (y.map ub).toArray.size) := by show _ = _; simp [hx, hyl]
            clear hXW hCW hBW hGW hG4 HF HEK eM eP HL
            go_wp2_with (refine wpList_store_row rfl 25 _ _ rfl w.heap.size (y.map ub).toArray rfl rfl 25 _ hX4 HIy.out HOy'.out HNy.out ?_)
            exact ⟨⟨n + 1, k + 1, y, by omega, by omega, by go_num, by go_num, hyl, HL2, setRow_heap _ _ _ _ 25 _ hX4, (setRow_other _ _ _ _ (by omega)).trans hC4, (setRow_other _ _ _ _ (by omega)).trans hB4, gr_row hG04 _ _ (Nat.le_refl _)⟩, by simp [intOf]; omega⟩
          · have hP0 : pl / 2 ^ k % 2 = 0 := by omega
            rw [hP0] at eP
            go_wp2_with (first | (refine wpList_load_mid rfl 25 _ rfl ge (k * 32) rfl ((er k).map ub) _ HEK.out Tryd.underlying25 rfl HIe'.out ?_) | (refine wpList_load_mid rfl 25 _ rfl gp (op + n * 32) rfl (t.map ub) _ HPT.out Tryd.underlying25 rfl HIt'.out ?_) | (refine wpList_load_row rfl 25 _ rfl wr.heap.size rfl 25 _ (0, 0) _ hW2 Tryd.underlying25 rfl HIt.out ?_) | (refine wpList_load_row rfl 25 _ rfl w.heap.size rfl 25 _ (0, 0) _ hX2 Tryd.underlying25 rfl HIx.out ?_) | (refine wpList_store_row rfl 25 _ _ rfl wr.heap.size (t.map ub).toArray rfl rfl 25 _ hW1 HIt.out HOt'.out HNt.out ?_; have hW2 := setRow_heap W1 wr.heap.size _ (t.map ub).toArray 25 _ hW1; have hG2 := gr_row hG1 wr.heap.size (t.map ub).toArray (Nat.le_refl _); obtain ⟨_, _, hX2, hC2, hB2, hG02⟩ := HF.out _ hG2) | (refine store_new rfl 25 _ _ rfl ((er k).map ub).toArray _ _ rfl rfl HIe.out HOe.out HNe.out ?_; intro W1 hW1 hs1 hG1; clear hs1; obtain ⟨c0, c1, hX1, hC1, hB1, hG01⟩ := HF.out W1 hG1; have HPT : Hid (W1.rangeAt gp (op + n * 32) (t.map ub)) := HPTV.out W1 hG01))
            have hXW := hX2
            have hCW := hC2
            have hBW := hB2
            have hGW := hG02
            clear c0 c1 hX1 hC1 hB1 hG01 hW1 hG1 hX2 hC2 hB2 hG02 hW2 hG2
            refine (node_any H 3 x t hx htl _ (RefAt.gr HH.out hHs hGW) (by have := hGW.size; omega)).mono ?_
            rintro e w4 ⟨rfl, hG4⟩
            have hyl := length_sha (nodeL 3 x t)
            have HST : Hid (stepL pl k x t = sha (nodeL 3 x t)) := by show _ = _; unfold stepL; rw [if_neg hbp]
            have HL2 : Hid (leadO pl mask (64 - (k + 1)) (k + 1) (sha (nodeL 3 x t)) (ps.drop (n + 1)) = leadO pl mask 64 0 x0 ps) := by
              show _ = _
              rw [← HL.out, ← HST.out, show 64 - k = (64 - (k + 1)) + 1 by omega]
              rw [hdrop, leadO_take pl mask _ k x _ _ hbm]
            generalize sha (nodeL 3 x t) = y at hyl HL2 ⊢
            clear HST
            obtain ⟨HIy, _, HNy⟩ := sum25 y hyl
            have hX4 := (hG4.block _ (Array.getElem?_eq_some_iff.1 hXW).1 (by simp)).trans hXW
            have hC4 := (hG4.block _ (Array.getElem?_eq_some_iff.1 hCW).1 (by simp)).trans hCW
            have hB4 := (hG4.block _ (Array.getElem?_eq_some_iff.1 hBW).1 (by simp)).trans hBW
            have hG04 := gr_trans hGW hG4
            have HOy' : Hid ((x.map ub).toArray.size = (y.map ub).toArray.size) := by show _ = _; simp [hx, hyl]
            clear hXW hCW hBW hGW hG4 HF HEK eM eP HL
            go_wp2_with (refine wpList_store_row rfl 25 _ _ rfl w.heap.size (y.map ub).toArray rfl rfl 25 _ hX4 HIy.out HOy'.out HNy.out ?_)
            exact ⟨⟨n + 1, k + 1, y, by omega, by omega, by go_num, by go_num, hyl, HL2, setRow_heap _ _ _ _ 25 _ hX4, (setRow_other _ _ _ _ (by omega)).trans hC4, (setRow_other _ _ _ _ (by omega)).trans hB4, gr_row hG04 _ _ (Nat.le_refl _)⟩, by simp [intOf]; omega⟩
      · have hM0 : mask / 2 ^ k % 2 = 0 := by omega
        rw [hM0] at eM
        by_cases hbp : pl / 2 ^ k % 2 = 1
        · rw [hbp] at eP
          go_wp2_with (first | (refine wpList_load_mid rfl 25 _ rfl ge (k * 32) rfl ((er k).map ub) _ HEK.out Tryd.underlying25 rfl HIe'.out ?_) | (refine wpList_load_row rfl 25 _ rfl wr.heap.size rfl 25 _ (0, 0) _ hW1 Tryd.underlying25 rfl HIe.out ?_) | (refine wpList_load_row rfl 25 _ rfl w.heap.size rfl 25 _ (0, 0) _ hX1 Tryd.underlying25 rfl HIx.out ?_) | (refine store_new rfl 25 _ _ rfl ((er k).map ub).toArray _ _ rfl rfl HIe.out HOe.out HNe.out ?_; intro W1 hW1 hs1 hG1; clear hs1; obtain ⟨c0, c1, hX1, hC1, hB1, hG01⟩ := HF.out W1 hG1))
          have hXW := hX1
          have hCW := hC1
          have hBW := hB1
          have hGW := hG01
          clear c0 c1 hX1 hC1 hB1 hG01 hW1 hG1
          refine (node_any H 3 (er k) x hel hx W1 (RefAt.gr HH.out hHs hGW) (by have := hGW.size; omega)).mono ?_
          rintro e w4 ⟨rfl, hG4⟩
          have hyl := length_sha (nodeL 3 (er k) x)
          have HST : Hid (stepL pl k x (er k) = sha (nodeL 3 (er k) x)) := by show _ = _; unfold stepL; rw [if_pos hbp]
          have HL2 : Hid (leadO pl mask (64 - (k + 1)) (k + 1) (sha (nodeL 3 (er k) x)) (ps.drop (n)) = leadO pl mask 64 0 x0 ps) := by
            show _ = _
            rw [← HL.out, ← HST.out, show 64 - k = (64 - (k + 1)) + 1 by omega]
            rw [leadO_skip pl mask _ k x _ hbm]
          generalize sha (nodeL 3 (er k) x) = y at hyl HL2 ⊢
          clear HST
          obtain ⟨HIy, _, HNy⟩ := sum25 y hyl
          have hX4 := (hG4.block _ (Array.getElem?_eq_some_iff.1 hXW).1 (by simp)).trans hXW
          have hC4 := (hG4.block _ (Array.getElem?_eq_some_iff.1 hCW).1 (by simp)).trans hCW
          have hB4 := (hG4.block _ (Array.getElem?_eq_some_iff.1 hBW).1 (by simp)).trans hBW
          have hG04 := gr_trans hGW hG4
          have HOy' : Hid ((x.map ub).toArray.size = (y.map ub).toArray.size) := by show _ = _; simp [hx, hyl]
          clear hXW hCW hBW hGW hG4 HF HEK eM eP HL
          go_wp2_with (refine wpList_store_row rfl 25 _ _ rfl w.heap.size (y.map ub).toArray rfl rfl 25 _ hX4 HIy.out HOy'.out HNy.out ?_)
          exact ⟨⟨n, k + 1, y, by omega, by omega, by go_num, by go_num, hyl, HL2, setRow_heap _ _ _ _ 25 _ hX4, (setRow_other _ _ _ _ (by omega)).trans hC4, (setRow_other _ _ _ _ (by omega)).trans hB4, gr_row hG04 _ _ (Nat.le_refl _)⟩, by simp [intOf]; omega⟩
        · have hP0 : pl / 2 ^ k % 2 = 0 := by omega
          rw [hP0] at eP
          go_wp2_with (first | (refine wpList_load_mid rfl 25 _ rfl ge (k * 32) rfl ((er k).map ub) _ HEK.out Tryd.underlying25 rfl HIe'.out ?_) | (refine wpList_load_row rfl 25 _ rfl wr.heap.size rfl 25 _ (0, 0) _ hW1 Tryd.underlying25 rfl HIe.out ?_) | (refine wpList_load_row rfl 25 _ rfl w.heap.size rfl 25 _ (0, 0) _ hX1 Tryd.underlying25 rfl HIx.out ?_) | (refine store_new rfl 25 _ _ rfl ((er k).map ub).toArray _ _ rfl rfl HIe.out HOe.out HNe.out ?_; intro W1 hW1 hs1 hG1; clear hs1; obtain ⟨c0, c1, hX1, hC1, hB1, hG01⟩ := HF.out W1 hG1))
          have hXW := hX1
          have hCW := hC1
          have hBW := hB1
          have hGW := hG01
          clear c0 c1 hX1 hC1 hB1 hG01 hW1 hG1
          refine (node_any H 3 x (er k) hx hel W1 (RefAt.gr HH.out hHs hGW) (by have := hGW.size; omega)).mono ?_
          rintro e w4 ⟨rfl, hG4⟩
          have hyl := length_sha (nodeL 3 x (er k))
          have HST : Hid (stepL pl k x (er k) = sha (nodeL 3 x (er k))) := by show _ = _; unfold stepL; rw [if_neg hbp]
          have HL2 : Hid (leadO pl mask (64 - (k + 1)) (k + 1) (sha (nodeL 3 x (er k))) (ps.drop (n)) = leadO pl mask 64 0 x0 ps) := by
            show _ = _
            rw [← HL.out, ← HST.out, show 64 - k = (64 - (k + 1)) + 1 by omega]
            rw [leadO_skip pl mask _ k x _ hbm]
          generalize sha (nodeL 3 x (er k)) = y at hyl HL2 ⊢
          clear HST
          obtain ⟨HIy, _, HNy⟩ := sum25 y hyl
          have hX4 := (hG4.block _ (Array.getElem?_eq_some_iff.1 hXW).1 (by simp)).trans hXW
          have hC4 := (hG4.block _ (Array.getElem?_eq_some_iff.1 hCW).1 (by simp)).trans hCW
          have hB4 := (hG4.block _ (Array.getElem?_eq_some_iff.1 hBW).1 (by simp)).trans hBW
          have hG04 := gr_trans hGW hG4
          have HOy' : Hid ((x.map ub).toArray.size = (y.map ub).toArray.size) := by show _ = _; simp [hx, hyl]
          clear hXW hCW hBW hGW hG4 HF HEK eM eP HL
          go_wp2_with (refine wpList_store_row rfl 25 _ _ rfl w.heap.size (y.map ub).toArray rfl rfl 25 _ hX4 HIy.out HOy'.out HNy.out ?_)
          exact ⟨⟨n, k + 1, y, by omega, by omega, by go_num, by go_num, hyl, HL2, setRow_heap _ _ _ _ 25 _ hX4, (setRow_other _ _ _ _ (by omega)).trans hC4, (setRow_other _ _ _ _ (by omega)).trans hB4, gr_row hG04 _ _ (Nat.le_refl _)⟩, by simp [intOf]; omega⟩
    · obtain rfl : k = 64 := by omega
      have d0 : decide (((64 : Nat) : Int) < 64) = false := by simp
      have HL3 : Hid (leadO pl mask 64 0 x0 ps = if ps.drop n = [] then some x else none) := by
        show _ = _
        rw [← HL.out]; rfl
      have hdn : (ps.drop n = []) ↔ n = ps.length := by rw [List.drop_eq_nil_iff]; omega
      have HDN : Hid ((ps.drop n = []) ↔ n = ps.length) := hdn
      obtain ⟨HIx, HOx, HNx⟩ := sum25 x hx
      have HIx' : Hid ((Tryd.prog.info? 25).map (·.size) = some (x.map ub).length) := by show _ = _; rw [HIx.out]; simp
      have hC1 : wr.cell? ⟨w.heap.size + 1, 1, none⟩ = some (.slice sp ps.length cap) := by rw [cell_of_row wr _ _ _ _ _ hC]; simpa using hP1
      have hXr : wr.drew.rangeAt w.heap.size 0 (x.map ub) := fun j u hj => by
        rw [Nat.zero_add]
        show wr.cell? _ = _
        rw [cell_of_row wr _ _ _ _ _ hX]; simpa using hj
      have hBd : wr.drew.heap[w.heap.size + 1 + 1]? = some (.cells (brow 32 []).toArray 25 (0, 0)) := hB
      have hXd : wr.drew.heap[w.heap.size]? = some (.cells (x.map ub).toArray 25 (0, 0)) := hX
      have hCd : wr.drew.heap[w.heap.size + 1]? = some (.cells C.toArray 76 (0, 0)) := hC
      clear HL hdn hC hX hB
      go_wp2
      refine wp_region_noPanic ?_
      refine wp_region_T (last := 7) (S := fun w' => w'.rangeAt w.heap.size 0 (x.map ub) ∧ w'.cell? ⟨w.heap.size + 1, 1, none⟩ = some (.slice sp ps.length cap)) (by kernel_rfl) ⟨hXr, hC1⟩ (fun hHeld => ?_)
      refine wpAnyT_take (i := 0) (oi := { dst := some 58, op := Op.load 25 (Operand.tmp 6), type := 25, pos := "tree.go:281", after := #[], guard := none }) (v := .agg (x.map ub).toArray) rfl (by kernel_rfl) (by kernel_rfl) (by kernel_rfl) (fun _ _ _ h => h) (by kernel_rfl) (yieldsIf_load_mid (by rfl) _ _ rfl w.heap.size 0 rfl (x.map ub) _ (fun w' hSw => hSw.1) Tryd.underlying25 rfl HIx'.out) (by assumption) ?_
      simp only [Act.put, List.setIfInBounds_toArray, List.set_cons_zero, List.set_cons_succ]
      refine wpAnyT_take (i := 1) (oi := { dst := some 59, op := Op.move (Operand.tmp 10), type := 3, pos := "tree.go:281", after := #[{ on := 6, ground := Ground.gcOnly Go.Departure.lateStores }], guard := none }) (v := ?_) rfl (by kernel_rfl) (by kernel_rfl) (by kernel_rfl) (fun _ _ _ h => h) (by kernel_rfl) (Or.inl ⟨by rfl, ?_⟩) (by assumption) ?_
      rotate_left
      · intro w' hSw
        try dsimp only at hSw
        go_simp
        try with_reducible rfl
      simp only [Act.put, List.setIfInBounds_toArray, List.set_cons_zero, List.set_cons_succ]
      refine wpAnyT_take (i := 2) (oi := { dst := some 60, op := Op.fieldAddr 76 (Operand.tmp 7) 1, type := 0, pos := "tree.go:281", after := #[], guard := none }) (v := ?_) rfl (by kernel_rfl) (by kernel_rfl) (by kernel_rfl) (fun _ _ _ h => h) (by kernel_rfl) (Or.inl ⟨by rfl, ?_⟩) (by assumption) ?_
      rotate_left
      · intro w' hSw
        try dsimp only at hSw
        go_simp
        try with_reducible rfl
      simp only [Act.put, List.setIfInBounds_toArray, List.set_cons_zero, List.set_cons_succ]
      refine wpAnyT_take (i := 3) (oi := { dst := some 61, op := Op.load 38 (Operand.tmp 60), type := 38, pos := "tree.go:281", after := #[{ on := 2, ground := Ground.data }], guard := none }) (v := ?_) rfl (by kernel_rfl) (by kernel_rfl) (by kernel_rfl) (fun _ _ _ h => h) (by kernel_rfl) (Or.inl ⟨by rfl, ?_⟩) (by assumption) ?_
      rotate_left
      · intro w' hSw
        try dsimp only at hSw
        go_simp
        try with_reducible rfl
      simp only [Act.put, List.setIfInBounds_toArray, List.set_cons_zero, List.set_cons_succ]
      refine wpAnyT_take (i := 4) (oi := { dst := some 62, op := Op.call { callee := Callee.builtin Builtin.len, args := #[Operand.tmp 61], argTypes := #[38] }, type := 3, pos := "tree.go:281", after := #[{ on := 3, ground := Ground.data }], guard := none }) (v := ?_) rfl (by kernel_rfl) (by kernel_rfl) (by kernel_rfl) (fun _ _ _ h => h) (by kernel_rfl) (Or.inl ⟨by rfl, ?_⟩) (by assumption) ?_
      rotate_left
      · intro w' hSw
        try dsimp only at hSw
        go_simp
        try with_reducible rfl
      simp only [Act.put, List.setIfInBounds_toArray, List.set_cons_zero, List.set_cons_succ]
      refine wpAnyT_take (i := 5) (oi := { dst := some 63, op := Op.binOp BinOp.eql 3 (Operand.tmp 59) (Operand.tmp 62) 3, type := 4, pos := "tree.go:281", after := #[{ on := 1, ground := Ground.data }, { on := 4, ground := Ground.data }, { on := 6, ground := Ground.gcOnly Go.Departure.lateStores }], guard := none }) (v := ?_) rfl (by kernel_rfl) (by kernel_rfl) (by kernel_rfl) (fun _ _ _ h => h) (by kernel_rfl) (Or.inl ⟨by rfl, ?_⟩) (by assumption) ?_
      rotate_left
      · intro w' hSw
        try dsimp only at hSw
        go_simp
        try with_reducible rfl
      simp only [Act.put, List.setIfInBounds_toArray, List.set_cons_zero, List.set_cons_succ]
      refine wpAnyT_one (i := 6) (o := { dst := none, op := Op.store 25 (Operand.tmp 8) (Operand.tmp 58), type := 0, pos := "tree.go:281", after := #[{ on := 0, ground := Ground.data }, { on := 0, ground := Ground.phase }, { on := 1, ground := Ground.textOnly Go.Departure.lateStores }, { on := 2, ground := Ground.textOnly Go.Departure.lateStores }, { on := 3, ground := Ground.textOnly Go.Departure.lateStores }, { on := 4, ground := Ground.textOnly Go.Departure.lateStoresUnsure }, { on := 5, ground := Ground.textOnly Go.Departure.lateStores }], guard := none }) rfl (by kernel_rfl) (fun K hK => ?_)
      rw [if_pos (by rfl)]
      refine wp_store_row 25 _ _ rfl (w.heap.size + 1 + 1) (x.map ub).toArray rfl rfl 25 _ hBd HIx.out HOx.out HNx.out ?_
      have hZ2 := setRow_heap wr.drew (w.heap.size + 1 + 1) _ (x.map ub).toArray 25 _ hBd
      have hG3 := gr_row (gr_drew hG) (w.heap.size + 1 + 1) (x.map ub).toArray (by omega)
      refine hK.out _ _ (fun _ => ⟨fun j u hj => ?_, ?_⟩) (fun hHeld4 => ?_)
      · have hb := (setRow_other wr.drew (w.heap.size + 1 + 1) w.heap.size (x.map ub).toArray (by omega)).trans hXd
        rw [Nat.zero_add, cell_of_row _ _ _ _ _ _ hb]; simpa using hj
      · have hb := (setRow_other wr.drew (w.heap.size + 1 + 1) (w.heap.size + 1) (x.map ub).toArray (by omega)).trans hCd
        rw [cell_of_row _ _ _ _ _ _ hb]; simpa using hP1
      clear hK K hHeld hHeld4
      simp only [Act.put]
      refine wpAnyT_one (i := 7) (o := { dst := some 9, op := Op.assign (Operand.tmp 63), type := 4, pos := "tree.go:281", after := #[{ on := 5, ground := Ground.data }, { on := 6, ground := Ground.chain }, { on := 0, ground := Ground.phase }, { on := 1, ground := Ground.phase }, { on := 2, ground := Ground.phase }, { on := 3, ground := Ground.phase }, { on := 4, ground := Ground.phase }, { on := 5, ground := Ground.phase }, { on := 6, ground := Ground.phase }], guard := none }) rfl (by kernel_rfl) (fun K hK => ?_)
      go_simp
      refine hK.out _ _ (fun h => absurd rfl h) (fun _ => ?_)
      clear hK K
      try simp only [Act.put, List.setIfInBounds_toArray, List.set_cons_zero, List.set_cons_succ]
      refine wpAnyT_done (by kernel_rfl) ?_ _
      refine NoPanic.normal ?_
      clear hBd hXd hCd hXr hC1
      generalize wr.drew.setRow _ _ = V at hZ2 hG3 ⊢
      go_wp2
      refine bodyPost_ret (results_ct Tryd.results52 _ _ (w.heap.size + 1 + 1) 25 _ (0, 0) _ _ rfl rfl hZ2 Tryd.underlying25 rfl HIx.out) rfl ⟨x, hx, ?_, ?_, hG3⟩
      · rw [HL3.out]
        by_cases hnl : n = ps.length
        · rw [if_pos (HDN.out.2 hnl)]; simp [hnl]
        · rw [if_neg (fun h => hnl (HDN.out.1 h))]
          have : ((n : Int) == (ps.length : Int)) = false := by simp; omega
          simp [this]
          try omega
      · intro t ht
        rw [HL3.out] at ht
        split at ht
        · exact Option.some.inj ht
        · cases ht
end Go.Proofs.YtplhlhjakapaaaaDoor
