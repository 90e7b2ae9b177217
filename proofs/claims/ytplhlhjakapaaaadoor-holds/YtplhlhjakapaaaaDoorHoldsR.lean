/-
  rootsref's Holds.
-/
import Derived.Test.YtplhlhjakapaaaaDoorLeadR
import Derived.Test.YtplhlhjakapaaaaDoorLeafR
import Derived.Test.YtplhlhjakapaaaaDoorGuard
namespace Go.Proofs.YtplhlhjakapaaaaDoor
open Go Go.RowKit

/-- Whether a proof shows what is told of a key. -/
def holdsB (key value : List UInt8) (present : Bool) (mask : Nat) (ps : List (List UInt8)) (taken : Bool) (pk pv root : List UInt8) : Bool :=
  if present then (if taken then false else leadO (numL ((sha key).take 8)) mask 64 0 (sha (nodeL 2 (sha key) (sha value))) ps == some root)
  else if taken then (if pk = sha key ∨ numL (pk.take 8) ≠ numL ((sha key).take 8) then false else leadO (numL ((sha key).take 8)) mask 64 0 (sha (nodeL 2 pk pv)) ps == some root)
  else leadO (numL ((sha key).take 8)) mask 64 0 (List.replicate 32 0) ps == some root

theorem info76 (C : List Value) (h : C.length = 67) : (Tryd.prog.info? 76).map (·.size) = some C.toArray.size := by
  rw [show C.toArray.size = 67 by simpa using h]; kernel_rfl

set_option maxHeartbeats 4000000 in
set_option maxRecDepth 100000 in
theorem rholds_any (H : Nat) (key value : List UInt8) (present : Bool) (mask : Nat) (ps : List (List UInt8)) (path : Value) (taken : Bool) (pk pv root : List UInt8) (w : World) (hH : RefAt w H) (hE : EmptyAt w H) (hHs : H < w.heap.size)
    (hkl : key.length < 999999999) (hvl : value.length < 999999999) (hm : mask < 18446744073709551616) (hpk : pk.length = 32) (hpv : pv.length = 32) (hr : root.length = 32) (hp : SumsIs w path ps) (hps : ps.length < 1000000) :
    Calls Tryd.prog 54 #[.pointer (some ⟨H, 0, none⟩), .string (mkS key), .bool present, .string (mkS value), .agg (proofC mask path taken pk pv).toArray, .agg (root.map ub).toArray] w
      fun e w' => e = .returned (.bool (holdsB key value present mask ps taken pk pv root)) ∧ w.grownBy w' none := by
  have HH : Hid (RefAt w H) := hH
  have HE : Hid (EmptyAt w H) := hE
  have HP : Hid (SumsIs w path ps) := hp
  have HM : Hid (mask < 18446744073709551616) := hm
  have hPs : (proofC mask path taken pk pv).length = 67 := by simp [proofC, hpk, hpv]
  have hP2 : (proofC mask path taken pk pv)[2]? = some (.bool taken) := rfl
  have hP3 : ∀ j u, (pk.map ub)[j]? = some u → (proofC mask path taken pk pv)[3 + j]? = some u := fun j u hj => by
    rw [proofC, show 3 + j = j + 1 + 1 + 1 by omega, List.getElem?_cons_succ, List.getElem?_cons_succ, List.getElem?_cons_succ, List.getElem?_append_left (List.getElem?_eq_some_iff.1 hj).1]; exact hj
  have hP35 : ∀ j u, (pv.map ub)[j]? = some u → (proofC mask path taken pk pv)[35 + j]? = some u := fun j u hj => by
    rw [proofC, show 35 + j = (32 + j) + 1 + 1 + 1 by omega, List.getElem?_cons_succ, List.getElem?_cons_succ, List.getElem?_cons_succ, List.getElem?_append_right (by simp [hpk]), show 32 + j - (pk.map ub).length = j by simp [hpk]]; exact hj
  have HLEAD : Hid (∀ (V : World) (pl : Nat) (x0 : List UInt8), w.grownBy V none → pl < 18446744073709551616 → x0.length = 32 →
      Calls Tryd.prog 52 #[.pointer (some ⟨H, 0, none⟩), .int .u64 (pl : Int), .agg (x0.map ub).toArray, .agg (proofC mask path taken pk pv).toArray] V
      fun e w' => ∃ r, r.length = 32 ∧ e = .returned (.tuple #[.agg (r.map ub).toArray, .bool (leadO pl mask 64 0 x0 ps).isSome]) ∧ (∀ t, leadO pl mask 64 0 x0 ps = some t → r = t) ∧ V.grownBy w' none) := fun V pl x0 hV hpl hx =>
    lead_any H pl mask x0 pk pv ps path taken V (RefAt.gr HH.out hHs hV) (HE.out.gr hV) (by have := hV.size; omega) hpl HM.out hx hpk hpv (HP.out.gr hV) hps
  generalize proofC mask path taken pk pv = C at hPs hP2 hP3 hP35 HLEAD ⊢
  have HI76 : Hid _ := info76 C hPs
  clear HP HM hp hm hPs hE
  go_enter Tryd.func54, Tryd.ntmps54
  go_wp2_with fail
  have hA := gr_trans (gr_alloc w (Obj.cells C.toArray 76)) (gr_alloc _ (Obj.cells (root.map ub).toArray 25))
  have hC0 : ((w.alloc (Obj.cells C.toArray 76)).alloc (Obj.cells (root.map ub).toArray 25)).heap[w.heap.size]? = some (.cells C.toArray 76 (0, 0)) := heap_alloc2_old _ _ _
  have hR0 : ((w.alloc (Obj.cells C.toArray 76)).alloc (Obj.cells (root.map ub).toArray 25)).heap[w.heap.size + 1]? = some (.cells (root.map ub).toArray 25 (0, 0)) := heap_alloc2_new _ _ _
  generalize (w.alloc (Obj.cells C.toArray 76)).alloc (Obj.cells (root.map ub).toArray 25) = W0 at hA hC0 hR0 ⊢
  have HF : Hid (∀ V : World, W0.grownBy V none → V.cell? ⟨w.heap.size, 2, none⟩ = some (.bool taken) ∧ V.rangeAt w.heap.size 3 (pk.map ub) ∧ V.rangeAt w.heap.size 35 (pv.map ub) ∧ V.heap[w.heap.size]? = some (.cells C.toArray 76 (0, 0)) ∧ V.heap[w.heap.size + 1]? = some (.cells (root.map ub).toArray 25 (0, 0)) ∧ w.grownBy V none) := fun V hV => by
    have hC1 := (hV.block _ (Array.getElem?_eq_some_iff.1 hC0).1 (by simp)).trans hC0
    refine ⟨?_, fun j u hj => ?_, fun j u hj => ?_, hC1, (hV.block _ (Array.getElem?_eq_some_iff.1 hR0).1 (by simp)).trans hR0, gr_trans hA hV⟩
    · rw [cell_of_row V _ _ _ _ _ hC1]; simpa using hP2
    · rw [cell_of_row V _ _ _ _ _ hC1]; simpa using hP3 j u hj
    · rw [cell_of_row V _ _ _ _ _ hC1]; simpa using hP35 j u hj
  clear hC0 hR0 hP2 hP3 hP35
  refine (of_any H key W0 (RefAt.gr HH.out hHs hA) (by have := hA.size; omega) (by omega)).mono ?_
  rintro e w1 ⟨rfl, hG1⟩
  have hsl := length_sha key
  have HB : Hid (∀ s, sha key = s → holdsB key value present mask ps taken pk pv root = (if present then (if taken then false else leadO (numL (s.take 8)) mask 64 0 (sha (nodeL 2 s (sha value))) ps == some root)
      else if taken then (if pk = s ∨ numL (pk.take 8) ≠ numL (s.take 8) then false else leadO (numL (s.take 8)) mask 64 0 (sha (nodeL 2 pk pv)) ps == some root)
      else leadO (numL (s.take 8)) mask 64 0 (List.replicate 32 0) ps == some root)) := fun s h => by subst h; rfl
  have HKS : Hid (∀ s, sha key = s → ∀ V : World, w.grownBy V none → Calls Tryd.prog 73 #[.pointer (some ⟨H, 0, none⟩), .agg #[.int .u64 0, .string (mkS key), .string (mkS value)]] V fun e w' => e = .returned (.agg ((sha (nodeL 2 s (sha value))).map ub).toArray) ∧ V.grownBy w' none) := fun s h V hV => by
    subst h; exact rleaf_any H key value 0 V (RefAt.gr HH.out hHs hV) (by have := hV.size; omega) hkl hvl
  generalize es : sha key = s at hsl ⊢
  have HB2 := HB.out s es
  have HKS2 := HKS.out s es
  have HBB : Hid _ := HB2
  have HKK : Hid _ := HKS2
  clear HB HKS HB2 HKS2 es
  obtain ⟨HIs, HOs, HNs⟩ := sum25 s hsl
  have hplb : numL (s.take 8) < 18446744073709551616 := by
    have h1 := numL_lt (s.take 8)
    rw [List.length_take, hsl] at h1
    simpa using h1
  go_wp2_with (first | (refine wpList_load_row rfl 25 _ rfl w1.heap.size rfl 25 _ (0, 0) _ hW2 Tryd.underlying25 rfl HIs.out ?_) | (refine store_new rfl 25 _ _ rfl (s.map ub).toArray _ _ rfl rfl HIs.out HOs.out HNs.out ?_; intro W2 hW2 hs2 hG2; clear hs2))
  refine (rplace_any s hsl W2).mono ?_
  rintro e w3 ⟨rfl, hG3⟩
  have hS3 := (hG3.block _ (Array.getElem?_eq_some_iff.1 hW2).1 (by simp)).trans hW2
  have hG03 := gr_trans hG1 (gr_trans hG2 hG3)
  clear hG1 hG2 hG3 hW2
  generalize eN : numL (s.take 8) = N at hplb HBB ⊢
  have HPLB : Hid (N < 18446744073709551616) := hplb
  clear hplb
  obtain ⟨HIz, HOz, HNz⟩ := sum25 (List.replicate 32 0) rfl
  cases present with
  | true =>
    cases taken with
    | true =>
      go_wp2_with (first | (refine store_new rfl 25 _ _ rfl ((List.replicate 32 (0 : UInt8)).map ub).toArray _ _ rfl rfl HIz.out HOz.out HNz.out ?_; intro W4 hW4 hs4 hG4; clear hs4; obtain ⟨f1, f2, f3, f4, f5, f6⟩ := HF.out W4 (gr_trans hG03 hG4); have hS4 := (hG4.block _ (Array.getElem?_eq_some_iff.1 hS3).1 (by simp)).trans hS3))
      go_ret
      exact ⟨by rw [HBB.out]; rfl, f6⟩
    | false =>
      go_wp2_with (first | (refine store_new rfl 25 _ _ rfl ((List.replicate 32 (0 : UInt8)).map ub).toArray _ _ rfl rfl HIz.out HOz.out HNz.out ?_; intro W4 hW4 hs4 hG4; clear hs4; obtain ⟨f1, f2, f3, f4, f5, f6⟩ := HF.out W4 (gr_trans hG03 hG4); have hS4 := (hG4.block _ (Array.getElem?_eq_some_iff.1 hS3).1 (by simp)).trans hS3))
      refine (HKK.out W4 f6).mono ?_
      rintro e w5 ⟨rfl, hG5⟩
      have hyl := length_sha (nodeL 2 s (sha value))
      generalize ey : sha (nodeL 2 s (sha value)) = y at hyl ⊢
      obtain ⟨HIy, _, HNy⟩ := sum25 y hyl
      have hZ5 := (hG5.block _ (Array.getElem?_eq_some_iff.1 hW4).1 (by simp)).trans hW4
      have HOy' : Hid (((List.replicate 32 (0 : UInt8)).map ub).toArray.size = (y.map ub).toArray.size) := by show _ = _; simp [hyl]
      have hZ6 := setRow_heap w5 w3.heap.size _ (y.map ub).toArray 25 _ hZ5
      have hG6 := gr_row (gr_trans hG4 hG5) w3.heap.size (y.map ub).toArray (Nat.le_refl _)
      obtain ⟨_, _, _, e4, e5, e6⟩ := HF.out _ (gr_trans hG03 hG6)
      clear f1 f2 f3 f4 f5
      go_wp2_with (first | (refine wpList_load_row rfl 25 _ rfl w3.heap.size rfl 25 _ (0, 0) _ hZ6 Tryd.underlying25 rfl HIy.out ?_) | (refine wpList_load_row rfl 76 _ rfl w.heap.size rfl 76 _ (0, 0) _ e4 Tryd.underlying76 rfl HI76.out ?_) | (refine wpList_store_row rfl 25 _ _ rfl w3.heap.size (y.map ub).toArray rfl rfl 25 _ hZ5 HIy.out HOy'.out HNy.out ?_))
      refine (HLEAD.out _ N y e6 HPLB.out hyl).mono ?_
      rintro e w7 ⟨r, hrl, rfl, hrt, hG7⟩
      have hR7 := (hG7.block _ (Array.getElem?_eq_some_iff.1 e5).1 (by simp)).trans e5
      have hG07 := gr_trans e6 hG7
      have HRES : Hid (holdsB key value true mask ps false pk pv root = (leadO N mask 64 0 y ps == some root)) := by
        show _ = _
        rw [HBB.out]
        rw [ey]; rfl
      clear HBB HKK HF HLEAD hG7
      obtain ⟨HIr, HOr, HNr⟩ := sum25 r hrl
      obtain ⟨HIq, _, _⟩ := sum25 root hr
      generalize leadO N mask 64 0 y ps = L at hrt HRES ⊢
      cases L with
      | none =>
        go_wp2_with (first | (refine store_new rfl 25 _ _ rfl (r.map ub).toArray _ _ rfl rfl HIr.out HOr.out HNr.out ?_; intro W8 hW8 hs8 hG8; clear hs8))
        go_ret
        exact ⟨by rw [HRES.out]; rfl, gr_trans hG07 hG8⟩
      | some t =>
        obtain rfl := hrt t rfl
        go_wp2_with (first | (refine wpList_load_g rfl 25 _ rfl w7.heap.size rfl 25 _ (0, 0) _ hW8 Tryd.underlying25 rfl HIr.out ?_) | (refine wpList_load_g rfl 25 _ rfl (w.heap.size + 1) rfl 25 _ (0, 0) _ hR8 Tryd.underlying25 rfl HIq.out ?_) | (refine wpList_eq25 rfl _ _ _ rfl r root _ _ rfl rfl hrl hr rfl rfl ?_) | (refine store_new rfl 25 _ _ rfl (r.map ub).toArray _ _ rfl rfl HIr.out HOr.out HNr.out ?_; intro W8 hW8 hs8 hG8; clear hs8; have hR8 := (hG8.block _ (Array.getElem?_eq_some_iff.1 hR7).1 (by simp)).trans hR7))
        go_ret
        exact ⟨by rw [HRES.out]; simp [Option.some_beq_some], gr_trans hG07 hG8⟩
  | false =>
    cases taken with
    | true =>
      obtain ⟨HIk, _, _⟩ := sum25 pk hpk
      obtain ⟨HIv, _, _⟩ := sum25 pv hpv
      have HIk' : Hid ((Tryd.prog.info? 25).map (·.size) = some (pk.map ub).length) := by show _ = _; rw [HIk.out]; simp
      have HIv' : Hid ((Tryd.prog.info? 25).map (·.size) = some (pv.map ub).length) := by show _ = _; rw [HIv.out]; simp
      go_wp2_with (first | (refine wpList_load_mid rfl 25 _ rfl w.heap.size 3 rfl (pk.map ub) _ f2 Tryd.underlying25 rfl HIk'.out ?_) | (refine store_new rfl 25 _ _ rfl ((List.replicate 32 (0 : UInt8)).map ub).toArray _ _ rfl rfl HIz.out HOz.out HNz.out ?_; intro W4 hW4 hs4 hG4; clear hs4; obtain ⟨f1, f2, f3, f4, f5, f6⟩ := HF.out W4 (gr_trans hG03 hG4); have hS4 := (hG4.block _ (Array.getElem?_eq_some_iff.1 hS3).1 (by simp)).trans hS3))
      refine (rplace_any pk hpk W4).mono ?_
      rintro e w5 ⟨rfl, hG5⟩
      have hG45 := gr_trans hG4 hG5
      have hG05 := gr_trans hG03 hG45
      obtain ⟨a1, a2, a3, a4, a5, a6⟩ := HF.out w5 hG05
      have hS5 := (hG5.block _ (Array.getElem?_eq_some_iff.1 hS4).1 (by simp)).trans hS4
      have hZ5 := (hG5.block _ (Array.getElem?_eq_some_iff.1 hW4).1 (by simp)).trans hW4
      clear f1 f2 f3 f4 f5 f6 hS4 hW4 hG4 hG5 hS3
      generalize eQ : numL (pk.take 8) = Q at HBB ⊢
      by_cases hks : pk = s
      · have hkb : (pk == s) = true := by simpa using hks
        go_wp2_with (first | (refine wpList_load_mid rfl 25 _ rfl w.heap.size 3 rfl (pk.map ub) _ a2 Tryd.underlying25 rfl HIk'.out ?_) | (refine wpList_load_row rfl 25 _ rfl w1.heap.size rfl 25 _ (0, 0) _ hS5 Tryd.underlying25 rfl HIs.out ?_) | (refine wpList_eq25 rfl _ _ _ rfl pk s _ _ rfl rfl hpk hsl rfl rfl ?_))
        go_ret
        exact ⟨by rw [HBB.out]; simp [hks], a6⟩
      · have hkb : (pk == s) = false := by simpa using hks
        by_cases hqn : Q = N
        · have dq : ((Q : Int) == (N : Int)) = true := by simp; omega
          go_wp2_with (first | (refine wpList_load_mid rfl 25 _ rfl w.heap.size 35 rfl (pv.map ub) _ a3 Tryd.underlying25 rfl HIv'.out ?_) | (refine wpList_load_mid rfl 25 _ rfl w.heap.size 3 rfl (pk.map ub) _ a2 Tryd.underlying25 rfl HIk'.out ?_) | (refine wpList_load_row rfl 25 _ rfl w1.heap.size rfl 25 _ (0, 0) _ hS5 Tryd.underlying25 rfl HIs.out ?_) | (refine wpList_eq25 rfl _ _ _ rfl pk s _ _ rfl rfl hpk hsl rfl rfl ?_))
          refine (node_any H 2 pk pv hpk hpv w5 (RefAt.gr HH.out hHs a6) (by have := a6.size; omega)).mono ?_
          rintro e w6 ⟨rfl, hG6⟩
          have hyl := length_sha (nodeL 2 pk pv)
          generalize ey : sha (nodeL 2 pk pv) = y at hyl ⊢
          obtain ⟨HIy, _, HNy⟩ := sum25 y hyl
          have hZ6 := (hG6.block _ (Array.getElem?_eq_some_iff.1 hZ5).1 (by simp)).trans hZ5
          have HOy' : Hid (((List.replicate 32 (0 : UInt8)).map ub).toArray.size = (y.map ub).toArray.size) := by show _ = _; simp [hyl]
          have hZ7 := setRow_heap w6 w3.heap.size _ (y.map ub).toArray 25 _ hZ6
          have hGr := gr_row (gr_trans hG45 hG6) w3.heap.size (y.map ub).toArray (Nat.le_refl _)
          obtain ⟨_, _, _, e4, e5, e6⟩ := HF.out _ (gr_trans hG03 hGr)
          clear a1 a2 a3 a4 a5 a6
          go_wp2_with (first | (refine wpList_load_row rfl 25 _ rfl w3.heap.size rfl 25 _ (0, 0) _ hZ7 Tryd.underlying25 rfl HIy.out ?_) | (refine wpList_load_row rfl 76 _ rfl w.heap.size rfl 76 _ (0, 0) _ e4 Tryd.underlying76 rfl HI76.out ?_) | (refine wpList_store_row rfl 25 _ _ rfl w3.heap.size (y.map ub).toArray rfl rfl 25 _ hZ6 HIy.out HOy'.out HNy.out ?_))
          refine (HLEAD.out _ N y e6 HPLB.out hyl).mono ?_
          rintro e w7 ⟨r, hrl, rfl, hrt, hG7⟩
          have hR7 := (hG7.block _ (Array.getElem?_eq_some_iff.1 e5).1 (by simp)).trans e5
          have hG07 := gr_trans e6 hG7
          have HRES : Hid (holdsB key value false mask ps true pk pv root = (leadO N mask 64 0 y ps == some root)) := by
            show _ = _
            rw [HBB.out]
            simp [hks, hqn, ey]
          clear HBB HKK HF HLEAD hG7
          obtain ⟨HIr, HOr, HNr⟩ := sum25 r hrl
          obtain ⟨HIq, _, _⟩ := sum25 root hr
          generalize leadO N mask 64 0 y ps = L at hrt HRES ⊢
          cases L with
          | none =>
            go_wp2_with (first | (refine store_new rfl 25 _ _ rfl (r.map ub).toArray _ _ rfl rfl HIr.out HOr.out HNr.out ?_; intro W8 hW8 hs8 hG8; clear hs8))
            go_ret
            exact ⟨by rw [HRES.out]; rfl, gr_trans hG07 hG8⟩
          | some t =>
            obtain rfl := hrt t rfl
            go_wp2_with (first | (refine wpList_load_g rfl 25 _ rfl w7.heap.size rfl 25 _ (0, 0) _ hW8 Tryd.underlying25 rfl HIr.out ?_) | (refine wpList_load_g rfl 25 _ rfl (w.heap.size + 1) rfl 25 _ (0, 0) _ hR8 Tryd.underlying25 rfl HIq.out ?_) | (refine wpList_eq25 rfl _ _ _ rfl r root _ _ rfl rfl hrl hr rfl rfl ?_) | (refine store_new rfl 25 _ _ rfl (r.map ub).toArray _ _ rfl rfl HIr.out HOr.out HNr.out ?_; intro W8 hW8 hs8 hG8; clear hs8; have hR8 := (hG8.block _ (Array.getElem?_eq_some_iff.1 hR7).1 (by simp)).trans hR7))
            go_ret
            exact ⟨by rw [HRES.out]; simp [Option.some_beq_some], gr_trans hG07 hG8⟩
        · have dq : ((Q : Int) == (N : Int)) = false := by simp; omega
          go_wp2_with (first | (refine wpList_load_mid rfl 25 _ rfl w.heap.size 3 rfl (pk.map ub) _ a2 Tryd.underlying25 rfl HIk'.out ?_) | (refine wpList_load_row rfl 25 _ rfl w1.heap.size rfl 25 _ (0, 0) _ hS5 Tryd.underlying25 rfl HIs.out ?_) | (refine wpList_eq25 rfl _ _ _ rfl pk s _ _ rfl rfl hpk hsl rfl rfl ?_))
          go_ret
          exact ⟨by rw [HBB.out]; simp [hqn], a6⟩
    | false =>
      go_wp2_with (first | (refine wpList_load_row rfl 25 _ rfl w3.heap.size rfl 25 _ (0, 0) _ hW4 Tryd.underlying25 rfl HIz.out ?_) | (refine wpList_load_row rfl 76 _ rfl w.heap.size rfl 76 _ (0, 0) _ f4 Tryd.underlying76 rfl HI76.out ?_) | (refine store_new rfl 25 _ _ rfl ((List.replicate 32 (0 : UInt8)).map ub).toArray _ _ rfl rfl HIz.out HOz.out HNz.out ?_; intro W4 hW4 hs4 hG4; clear hs4; obtain ⟨f1, f2, f3, f4, f5, f6⟩ := HF.out W4 (gr_trans hG03 hG4); have hS4 := (hG4.block _ (Array.getElem?_eq_some_iff.1 hS3).1 (by simp)).trans hS3))
      refine (HLEAD.out W4 N (List.replicate 32 0) f6 HPLB.out rfl).mono ?_
      rintro e w7 ⟨r, hrl, rfl, hrt, hG7⟩
      have hR7 := (hG7.block _ (Array.getElem?_eq_some_iff.1 f5).1 (by simp)).trans f5
      have hG07 := gr_trans f6 hG7
      have HRES : Hid (holdsB key value false mask ps false pk pv root = (leadO N mask 64 0 (List.replicate 32 0) ps == some root)) := by
        show _ = _
        rw [HBB.out]
        rfl
      clear HBB HKK HF HLEAD hG7
      obtain ⟨HIr, HOr, HNr⟩ := sum25 r hrl
      obtain ⟨HIq, _, _⟩ := sum25 root hr
      generalize leadO N mask 64 0 (List.replicate 32 0) ps = L at hrt HRES ⊢
      cases L with
      | none =>
        go_wp2_with (first | (refine store_new rfl 25 _ _ rfl (r.map ub).toArray _ _ rfl rfl HIr.out HOr.out HNr.out ?_; intro W8 hW8 hs8 hG8; clear hs8))
        go_ret
        exact ⟨by rw [HRES.out]; rfl, gr_trans hG07 hG8⟩
      | some t =>
        obtain rfl := hrt t rfl
        go_wp2_with (first | (refine wpList_load_g rfl 25 _ rfl w7.heap.size rfl 25 _ (0, 0) _ hW8 Tryd.underlying25 rfl HIr.out ?_) | (refine wpList_load_g rfl 25 _ rfl (w.heap.size + 1) rfl 25 _ (0, 0) _ hR8 Tryd.underlying25 rfl HIq.out ?_) | (refine wpList_eq25 rfl _ _ _ rfl r root _ _ rfl rfl hrl hr rfl rfl ?_) | (refine store_new rfl 25 _ _ rfl (r.map ub).toArray _ _ rfl rfl HIr.out HOr.out HNr.out ?_; intro W8 hW8 hs8 hG8; clear hs8; have hR8 := (hG8.block _ (Array.getElem?_eq_some_iff.1 hR7).1 (by simp)).trans hR7))
        go_ret
        exact ⟨by rw [HRES.out]; simp [Option.some_beq_some], gr_trans hG07 hG8⟩
end Go.Proofs.YtplhlhjakapaaaaDoor
