/-
  places.climb: where a proof leads, as the program goes it.
-/
import Derived.Test.YtplhlhjakapaaaaDoorOnceC
import Derived.Test.YtplhlhjakapaaaaDoorPop
import Derived.Test.YtplhlhjakapaaaaDoorLeadR
import Derived.Test.YtplhlhjakapaaaaDoorTake
namespace Go.Proofs.YtplhlhjakapaaaaDoor
open Go Go.RowKit

/-- Where a proof leads, whatever its length. -/
def climbL (pl mask : Nat) : Nat → Nat → List UInt8 → List (List UInt8) → List UInt8
  | 0, _, x, _ => x
  | f + 1, k, x, ps => if mask / 2 ^ k % 2 = 1 then climbL pl mask f (k + 1) (stepL pl k x (ps.headD [])) ps.tail else climbL pl mask f (k + 1) (stepL pl k x (er k)) ps

theorem half_pow (mask k : Nat) : mask / 2 ^ k / 2 = mask / 2 ^ (k + 1) := by rw [Nat.div_div_eq_div_mul, ← Nat.pow_succ]

theorem leadO_climb (pl mask : Nat) : ∀ (f k : Nat) (x : List UInt8) (ps : List (List UInt8)), ps.length = digs 2 f (mask / 2 ^ k) → leadO pl mask f k x ps = some (climbL pl mask f k x ps)
  | 0, k, x, ps, h => by
    obtain rfl : ps = [] := List.length_eq_zero_iff.1 h
    rfl
  | f + 1, k, x, ps, h => by
    rw [digs, half_pow] at h
    by_cases hb : mask / 2 ^ k % 2 = 1
    · match ps, h with
      | [], h => rw [hb] at h; simp at h; omega
      | s :: ps, h =>
        rw [leadO_take pl mask f k x s ps hb, climbL, if_pos hb]
        exact leadO_climb pl mask f (k + 1) _ ps (by rw [List.length_cons] at h; omega)
    · rw [leadO_skip pl mask f k x ps hb, climbL, if_neg hb]
      exact leadO_climb pl mask f (k + 1) _ ps (by omega)
theorem leadO_none (pl mask : Nat) : ∀ (f k : Nat) (x : List UInt8) (ps : List (List UInt8)), ps.length ≠ digs 2 f (mask / 2 ^ k) → leadO pl mask f k x ps = none
  | 0, k, x, ps, h => by
    have : ¬ ps = [] := fun e => h (by rw [e]; rfl)
    simp [leadO, this]
  | f + 1, k, x, ps, h => by
    rw [digs, half_pow] at h
    by_cases hb : mask / 2 ^ k % 2 = 1
    · match ps, h with
      | [], h => exact leadO_out pl mask f k x hb
      | s :: ps, h =>
        rw [leadO_take pl mask f k x s ps hb]
        exact leadO_none pl mask f (k + 1) _ ps (by rw [List.length_cons] at h; omega)
    · rw [leadO_skip pl mask f k x ps hb]
      exact leadO_none pl mask f (k + 1) _ ps (by omega)

theorem isup_any (pl k : Nat) (hpl : pl < 18446744073709551616) (hk : k < 64) (w : World) :
    Calls Tryd.prog 131 #[.int .u64 (pl : Int), .int .i64 (k : Int)] w fun e w' => e = .returned (.bool (decide (pl / 2 ^ k % 2 = 1))) ∧ w' = w := by
  have eP := bit_eq pl k hpl
  have d0 : (k : Int) < 64 := by omega
  have hb : pl / 2 ^ k % 2 < 2 := Nat.mod_lt _ (by omega)
  clear hpl
  generalize pl / 2 ^ k % 2 = q at *
  go_enter Tryd.func131, Tryd.ntmps131
  go_wp2
  go_ret
  refine ⟨?_, rfl⟩
  congr 2
  by_cases h : q = 1
  · subst h; rfl
  · obtain rfl : q = 0 := by omega
    rfl

theorem sums_tail {w : World} {gp op cap : Nat} {t : List UInt8} {qs : List (List UInt8)} (h32 : ∀ s ∈ t :: qs, s.length = 32) (hcap : qs.length + 1 ≤ cap) (hgp : gp < w.heap.size) (hq : ∀ k s, (t :: qs)[k]? = some s → w.rangeAt gp (op + k * 32) (s.map ub)) :
    SumsIs w (.slice (if cap = 1 then some ⟨gp, op, none⟩ else some ⟨gp, op + 32, none⟩) qs.length (cap - 1)) qs := by
  refine ⟨fun s hs => h32 s (List.mem_cons_of_mem _ hs), _, _, rfl, by omega, fun h0 => ⟨gp, op + 32, by rw [if_neg (by omega)], hgp, fun k s hk => ?_⟩⟩
  have := hq (k + 1) s (by simpa using hk)
  rw [show op + 32 + k * 32 = op + (k + 1) * 32 by omega]
  exact this

theorem climb_take (pl mask f k : Nat) (x t : List UInt8) (qs : List (List UInt8)) (h : mask / 2 ^ k % 2 = 1) : climbL pl mask (f + 1) k x (t :: qs) = climbL pl mask f (k + 1) (stepL pl k x t) qs := by
  rw [climbL, if_pos h]; rfl
theorem climb_skip (pl mask f k : Nat) (x : List UInt8) (qs : List (List UInt8)) (h : ¬ mask / 2 ^ k % 2 = 1) : climbL pl mask (f + 1) k x qs = climbL pl mask f (k + 1) (stepL pl k x (er k)) qs := by
  rw [climbL, if_neg h]
theorem TabE.row {w : World} {E g : Nat} (h : TabE w E) (hg : E ≠ g) (cs : Array Value) : TabE (w.setRow g cs) E := by
  rcases h with h | h
  · exact Or.inl ⟨h.1, (setRow_other _ _ _ _ hg).trans h.2⟩
  · exact Or.inr ⟨h.1, (setRow_other _ _ _ _ hg).trans h.2⟩
theorem TabE.gr {w V : World} {E : Nat} (h : TabE w E) (g : w.grownBy V none) : TabE V E := h.elim (fun h => Or.inl (h.gr g)) (fun h => Or.inr (h.gr g))

theorem zero196 : Tryd.zeroCells196 = (tabC 0 0 (List.replicate 2080 0)).toArray := by kernel_rfl

set_option maxHeartbeats 4000000 in
set_option maxRecDepth 100000 in
theorem pclimb_any (pl mask : Nat) (x0 key val : List UInt8) (ps : List (List UInt8)) (path : Value) (taken : Bool) (w : World) (hw : 1 < w.heap.size) (hT : Tab w)
    (hpl : pl < 18446744073709551616) (hm : mask < 18446744073709551616) (hx : x0.length = 32) (hk : key.length = 32) (hv : val.length = 32) (hp : SumsIs w path ps) (hps : ps.length < 1000000) (hd : ps.length = digs 2 64 mask) :
    Calls Tryd.prog 99 #[.agg (x0.map ub).toArray, .int .u64 (pl : Int), .agg (proofC mask path taken key val).toArray] w
      fun e w' => e = .returned (.agg ((climbL pl mask 64 0 x0 ps).map ub).toArray) ∧ w.grownBy w' none := by
  have HT : Hid (Tab w) := hT
  have HP : Hid (SumsIs w path ps) := hp
  have HPL : Hid (pl < 18446744073709551616) := hpl
  have HM : Hid (mask < 18446744073709551616) := hm
  have HD0 : Hid (ps.length = digs 2 64 mask) := hd
  have hPC : proofC mask path taken key val = .int .u64 (mask : Int) :: path :: (.bool taken :: (key.map ub ++ val.map ub)) := rfl
  have hRl : (Value.bool taken :: (key.map ub ++ val.map ub)).length = 65 := by simp [hk, hv]
  rw [hPC]
  clear hT hpl hm hd hp hk hv hPC
  generalize (Value.bool taken :: (key.map ub ++ val.map ub)) = R at hRl ⊢
  obtain ⟨HI, HO, HN⟩ := sum25 x0 hx
  go_enter Tryd.func99, Tryd.ntmps99
  go_wp2
  have hs2 : (w.alloc (Obj.cells (x0.map ub).toArray 25)).heap.size = w.heap.size + 1 := by simp
  have hs3 : ((w.alloc (Obj.cells (x0.map ub).toArray 25)).alloc (Obj.cells (.int .u64 (mask : Int) :: path :: R).toArray 76)).heap.size = w.heap.size + 1 + 1 := by simp
  have hs4 : (((w.alloc (Obj.cells (x0.map ub).toArray 25)).alloc (Obj.cells (.int .u64 (mask : Int) :: path :: R).toArray 76)).alloc (Obj.cells (brow 32 []).toArray 25)).heap.size = w.heap.size + 1 + 1 + 1 := by simp
  have g4 := gr_alloc (((w.alloc (Obj.cells (x0.map ub).toArray 25)).alloc (Obj.cells (.int .u64 (mask : Int) :: path :: R).toArray 76)).alloc (Obj.cells (brow 32 []).toArray 25)) (Obj.cells Tryd.zeroCells196 196)
  have n4 := heap_alloc_new (((w.alloc (Obj.cells (x0.map ub).toArray 25)).alloc (Obj.cells (.int .u64 (mask : Int) :: path :: R).toArray 76)).alloc (Obj.cells (brow 32 []).toArray 25)) (Obj.cells Tryd.zeroCells196 196)
  have g3 := gr_alloc ((w.alloc (Obj.cells (x0.map ub).toArray 25)).alloc (Obj.cells (.int .u64 (mask : Int) :: path :: R).toArray 76)) (Obj.cells (brow 32 []).toArray 25)
  have n3 := heap_alloc_new ((w.alloc (Obj.cells (x0.map ub).toArray 25)).alloc (Obj.cells (.int .u64 (mask : Int) :: path :: R).toArray 76)) (Obj.cells (brow 32 []).toArray 25)
  have g2 := gr_alloc (w.alloc (Obj.cells (x0.map ub).toArray 25)) (Obj.cells (.int .u64 (mask : Int) :: path :: R).toArray 76)
  have n2 := heap_alloc_new (w.alloc (Obj.cells (x0.map ub).toArray 25)) (Obj.cells (.int .u64 (mask : Int) :: path :: R).toArray 76)
  have g1 := gr_alloc w (Obj.cells (x0.map ub).toArray 25)
  have n1 := heap_alloc_new w (Obj.cells (x0.map ub).toArray 25)
  change Code.wp _ _ _ _ ((((w.alloc (Obj.cells (x0.map ub).toArray 25)).alloc (Obj.cells (.int .u64 (mask : Int) :: path :: R).toArray 76)).alloc (Obj.cells (brow 32 []).toArray 25)).alloc (Obj.cells Tryd.zeroCells196 196))
  rw [hs4] at n4
  rw [hs3] at n3
  rw [hs2] at n2
  generalize (((w.alloc (Obj.cells (x0.map ub).toArray 25)).alloc (Obj.cells (.int .u64 (mask : Int) :: path :: R).toArray 76)).alloc (Obj.cells (brow 32 []).toArray 25)).alloc (Obj.cells Tryd.zeroCells196 196) = W0 at g4 n4 ⊢
  have hTab : TabAt W0 (w.heap.size + 1 + 1 + 1) 0 0 (tabK 0) := ⟨length_tabK 0 (by omega), by rw [n4, zero196, tabK_0]⟩
  have hB0 := (g4.block _ (Array.getElem?_eq_some_iff.1 n3).1 (by simp)).trans n3
  have g34 := gr_trans g3 g4
  have hC0 := (g34.block _ (Array.getElem?_eq_some_iff.1 n2).1 (by simp)).trans n2
  have g24 := gr_trans g2 g34
  have hX0 := (g24.block _ (Array.getElem?_eq_some_iff.1 n1).1 (by simp)).trans n1
  have hG0 := gr_trans g1 g24
  have HTE : Hid (TabE W0 (w.heap.size + 1 + 1 + 1)) := Or.inl hTab
  have hEs0 := (Array.getElem?_eq_some_iff.1 n4).1
  clear hs2 hs3 hs4 g4 n4 g3 n3 g2 n2 g1 n1 g34 g24 hTab
  generalize eCC : (Value.int .u64 (mask : Int) :: path :: R).toArray = CC at hC0 ⊢
  have hCC0 : CC[0]? = some (.int .u64 (mask : Int)) := by rw [← eCC]; rfl
  clear eCC
  generalize eE : w.heap.size + 1 + 1 + 1 = E at *
  have hEw : w.heap.size + 1 + 1 < E := by omega
  clear eE
  go_loopw [8, 13] (fun a b wr => ∃ (n k : Nat) (x : List UInt8), k ≤ 64 ∧ n ≤ ps.length ∧ b = .int .i64 (k : Int) ∧ x.length = 32 ∧ Hid (climbL pl mask (64 - k) k x (ps.drop n) = climbL pl mask 64 0 x0 ps) ∧ Hid ((ps.drop n).length = digs 2 (64 - k) (mask / 2 ^ k)) ∧ Hid (SumsIs w a (ps.drop n)) ∧
      wr.heap[w.heap.size]? = some (.cells (x.map ub).toArray 25 (0, 0)) ∧ wr.heap[w.heap.size + 1]? = some (.cells CC 76 (0, 0)) ∧ wr.heap[w.heap.size + 1 + 1]? = some (.cells (brow 32 []).toArray 25 (0, 0)) ∧ Hid (TabE wr E) ∧ E < wr.heap.size ∧ w.grownBy wr none)
    (fun _ b _ => 64 - (intOf b).toNat)
  case atStart => exact ⟨0, 0, x0, by omega, by omega, rfl, hx, by show _ = _; simp, by show _ = _; simpa using HD0.out, HP.out, hX0, hC0, hB0, HTE, hEs0, hG0⟩
  case round =>
    clear hX0 hC0 hB0 hG0 HI HO HN hx HTE HD0 HP hEs0
    obtain ⟨n, k, x, hk, hn, rfl, hx, HL, HD, HPV, hX, hC, hB, HTE, hEs, hG⟩ := hrel
    by_cases hlt : k < 64
    · have d0 : (k : Int) < 64 := by omega
      go_wp2_with fail
      refine (eroot_any E k hk wr HTE.out hEs (fun V hV => ⟨HT.out.gr (grE_back hG (by omega) hV) hw, by have := (grE_back hG (by omega) hV).size; omega⟩)).mono ?_
      rintro e w1 ⟨rfl, hE1, hG1⟩
      have hG01 := grE_back hG (by omega) hG1
      have HF : Hid (∀ V : World, w1.grownBy V none → V.cell? ⟨w.heap.size + 1, 0, none⟩ = some (.int .u64 (mask : Int)) ∧ V.heap[w.heap.size]? = some (.cells (x.map ub).toArray 25 (0, 0)) ∧ V.heap[w.heap.size + 1]? = some (.cells CC 76 (0, 0)) ∧ V.heap[w.heap.size + 1 + 1]? = some (.cells (brow 32 []).toArray 25 (0, 0)) ∧ w.grownBy V none ∧ Hid (TabE V E) ∧ E < V.heap.size) := fun V hV => by
        have hC1 := (hV.block _ (Nat.lt_of_lt_of_le (Array.getElem?_eq_some_iff.1 hC).1 hG1.size) (by simp)).trans ((hG1.block _ (Array.getElem?_eq_some_iff.1 hC).1 (fun e => by have := Option.some.inj e; omega)).trans hC)
        refine ⟨?_, (hV.block _ (Nat.lt_of_lt_of_le (Array.getElem?_eq_some_iff.1 hX).1 hG1.size) (by simp)).trans ((hG1.block _ (Array.getElem?_eq_some_iff.1 hX).1 (fun e => by have := Option.some.inj e; omega)).trans hX), hC1, (hV.block _ (Nat.lt_of_lt_of_le (Array.getElem?_eq_some_iff.1 hB).1 hG1.size) (by simp)).trans ((hG1.block _ (Array.getElem?_eq_some_iff.1 hB).1 (fun e => by have := Option.some.inj e; omega)).trans hB), gr_trans hG01 hV, Or.inr (hE1.gr hV), by have := hG1.size; have := hV.size; omega⟩
        rw [cell_of_row V _ _ _ _ _ hC1]; exact hCC0
      clear hE1 hX hC hB
      have hel := length_er k
      obtain ⟨HIe, HOe, HNe⟩ := sum25 (er k) hel
      obtain ⟨HIx, HOx, HNx⟩ := sum25 x hx
      have eM := bit_eq mask k HM.out
      have hbM : mask / 2 ^ k % 2 < 2 := Nat.mod_lt _ (by omega)
      have hbP : pl / 2 ^ k % 2 < 2 := Nat.mod_lt _ (by omega)
      by_cases hbm : mask / 2 ^ k % 2 = 1
      · rw [hbm] at eM
        have HDD : Hid (∃ t, t.length = 32 ∧ ps.drop n = t :: ps.drop (n + 1) ∧ n + 1 ≤ ps.length ∧ (ps.drop (n + 1)).length = digs 2 (64 - (k + 1)) (mask / 2 ^ (k + 1))) := by
          have h1 := HD.out
          rw [show 64 - k = (64 - (k + 1)) + 1 by omega, digs, half_pow, hbm, List.length_drop] at h1
          have hlt2 : n < ps.length := by omega
          refine ⟨ps[n], HPV.out.1 _ (by rw [List.drop_eq_getElem_cons hlt2]; exact List.mem_cons_self), List.drop_eq_getElem_cons hlt2, by omega, ?_⟩
          rw [List.length_drop]; omega
        obtain ⟨t, htl, hdrop, hn1, hd1⟩ := HDD.out
        have HD1 : Hid ((ps.drop (n + 1)).length = digs 2 (64 - (k + 1)) (mask / 2 ^ (k + 1))) := hd1
        have HDR : Hid (ps.drop n = t :: ps.drop (n + 1)) := hdrop
        clear hd1 HDD
        obtain ⟨h32, sp, cap, hu8, hcap, hq⟩ := HPV.out
        rw [hdrop] at hq hcap hu8
        obtain ⟨gp, op, rfl, hgp, hrows⟩ := hq (by simp)
        subst hu8
        have HRT : Hid (∀ V : World, w.grownBy V none → V.rangeAt gp op (t.map ub)) := fun V hV j u hj => (gr_cell hV (p := ⟨gp, op + j, none⟩) hgp).trans (by have := hrows 0 t rfl j u hj; simpa using this)
        obtain ⟨HIt, _, HNt⟩ := sum25 t htl
        have HIt' : Hid ((Tryd.prog.info? 25).map (·.size) = some (t.map ub).length) := by show _ = _; rw [HIt.out]; simp
        have HOt' : Hid (((er k).map ub).toArray.size = (t.map ub).toArray.size) := by show _ = _; simp [hel, htl]
        have hlen1 : (t :: ps.drop (n + 1)).length = (ps.drop (n + 1)).length + 1 := rfl
        rw [hlen1] at hcap ⊢
        have HQ : Hid (∀ k s, (t :: ps.drop (n + 1))[k]? = some s → w.rangeAt gp (op + k * 32) (s.map ub)) := hrows
        have H32 : Hid (∀ s ∈ ps.drop n, s.length = 32) := h32
        clear hq hrows h32 hlen1 hdrop
        generalize hLn : (ps.drop (n + 1)).length = Ln at hcap ⊢
        have HLN : Hid ((ps.drop (n + 1)).length = Ln) := hLn
        clear hLn
        go_wp2_with (first | (refine store_new rfl 25 _ _ rfl ((er k).map ub).toArray _ _ rfl rfl HIe.out HOe.out HNe.out ?_; intro W2 hW2 hs2 hG2; clear hs2; obtain ⟨c0, hX2, hC2, hB2, hG02, HTE2, hEs2⟩ := HF.out W2 hG2))
        have d1 : (0 : Int) < ((Ln : Int) + 1) := by omega
        have d2 : (1 : Int) ≤ ((Ln : Int) + 1) := by omega
        have d3 : ((Ln : Int) + 1) ≤ (cap : Int) := by omega
        have HRW : Hid (W2.drew.rangeAt gp op (t.map ub)) := HRT.out _ (gr_drew hG02)
        have hW2d : W2.drew.heap[w1.heap.size]? = some (.cells ((er k).map ub).toArray 25 (0, 0)) := hW2
        refine wp_region_noPanic ?_
        refine wp_region_T (last := 6) (S := fun w' => w'.rangeAt gp op (t.map ub)) (by kernel_rfl) HRW.out (fun hHeld => ?_)
        refine wpAnyT_take (i := 0) (oi := { dst := some 24, op := Op.move (Operand.tmp 8), type := 38, pos := "proof.go:70", after := #[], guard := none }) (v := ?_) rfl (by kernel_rfl) (by kernel_rfl) (by kernel_rfl) (fun _ _ _ h => h) (by kernel_rfl) (Or.inl ⟨by rfl, ?_⟩) (by assumption) ?_
        rotate_left
        · intro w' hSw
          try dsimp only at hSw
          go_simp
          try with_reducible rfl
        simp only [Act.put, List.setIfInBounds_toArray, List.set_cons_zero, List.set_cons_succ]
        refine wpAnyT_take (i := 1) (oi := { dst := some 25, op := Op.indexAddr 38 (Operand.tmp 24) (Operand.const (Value.int IntKind.i64 0)), type := 0, pos := "proof.go:70", after := #[{ on := 0, ground := Ground.data }], guard := none }) (v := ?_) rfl (by kernel_rfl) (by kernel_rfl) (by kernel_rfl) (fun _ _ _ h => h) (by kernel_rfl) (Or.inl ⟨by rfl, ?_⟩) (by assumption) ?_
        rotate_left
        · intro w' hSw
          try dsimp only at hSw
          go_simp
          try with_reducible rfl
        simp only [Act.put, List.setIfInBounds_toArray, List.set_cons_zero, List.set_cons_succ]
        refine wpAnyT_take (i := 2) (oi := { dst := some 26, op := Op.load 25 (Operand.tmp 25), type := 25, pos := "proof.go:70", after := #[{ on := 1, ground := Ground.data }], guard := none }) (v := .agg (t.map ub).toArray) rfl (by kernel_rfl) (by kernel_rfl) (by kernel_rfl) (fun _ _ _ h => h) (by kernel_rfl) (yieldsIf_load_mid (by rfl) _ _ rfl gp op (by simp [Act.eval]) (t.map ub) _ (fun w' hSw => hSw) Tryd.underlying25 rfl HIt'.out) (by assumption) ?_
        simp only [Act.put, List.setIfInBounds_toArray, List.set_cons_zero, List.set_cons_succ]
        refine wpAnyT_take (i := 3) (oi := { dst := some 27, op := Op.move (Operand.tmp 8), type := 38, pos := "proof.go:70", after := #[], guard := none }) (v := ?_) rfl (by kernel_rfl) (by kernel_rfl) (by kernel_rfl) (fun _ _ _ h => h) (by kernel_rfl) (Or.inl ⟨by rfl, ?_⟩) (by assumption) ?_
        rotate_left
        · intro w' hSw
          try dsimp only at hSw
          go_simp
          try with_reducible rfl
        simp only [Act.put, List.setIfInBounds_toArray, List.set_cons_zero, List.set_cons_succ]
        refine wpAnyT_take (i := 4) (oi := { dst := some 28, op := Op.slice 38 (Operand.tmp 27) (some (Operand.const (Value.int IntKind.i64 1))) none none, type := 38, pos := "proof.go:70", after := #[{ on := 3, ground := Ground.data }], guard := none }) (v := ?_) rfl (by kernel_rfl) (by kernel_rfl) (by kernel_rfl) (fun _ _ _ h => h) (by kernel_rfl) (Or.inl ⟨by rfl, ?_⟩) (by assumption) ?_
        rotate_left
        · intro w' hSw
          try dsimp only at hSw
          go_simp
          try with_reducible rfl
        simp only [Act.put, List.setIfInBounds_toArray, List.set_cons_zero, List.set_cons_succ]
        refine wpAnyT_one (i := 5) (o := { dst := none, op := Op.store 25 (Operand.tmp 10) (Operand.tmp 26), type := 0, pos := "proof.go:70", after := #[{ on := 2, ground := Ground.data }, { on := 0, ground := Ground.phase }, { on := 1, ground := Ground.phase }, { on := 2, ground := Ground.phase }, { on := 3, ground := Ground.textOnly Go.Departure.lateStores }, { on := 4, ground := Ground.textOnly Go.Departure.lateStoresUnsure }], guard := none }) rfl (by kernel_rfl) (fun K hK => ?_)
        rw [if_pos (by rfl)]
        refine wp_store_row 25 _ _ rfl w1.heap.size (t.map ub).toArray rfl rfl 25 _ hW2d HIt.out HOt'.out HNt.out ?_
        refine hK.out _ _ (fun _ => ?_) (fun _ => ?_)
        · intro j u hj
          have hne : gp ≠ w1.heap.size := by have := hG01.size; omega
          rw [World.cell?_of_block (w := W2.drew) (a := ⟨gp, op + j, none⟩) (setRow_other _ _ _ _ hne)]
          exact HRW.out j u hj
        have hG3 : w1.grownBy (W2.drew.setRow w1.heap.size (t.map ub).toArray) none := gr_row (gr_drew hG2) w1.heap.size _ (Nat.le_refl _)
        have hZ3 := setRow_heap W2.drew w1.heap.size _ (t.map ub).toArray 25 _ hW2d
        obtain ⟨_, hX3, hC3, hB3, hG03, HTE3, hEs3⟩ := HF.out _ hG3
        have HST : Hid (SumsIs w (.slice (if cap = 1 then some ⟨gp, op, none⟩ else some ⟨gp, op + 32, none⟩) Ln (cap - 1)) (ps.drop (n + 1))) := by
          have := sums_tail (t := t) (qs := ps.drop (n + 1)) (by rw [← HDR.out]; exact H32.out) (by rw [HLN.out]; exact hcap) hgp HQ.out
          rw [HLN.out] at this
          exact this
        generalize (if cap = 1 then some (⟨gp, op, none⟩ : Addr) else some ⟨gp, op + 32, none⟩) = sq at HST
        clear hK K hHeld hX2 hC2 hB2 hG02 HTE2 hEs2 hW2 hG2 c0 HRW
        simp only [Act.put]
        refine wpAnyT_one (i := 6) (o := { dst := some 8, op := Op.assign (Operand.tmp 28), type := 38, pos := "proof.go:70", after := #[{ on := 4, ground := Ground.data }, { on := 5, ground := Ground.chain }, { on := 0, ground := Ground.phase }, { on := 1, ground := Ground.phase }, { on := 2, ground := Ground.phase }, { on := 3, ground := Ground.phase }, { on := 4, ground := Ground.phase }, { on := 5, ground := Ground.phase }], guard := none }) rfl (by kernel_rfl) (fun K hK => ?_)
        go_simp
        refine hK.out _ _ (fun h => absurd rfl h) (fun _ => ?_)
        clear hK K
        try simp only [Act.put, List.setIfInBounds_toArray, List.set_cons_zero, List.set_cons_succ]
        refine wpAnyT_done (by kernel_rfl) ?_ _
        refine NoPanic.normal ?_
        clear hW2d
        generalize W2.drew.setRow w1.heap.size (t.map ub).toArray = V3 at *
        by_cases hbp : pl / 2 ^ k % 2 = 1
        · have hdec : decide (pl / 2 ^ k % 2 = 1) = true := by simp [hbp]
          go_wp2_with (first | (go_at_call 131; refine (isup_any pl k HPL.out hlt _).mono ?_; rintro e w' ⟨rfl, hw'⟩; rw [hw', hdec]; clear hw' w') | (refine wpList_load_row rfl 25 _ rfl w1.heap.size rfl 25 _ (0, 0) _ hZ3 Tryd.underlying25 rfl HIt.out ?_) | (refine wpList_load_row rfl 25 _ rfl w.heap.size rfl 25 _ (0, 0) _ hX3 Tryd.underlying25 rfl HIx.out ?_))
          refine (pnode_any t x V3 (by have := hG03.size; omega) (HT.out.gr hG03 hw) htl hx).mono ?_
          rintro e w4 ⟨rfl, hG4⟩
          have hyl := length_sha (nodeL 3 t x)
          have HST2 : Hid (stepL pl k x t = sha (nodeL 3 t x)) := by show _ = _; unfold stepL; rw [if_pos hbp]
          have HL2 : Hid (climbL pl mask (64 - (k + 1)) (k + 1) (sha (nodeL 3 t x)) (ps.drop (n + 1)) = climbL pl mask 64 0 x0 ps) := by
            show _ = _
            rw [← HL.out, ← HST2.out, show 64 - k = (64 - (k + 1)) + 1 by omega, HDR.out, climb_take pl mask _ k x _ _ hbm]
          generalize sha (nodeL 3 t x) = y at hyl HL2 ⊢
          clear HST2
          obtain ⟨HIy, _, HNy⟩ := sum25 y hyl
          have hX4 := (hG4.block _ (Array.getElem?_eq_some_iff.1 hX3).1 (by simp)).trans hX3
          have hC4 := (hG4.block _ (Array.getElem?_eq_some_iff.1 hC3).1 (by simp)).trans hC3
          have hB4 := (hG4.block _ (Array.getElem?_eq_some_iff.1 hB3).1 (by simp)).trans hB3
          have hG04 := gr_trans hG03 hG4
          have HTE4 : Hid (TabE w4 E) := HTE3.out.gr hG4
          have hEs4 : E < w4.heap.size := by have := hG4.size; omega
          have HOy' : Hid ((x.map ub).toArray.size = (y.map ub).toArray.size) := by show _ = _; simp [hx, hyl]
          clear hX3 hC3 hB3 hG03 hG4 HF eM HL hZ3 HTE3 hEs3 hG3
          go_wp2_with (refine wpList_store_row rfl 25 _ _ rfl w.heap.size (y.map ub).toArray rfl rfl 25 _ hX4 HIy.out HOy'.out HNy.out ?_)
          exact ⟨⟨n + 1, k + 1, y, by omega, hn1, by go_num, hyl, HL2, HD1, HST, setRow_heap _ _ _ _ 25 _ hX4, (setRow_other _ _ _ _ (by omega)).trans hC4, (setRow_other _ _ _ _ (by omega)).trans hB4, HTE4.out.row (by omega) _, by simpa using hEs4, gr_row hG04 _ _ (Nat.le_refl _)⟩, by simp [intOf]; omega⟩
        · have hdec : decide (pl / 2 ^ k % 2 = 1) = false := by simp [hbp]
          go_wp2_with (first | (go_at_call 131; refine (isup_any pl k HPL.out hlt _).mono ?_; rintro e w' ⟨rfl, hw'⟩; rw [hw', hdec]; clear hw' w') | (refine wpList_load_row rfl 25 _ rfl w1.heap.size rfl 25 _ (0, 0) _ hZ3 Tryd.underlying25 rfl HIt.out ?_) | (refine wpList_load_row rfl 25 _ rfl w.heap.size rfl 25 _ (0, 0) _ hX3 Tryd.underlying25 rfl HIx.out ?_))
          refine (pnode_any x t V3 (by have := hG03.size; omega) (HT.out.gr hG03 hw) hx htl).mono ?_
          rintro e w4 ⟨rfl, hG4⟩
          have hyl := length_sha (nodeL 3 x t)
          have HST2 : Hid (stepL pl k x t = sha (nodeL 3 x t)) := by show _ = _; unfold stepL; rw [if_neg hbp]
          have HL2 : Hid (climbL pl mask (64 - (k + 1)) (k + 1) (sha (nodeL 3 x t)) (ps.drop (n + 1)) = climbL pl mask 64 0 x0 ps) := by
            show _ = _
            rw [← HL.out, ← HST2.out, show 64 - k = (64 - (k + 1)) + 1 by omega, HDR.out, climb_take pl mask _ k x _ _ hbm]
          generalize sha (nodeL 3 x t) = y at hyl HL2 ⊢
          clear HST2
          obtain ⟨HIy, _, HNy⟩ := sum25 y hyl
          have hX4 := (hG4.block _ (Array.getElem?_eq_some_iff.1 hX3).1 (by simp)).trans hX3
          have hC4 := (hG4.block _ (Array.getElem?_eq_some_iff.1 hC3).1 (by simp)).trans hC3
          have hB4 := (hG4.block _ (Array.getElem?_eq_some_iff.1 hB3).1 (by simp)).trans hB3
          have hG04 := gr_trans hG03 hG4
          have HTE4 : Hid (TabE w4 E) := HTE3.out.gr hG4
          have hEs4 : E < w4.heap.size := by have := hG4.size; omega
          have HOy' : Hid ((x.map ub).toArray.size = (y.map ub).toArray.size) := by show _ = _; simp [hx, hyl]
          clear hX3 hC3 hB3 hG03 hG4 HF eM HL hZ3 HTE3 hEs3 hG3
          go_wp2_with (refine wpList_store_row rfl 25 _ _ rfl w.heap.size (y.map ub).toArray rfl rfl 25 _ hX4 HIy.out HOy'.out HNy.out ?_)
          exact ⟨⟨n + 1, k + 1, y, by omega, hn1, by go_num, hyl, HL2, HD1, HST, setRow_heap _ _ _ _ 25 _ hX4, (setRow_other _ _ _ _ (by omega)).trans hC4, (setRow_other _ _ _ _ (by omega)).trans hB4, HTE4.out.row (by omega) _, by simpa using hEs4, gr_row hG04 _ _ (Nat.le_refl _)⟩, by simp [intOf]; omega⟩
      · have hM0 : mask / 2 ^ k % 2 = 0 := by omega
        rw [hM0] at eM
        go_wp2_with (first | (refine store_new rfl 25 _ _ rfl ((er k).map ub).toArray _ _ rfl rfl HIe.out HOe.out HNe.out ?_; intro V3 hZ3 hs2 hG3; clear hs2; obtain ⟨c0, hX3, hC3, hB3, hG03, HTE3, hEs3⟩ := HF.out V3 hG3))
        have HD2 : Hid ((ps.drop n).length = digs 2 (64 - (k + 1)) (mask / 2 ^ (k + 1))) := by
          show _ = _
          have h1 := HD.out
          rw [show 64 - k = (64 - (k + 1)) + 1 by omega, digs, half_pow, hM0, Nat.zero_add] at h1
          exact h1
        by_cases hbp : pl / 2 ^ k % 2 = 1
        · have hdec : decide (pl / 2 ^ k % 2 = 1) = true := by simp [hbp]
          go_wp2_with (first | (go_at_call 131; refine (isup_any pl k HPL.out hlt _).mono ?_; rintro e w' ⟨rfl, hw'⟩; rw [hw', hdec]; clear hw' w') | (refine wpList_load_row rfl 25 _ rfl w1.heap.size rfl 25 _ (0, 0) _ hZ3 Tryd.underlying25 rfl HIe.out ?_) | (refine wpList_load_row rfl 25 _ rfl w.heap.size rfl 25 _ (0, 0) _ hX3 Tryd.underlying25 rfl HIx.out ?_))
          refine (pnode_any (er k) x V3 (by have := hG03.size; omega) (HT.out.gr hG03 hw) hel hx).mono ?_
          rintro e w4 ⟨rfl, hG4⟩
          have hyl := length_sha (nodeL 3 (er k) x)
          have HST2 : Hid (stepL pl k x (er k) = sha (nodeL 3 (er k) x)) := by show _ = _; unfold stepL; rw [if_pos hbp]
          have HL2 : Hid (climbL pl mask (64 - (k + 1)) (k + 1) (sha (nodeL 3 (er k) x)) (ps.drop (n)) = climbL pl mask 64 0 x0 ps) := by
            show _ = _
            rw [← HL.out, ← HST2.out, show 64 - k = (64 - (k + 1)) + 1 by omega, climb_skip pl mask _ k x _ hbm]
          generalize sha (nodeL 3 (er k) x) = y at hyl HL2 ⊢
          clear HST2
          obtain ⟨HIy, _, HNy⟩ := sum25 y hyl
          have hX4 := (hG4.block _ (Array.getElem?_eq_some_iff.1 hX3).1 (by simp)).trans hX3
          have hC4 := (hG4.block _ (Array.getElem?_eq_some_iff.1 hC3).1 (by simp)).trans hC3
          have hB4 := (hG4.block _ (Array.getElem?_eq_some_iff.1 hB3).1 (by simp)).trans hB3
          have hG04 := gr_trans hG03 hG4
          have HTE4 : Hid (TabE w4 E) := HTE3.out.gr hG4
          have hEs4 : E < w4.heap.size := by have := hG4.size; omega
          have HOy' : Hid ((x.map ub).toArray.size = (y.map ub).toArray.size) := by show _ = _; simp [hx, hyl]
          clear hX3 hC3 hB3 hG03 hG4 HF eM HL hZ3 HTE3 hEs3 hG3
          go_wp2_with (refine wpList_store_row rfl 25 _ _ rfl w.heap.size (y.map ub).toArray rfl rfl 25 _ hX4 HIy.out HOy'.out HNy.out ?_)
          exact ⟨⟨n, k + 1, y, by omega, hn, by go_num, hyl, HL2, HD2, HPV, setRow_heap _ _ _ _ 25 _ hX4, (setRow_other _ _ _ _ (by omega)).trans hC4, (setRow_other _ _ _ _ (by omega)).trans hB4, HTE4.out.row (by omega) _, by simpa using hEs4, gr_row hG04 _ _ (Nat.le_refl _)⟩, by simp [intOf]; omega⟩
        · have hdec : decide (pl / 2 ^ k % 2 = 1) = false := by simp [hbp]
          go_wp2_with (first | (go_at_call 131; refine (isup_any pl k HPL.out hlt _).mono ?_; rintro e w' ⟨rfl, hw'⟩; rw [hw', hdec]; clear hw' w') | (refine wpList_load_row rfl 25 _ rfl w1.heap.size rfl 25 _ (0, 0) _ hZ3 Tryd.underlying25 rfl HIe.out ?_) | (refine wpList_load_row rfl 25 _ rfl w.heap.size rfl 25 _ (0, 0) _ hX3 Tryd.underlying25 rfl HIx.out ?_))
          refine (pnode_any x (er k) V3 (by have := hG03.size; omega) (HT.out.gr hG03 hw) hx hel).mono ?_
          rintro e w4 ⟨rfl, hG4⟩
          have hyl := length_sha (nodeL 3 x (er k))
          have HST2 : Hid (stepL pl k x (er k) = sha (nodeL 3 x (er k))) := by show _ = _; unfold stepL; rw [if_neg hbp]
          have HL2 : Hid (climbL pl mask (64 - (k + 1)) (k + 1) (sha (nodeL 3 x (er k))) (ps.drop (n)) = climbL pl mask 64 0 x0 ps) := by
            show _ = _
            rw [← HL.out, ← HST2.out, show 64 - k = (64 - (k + 1)) + 1 by omega, climb_skip pl mask _ k x _ hbm]
          generalize sha (nodeL 3 x (er k)) = y at hyl HL2 ⊢
          clear HST2
          obtain ⟨HIy, _, HNy⟩ := sum25 y hyl
          have hX4 := (hG4.block _ (Array.getElem?_eq_some_iff.1 hX3).1 (by simp)).trans hX3
          have hC4 := (hG4.block _ (Array.getElem?_eq_some_iff.1 hC3).1 (by simp)).trans hC3
          have hB4 := (hG4.block _ (Array.getElem?_eq_some_iff.1 hB3).1 (by simp)).trans hB3
          have hG04 := gr_trans hG03 hG4
          have HTE4 : Hid (TabE w4 E) := HTE3.out.gr hG4
          have hEs4 : E < w4.heap.size := by have := hG4.size; omega
          have HOy' : Hid ((x.map ub).toArray.size = (y.map ub).toArray.size) := by show _ = _; simp [hx, hyl]
          clear hX3 hC3 hB3 hG03 hG4 HF eM HL hZ3 HTE3 hEs3 hG3
          go_wp2_with (refine wpList_store_row rfl 25 _ _ rfl w.heap.size (y.map ub).toArray rfl rfl 25 _ hX4 HIy.out HOy'.out HNy.out ?_)
          exact ⟨⟨n, k + 1, y, by omega, hn, by go_num, hyl, HL2, HD2, HPV, setRow_heap _ _ _ _ 25 _ hX4, (setRow_other _ _ _ _ (by omega)).trans hC4, (setRow_other _ _ _ _ (by omega)).trans hB4, HTE4.out.row (by omega) _, by simpa using hEs4, gr_row hG04 _ _ (Nat.le_refl _)⟩, by simp [intOf]; omega⟩
    · obtain rfl : k = 64 := by omega
      have d0 : decide (((64 : Nat) : Int) < 64) = false := by simp
      have HL3 : Hid (x = climbL pl mask 64 0 x0 ps) := by
        show _ = _
        rw [← HL.out]; rfl
      obtain ⟨HIx, HOx, HNx⟩ := sum25 x hx
      clear HL HD HPV HTE
      go_wp2_with (first | (refine wpList_load_row rfl 25 _ rfl w.heap.size rfl 25 _ (0, 0) _ hX Tryd.underlying25 rfl HIx.out ?_) | (refine wpList_store_row rfl 25 _ _ rfl (w.heap.size + 1 + 1) (x.map ub).toArray rfl rfl 25 _ hB HIx.out HOx.out HNx.out ?_))
      exact bodyPost_ret (results_cell_row Tryd.results99 _ _ (w.heap.size + 1 + 1) 25 _ (0, 0) _ rfl (setRow_heap _ _ _ _ 25 _ hB) Tryd.underlying25 rfl HIx.out) rfl ⟨by rw [← HL3.out], gr_row hG _ _ (by omega)⟩
end Go.Proofs.YtplhlhjakapaaaaDoor
