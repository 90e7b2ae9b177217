import Derived.Test.YtplhlhjakapaaaaDoorDigA
import Derived.OwnWalk
namespace Go.Proofs.YtplhlhjakapaaaaDoor
open Go Go.RowKit

abbrev ud (x : Nat) : Value := .int .u64 (x : Int)

set_option maxHeartbeats 400000 in
set_option maxRecDepth 100000 in
theorem add_any (b : Nat) (t : TypeId) (V : List Nat) (i x : Nat) (w : World) (hrow : w.heap[b]? = some (.cells (V.map ud).toArray t (0, 0)))
    (hd : ∀ d ∈ V, d < 4294967296) (hx : x < 18446744073709551616) (hl : V.length < 1000) (hv : val V + x * 4294967296 ^ i < 4294967296 ^ V.length) :
    Calls Tryd.prog 148 #[.slice (some ⟨b, 0, none⟩) V.length V.length, .int .i64 (i : Int), .int .u64 (x : Int)] w fun e w' => e = .returned (.tuple #[]) ∧
      ∃ V', V'.length = V.length ∧ (∀ d ∈ V', d < 4294967296) ∧ val V' = val V + x * 4294967296 ^ i ∧ w'.heap[b]? = some (.cells (V'.map ud).toArray t (0, 0)) ∧ w.grownBy w' (some b) := by
  obtain ⟨S, hS⟩ : ∃ S, S = val V + x * 4294967296 ^ i := ⟨_, rfl⟩
  obtain ⟨n, hn⟩ : ∃ n, n = V.length := ⟨_, rfl⟩
  have HS : Hid (S = val V + x * 4294967296 ^ i) := hS
  have HV : Hid (S < 4294967296 ^ n) := by rw [hS, hn]; exact hv
  have HD : Hid _ := hd
  have HR : Hid _ := hrow
  have HX : Hid (x < 18446744073709551616) := hx
  rw [← hS, ← hn]
  rw [← hn] at hl
  have HN : Hid (n = V.length) := hn
  clear hS hv hd hrow hx hn
  go_enter Tryd.func148, Tryd.ntmps148
  go_wp2
  go_loopw [1, 2] (fun vi vx wr => ∃ (i x : Nat) (U : List Nat), vi = .int .i64 (i : Int) ∧ vx = .int .u64 (x : Int) ∧ Hid (x < 18446744073709551616) ∧ Hid (U.length = n) ∧ Hid (∀ d ∈ U, d < 4294967296) ∧ Hid (val U + x * 4294967296 ^ i = S) ∧
      wr.heap[b]? = some (.cells (U.map ud).toArray t (0, 0)) ∧ w.grownBy wr (some b))
    (fun vi _ _ => n - (intOf vi).toNat)
  case atStart => exact ⟨i, x, V, rfl, rfl, HX, HN.out.symm, HD, HS.out.symm, HR.out, ⟨rfl, rfl, rfl, Nat.le_refl _, fun _ _ _ => rfl⟩⟩
  case round =>
    obtain ⟨i, x, U, rfl, rfl, hX, hU, hD, hT, hrow, hG⟩ := hrel
    by_cases h0 : 0 < x
    · have hin : i < n := by
        have h1 := HV.out
        rw [← hT.out, ← hU.out] at h1
        have := add_in U i x h0 h1
        rwa [hU.out] at this
      have hxb : x < 18446744073709551616 := hX.out
      have hc : wr.cell? ⟨b, i, none⟩ = some (ud (U.getD i 0)) := by
        rw [cell_of_row wr _ _ _ _ _ hrow, List.getElem?_toArray, List.getElem?_map, List.getElem?_eq_getElem (by rw [hU.out]; omega)]
        simp [hU.out, hin]
      have hf : wr.frozen? ⟨b, i, none⟩ = false := frozen_of_row wr _ _ _ _ hrow
      have hdl : U.getD i 0 < 4294967296 := by
        refine hD.out _ ?_
        rw [List.getD_eq_getElem?_getD, List.getElem?_eq_getElem (by rw [hU.out]; omega)]
        exact List.getElem_mem _
      generalize eD : U.getD i 0 = dd at hc hdl
      have ED : Hid (U.getD i 0 = dd) := eD
      clear eD
      have hi2 : (i : Int) < (n : Int) := by omega
      go_wp2
      have hst := add_step U i x (by rw [hU.out]; exact hin)
      rw [ED.out] at hst
      refine ⟨⟨i + 1, x / 4294967296 + (dd + x % 4294967296) / 4294967296, U.set i ((dd + x % 4294967296) % 4294967296), by go_num, by go_num, ?_, ?_, ?_, hst.trans hT.out, ?_, ?_⟩, by simp [intOf]; omega⟩
      · show _ < _
        omega
      · show _ = _
        rw [List.length_set]; exact hU.out
      · intro d hd
        rcases List.mem_or_eq_of_mem_set hd with h | h
        · exact hD.out d h
        · rw [h]; exact Nat.mod_lt _ (by decide)
      · rw [heap_setCell_same _ _ _ _ _ _ hrow, List.setIfInBounds_toArray, List.map_set]
        congr 5
        omega
      · exact ⟨hG.os, hG.tape, hG.output, by simpa using hG.size, fun j hj hne => (heap_setCell_other _ _ _ _ (by simpa using hne)).trans (hG.block j hj hne)⟩
    · have hx0 : x = 0 := by omega
      subst hx0
      have HG : Hid _ := hG
      have HRW : Hid _ := hrow
      clear hG hrow h0
      go_wp2
      go_end0
      refine ⟨rfl, U, hU.out, hD.out, ?_, HRW.out, HG.out⟩
      have := hT.out
      simpa using this
end Go.Proofs.YtplhlhjakapaaaaDoor

namespace Go.Proofs.YtplhlhjakapaaaaDoor
open Go Go.RowKit

theorem info77 : (Tryd.prog.info? 74).map (fun i => (i.zero, i.size, i.bytes)) = some (some (.int .u64 0), 1, 8) := by kernel_rfl
theorem info83 : (Tryd.prog.info? 96).map (fun i => (i.zero, i.size, i.bytes)) = some (some (.int .u32 0), 1, 4) := by kernel_rfl
theorem info5 : (Tryd.prog.info? 5).map (fun i => (i.zero, i.size, i.bytes)) = some (some (.int .u8 0), 1, 1) := by kernel_rfl
theorem made_one (k : IntKind) (n : Nat) : madeCells #[.int k 0] n = Array.replicate n (.int k 0) := by
  apply Array.ext
  · simp [size_madeCells]
  · intro i h1 h2
    simp [madeCells, Nat.mod_one]
/-- A row that 'make' has laid whole. -/
theorem made_row {w : World} {base g n : Nat} {e : TypeId} {k : IntKind} (h : w.ownsRow base e 1 (.slice (some ⟨g, 0, none⟩) n n) n (madeCells #[.int k 0] n).toList) :
    w.heap[g]? = some (.cells (List.replicate n (.int k 0)).toArray e (0, 0)) := by
  obtain ⟨_, h | ⟨g', cp, cur, hv, _, hh, _, _, hcs, htk⟩⟩ := h
  · simp at h
  · simp only [Value.slice.injEq, Option.some.injEq, Addr.mk.injEq, true_and, and_true] at hv
    obtain ⟨rfl, rfl⟩ := hv
    rw [made_one, List.take_of_length_le (by simp [hcs])] at htk
    have e : cur = (List.replicate n (Value.int k 0)).toArray := by
      apply Array.toList_inj.1
      rw [htk]; simp
    rw [hh, e]
theorem wrap_mul64 (a b : Nat) (h : a * b < 18446744073709551616) : IntKind.u64.wrap ((a : Int) * (b : Int)) = ((a * b : Nat) : Int) := by
  rw [IntKind.wrap_u64, ← Int.natCast_mul]
  omega
theorem mul_lt64 (a b : Nat) (ha : a < 4294967296) (hb : b < 4294967296) : a * b < 18446744073709551616 := by
  have h1 : a * b ≤ 4294967295 * 4294967295 := Nat.mul_le_mul (by omega) (by omega)
  omega

theorem val_take (V : List Nat) (k : Nat) (h : k < V.length) : val (V.take (k + 1)) = val (V.take k) + V.getD k 0 * 4294967296 ^ k := by
  rw [List.take_succ_eq_append_getElem h, val_append, List.length_take, Nat.min_eq_left (by omega)]
  simp [val, h, Nat.mul_comm]
theorem times_bound (V : List Nat) (k n t : Nat) (hd : ∀ d ∈ V, d < 4294967296) (hk : k < n) (hn : n = V.length) (ht : t < 274877906944) : val (V.take (k + 1)) * t < 4294967296 ^ (n + 2) := by
  have h1 := val_lt (V.take (k + 1)) (fun d h => hd d (List.mem_of_mem_take h))
  rw [List.length_take, Nat.min_eq_left (by omega)] at h1
  have h2 : 4294967296 ^ (k + 1) ≤ 4294967296 ^ n := Nat.pow_le_pow_right (by decide) hk
  have h3 : val (V.take (k + 1)) * t ≤ 4294967296 ^ n * t := Nat.mul_le_mul_right _ (by omega)
  have h4 : 4294967296 ^ n * t < 4294967296 ^ n * 4294967296 ^ 2 := Nat.mul_lt_mul_of_pos_left (by omega) (Nat.pow_pos (by decide))
  rw [Nat.pow_add]
  omega
theorem two_parts (a lo hi P : Nat) : a * lo * P + a * hi * (P * 4294967296) = a * P * (lo + 4294967296 * hi) := by
  rw [Nat.mul_add, Nat.mul_right_comm a lo P, Nat.mul_right_comm a hi]
  congr 1
  rw [← Nat.mul_assoc a P, Nat.mul_assoc (a * P), Nat.mul_comm 4294967296 hi]

set_option maxHeartbeats 400000 in
set_option maxRecDepth 100000 in
theorem times_any (sb cap : Nat) (V : List Nat) (t : Nat) (w : World) (hsb : sb < w.heap.size) (hc : ∀ j, j < V.length → w.cell? ⟨sb, j, none⟩ = some (ud (V.getD j 0)))
    (hd : ∀ d ∈ V, d < 4294967296) (ht : t < 274877906944) (hl : V.length < 100) :
    Calls Tryd.prog 133 #[.slice (some ⟨sb, 0, none⟩) V.length cap, .int .u64 (t : Int)] w fun e w' =>
      ∃ U : List Nat, U.length = V.length + 2 ∧ (∀ d ∈ U, d < 4294967296) ∧ val U = val V * t ∧ e = .returned (.slice (some ⟨w.heap.size, 0, none⟩) (V.length + 2) (V.length + 2)) ∧
        w'.heap[w.heap.size]? = some (.cells (U.map ud).toArray 74 (0, 0)) ∧ w.grownBy w' none := by
  obtain ⟨n, hn⟩ : ∃ n, n = V.length := ⟨_, rfl⟩
  have HC : Hid _ := hc
  have HD : Hid _ := hd
  rw [← hn]
  rw [← hn] at hl
  have HN : Hid (n = V.length) := hn
  clear hc hd hn
  obtain ⟨lo, hi, hlo, hhi, hlo2, hhi2, htt⟩ : ∃ lo hi : Nat, (t : Int) % 4294967296 = (lo : Int) ∧ (t : Int) / 4294967296 = (hi : Int) ∧ lo < 4294967296 ∧ hi < 64 ∧ t = lo + 4294967296 * hi :=
    ⟨t % 4294967296, t / 4294967296, by omega, by omega, by omega, by omega, by omega⟩
  have HTT : Hid (t = lo + 4294967296 * hi) := htt
  clear htt
  obtain ⟨i0, hi0, hz0, hz1, hz2⟩ := info_parts info77
  go_enter Tryd.func133, Tryd.ntmps133
  go_wp2_with (at_make; refine wpList_make_full _ rfl _ _ 116 rfl w.heap.size 74 i0 (.int .u64 0) 1 Tryd.underlying116 hi0 hz0 hz1 _ _ _ _ (n + 2) rfl rfl (by omega) (by omega) ?b2 ?b3 (Nat.le_refl _) ?_)
  case b2 => rw [hz2]; omega
  case b3 => unfold maxLen; omega
  intro w1 hown hG1
  have hrow1 : w1.heap[w.heap.size]? = some (.cells ((List.replicate (n + 2) 0).map ud).toArray 74 (0, 0)) := by
    have h := made_row hown
    rw [h, List.map_replicate]
    rfl
  clear hown
  go_wp2
  go_loopw [8] (fun vi wr => ∃ (k : Nat) (U : List Nat), k ≤ n ∧ vi = .int .i64 (k : Int) ∧ Hid (U.length = n + 2) ∧ Hid (∀ d ∈ U, d < 4294967296) ∧ Hid (val U = val (V.take k) * t) ∧
      wr.heap[w.heap.size]? = some (.cells (U.map ud).toArray 74 (0, 0)) ∧ w.grownBy wr none)
    (fun vi _ => n - (intOf vi).toNat)
  case atStart => exact ⟨0, List.replicate (n + 2) 0, by omega, rfl, List.length_replicate, fun d hd => by simp at hd; omega, (by rw [val_zero, List.take_zero, val, Nat.zero_mul] : val (List.replicate (n + 2) 0) = val (V.take 0) * t), hrow1, hG1⟩
  case round =>
    obtain ⟨k, U, hk, rfl, hU, hD, hT, hrow, hG⟩ := hrel
    clear hrow1 hG1
    by_cases hlt : k < n
    · have hca : wr.cell? ⟨sb, k, none⟩ = some (ud (V.getD k 0)) := (gr_cell hG (p := ⟨sb, k, none⟩) hsb).trans (HC.out k (by rw [← HN.out]; exact hlt))
      have hal : V.getD k 0 < 4294967296 := by
        refine HD.out _ ?_
        rw [List.getD_eq_getElem?_getD, List.getElem?_eq_getElem (by rw [← HN.out]; omega)]
        exact List.getElem_mem _
      have hval : Hid (val (V.take (k + 1)) = val (V.take k) + V.getD k 0 * 4294967296 ^ k) := val_take V k (by rw [← HN.out]; exact hlt)
      have hbd : Hid (val (V.take (k + 1)) * t < 4294967296 ^ (n + 2)) := times_bound V k n t HD.out hlt HN.out ht
      generalize eA : V.getD k 0 = aa at hca hal hval
      clear eA
      have hm1 := wrap_mul64 aa lo (mul_lt64 _ _ hal hlo2)
      have hm2 := wrap_mul64 aa hi (mul_lt64 _ _ hal (by omega))
      have htot : Hid (val U + aa * lo * 4294967296 ^ k + aa * hi * 4294967296 ^ (k + 1) = val (V.take (k + 1)) * t) := by
        show _ = _
        rw [Nat.pow_succ, hT.out, hval.out, Nat.add_mul, Nat.add_assoc, two_parts, ← HTT.out]
      have ha1 := add_any w.heap.size 74 U k (aa * lo) wr hrow hD.out (mul_lt64 _ _ hal hlo2) (by rw [hU.out]; omega) (by rw [hU.out]; have h1 := htot.out; have h2 := hbd.out; omega)
      rw [hU.out] at ha1
      have i2 : (k : Int) < (n : Int) := by omega
      go_wp2_with fail
      refine ha1.mono ?_
      rintro e w2 ⟨rfl, U2, hU2, hD2, hT2, hrow2, hG2⟩
      have HCA : Hid (wr.cell? ⟨sb, k, none⟩ = some (ud aa)) := hca
      clear ha1 hrow hca
      have hG02 : w.grownBy w2 none := gr_some hG hG2 (Nat.le_refl _)
      have hca : w2.cell? ⟨sb, k, none⟩ = some (ud aa) := (World.cell?_of_block (w := wr) (hG2.block sb (by have := hG.size; omega) (by simp; omega))).trans HCA.out
      have ha2 := add_any w.heap.size 74 U2 (k + 1) (aa * hi) w2 hrow2 hD2 (mul_lt64 _ _ hal (by omega)) (by rw [hU2]; omega) (by rw [hU2, hT2]; have h1 := htot.out; have h2 := hbd.out; omega)
      rw [hU2] at ha2
      have HU2 : Hid _ := hU2
      have HT2 : Hid _ := hT2
      clear hU2 hT2 hG2
      go_wp2_with fail
      refine ha2.mono ?_
      rintro e w3 ⟨rfl, U3, hU3, hD3, hT3, hrow3, hG3⟩
      clear ha2 hrow2 hca
      have hG03 : w.grownBy w3 none := gr_some hG02 hG3 (Nat.le_refl _)
      have HT3 : Hid (val U3 = val (V.take (k + 1)) * t) := by
        show _ = _
        rw [hT3, HT2.out, ← htot.out]
      have HU3 : Hid _ := hU3
      clear hT3 hU3 hG3
      go_wp2_with fail
      exact ⟨⟨k + 1, U3, by omega, by go_num, HU3, hD3, HT3, hrow3, hG03⟩, by simp [intOf]; omega⟩
    · have hkn : k = n := by omega
      have hge : decide (k < n) = false := by simp; omega
      have HT' : Hid (val U = val V * t) := by
        show _ = _
        rw [hT.out, hkn, HN.out, List.take_length]
      clear hkn hlt
      go_wp2
      go_ret
      exact ⟨U, hU.out, hD.out, HT'.out, rfl, hrow, hG⟩
end Go.Proofs.YtplhlhjakapaaaaDoor

namespace Go.Proofs.YtplhlhjakapaaaaDoor
open Go Go.RowKit

theorem val_split (V : List Nat) (k : Nat) (h : k < V.length) : val V = val (V.take k) + 4294967296 ^ k * (V.getD k 0 + 4294967296 * val (V.drop (k + 1))) := by
  have h1 : V = V.take k ++ (V.getD k 0 :: V.drop (k + 1)) := by
    rw [show V.getD k 0 = V[k] by simp [h], List.getElem_cons_drop, List.take_append_drop]
  have h2 : val V = val (V.take k ++ (V.getD k 0 :: V.drop (k + 1))) := congrArg val h1
  rw [h2, val_append, List.length_take, Nat.min_eq_left (by omega), val]
theorem cmp_lt (V D : List Nat) (k : Nat) (hl : V.length = D.length) (hk : k < V.length) (hV : ∀ d ∈ V, d < 4294967296) (hs : V.drop (k + 1) = D.drop (k + 1)) (h : V.getD k 0 < D.getD k 0) : val V < val D := by
  rw [val_split V k hk, val_split D k (by omega), ← hs]
  have h1 := val_lt (V.take k) (fun d hd => hV d (List.mem_of_mem_take hd))
  rw [List.length_take, Nat.min_eq_left (by omega)] at h1
  have h2 : 4294967296 ^ k * (V.getD k 0 + 4294967296 * val (V.drop (k + 1)) + 1) ≤ 4294967296 ^ k * (D.getD k 0 + 4294967296 * val (V.drop (k + 1))) := Nat.mul_le_mul_left _ (by omega)
  rw [Nat.mul_add _ _ 1, Nat.mul_one] at h2
  omega
theorem drop_step (V D : List Nat) (k : Nat) (hV : k < V.length) (hD : k < D.length) (h : V.getD k 0 = D.getD k 0) (hs : V.drop (k + 1) = D.drop (k + 1)) : V.drop k = D.drop k := by
  rw [List.drop_eq_getElem_cons hV, List.drop_eq_getElem_cons hD, hs]
  simp [hV, hD] at h
  rw [h]

/-- What the digits of p and noughts are. -/
def lowD (k p j : Nat) : List Nat := List.replicate k 0 ++ (p :: List.replicate j 0)
theorem length_lowD (k p j : Nat) : (lowD k p j).length = k + 1 + j := by simp [lowD]; omega
theorem val_lowD (k p j : Nat) : val (lowD k p j) = p * 4294967296 ^ k := by
  rw [lowD, val_append, val_zero, val, val_zero, List.length_replicate]
  simp [Nat.mul_comm]
theorem lowD_snoc (k p j : Nat) : lowD k p j ++ [0] = lowD k p (j + 1) := by
  simp [lowD, List.replicate_succ']
/-- A row that is owned and not empty, laid open. -/
theorem owned {w : World} {base n : Nat} {e : TypeId} {v : Value} {xs : List Value} (h : w.ownsRow base e 1 v n xs) (hn : 0 < n) :
    ∃ g cap, v = .slice (some ⟨g, 0, none⟩) n cap ∧ base ≤ g ∧ g < w.heap.size ∧ n ≤ cap ∧ ∀ j, j < n → w.cell? ⟨g, j, none⟩ = xs[j]? := by
  obtain ⟨hl, h | ⟨g, cap, cur, hv, hb, hh, h1, h2, h3, h4⟩⟩ := h
  · omega
  · refine ⟨g, cap, hv, hb, (Array.getElem?_eq_some_iff.1 hh).1, h1, fun j hj => ?_⟩
    rw [cell_of_row w _ _ _ _ _ hh, ← h4, Nat.mul_one, List.getElem?_take, if_pos hj]
    simp

set_option maxHeartbeats 1000000 in
set_option maxRecDepth 100000 in
theorem below_any (t p m : Nat) (w : World) (ht : t < 274877906944) (hp : p < 4294967296) (hm1 : 1 ≤ m) (hm2 : m ≤ 3) :
    Calls Tryd.prog 101 #[.int .u64 (t : Int), .int .u64 (p : Int), .int .i64 (m : Int)] w fun e w' => e = .returned (.bool (decide (t ^ m ≤ p * 4294967296 ^ m))) ∧ w.grownBy w' none := by
  obtain ⟨R, hR⟩ : ∃ R, R = decide (t ^ m ≤ p * 4294967296 ^ m) := ⟨_, rfl⟩
  rw [← hR]
  have HR : Hid (R = decide (t ^ m ≤ p * 4294967296 ^ m)) := hR
  clear hR
  obtain ⟨i0, hi0, hz0, hz1, hz2⟩ := info_parts info77
  go_enter Tryd.func101, Tryd.ntmps101
  go_wp2
  go_loopw [7, 8] (fun v i wr => ∃ (k g : Nat) (U : List Nat), k ≤ m ∧ i = .int .i64 (k : Int) ∧ v = .slice (some ⟨g, 0, none⟩) (1 + 2 * k) (1 + 2 * k) ∧ Hid (U.length = 1 + 2 * k) ∧ Hid (∀ d ∈ U, d < 4294967296) ∧ Hid (val U = t ^ k) ∧
      wr.heap[g]? = some (.cells (U.map ud).toArray 74 (0, 0)) ∧ w.heap.size ≤ g ∧ w.grownBy wr none)
    (fun _ i _ => m - (intOf i).toNat)
  case atStart => exact ⟨0, w.heap.size, [1], by omega, rfl, rfl, rfl, fun d hd => by simp at hd; omega, (rfl : val [1] = t ^ 0), heap_alloc_new _ _, Nat.le_refl _, gr_alloc _ _⟩
  case round =>
    obtain ⟨k, g, U, hk, rfl, rfl, hU, hD, hT, hrow, hg, hG⟩ := hrel
    have hgs : g < wr.heap.size := (Array.getElem?_eq_some_iff.1 hrow).1
    by_cases hlt : k < m
    · have hti := times_any g (1 + 2 * k) U t wr hgs (fun j hj => by
          rw [cell_of_row wr _ _ _ _ _ hrow, List.getElem?_toArray, List.getElem?_map, List.getElem?_eq_getElem hj]
          simp [hj]) hD.out ht (by rw [hU.out]; omega)
      rw [hU.out] at hti
      go_wp2_with fail
      refine hti.mono ?_
      rintro e w2 ⟨U2, hU2, hD2, hT2, rfl, hrow2, hG2⟩
      have HU2 : Hid (U2.length = 1 + 2 * (k + 1)) := by show _ = _; omega
      have HT2 : Hid (val U2 = t ^ (k + 1)) := by show _ = _; rw [hT2, hT.out, Nat.pow_succ]
      have hG02 := gr_trans hG hG2
      have hgr : w.heap.size ≤ wr.heap.size := hG.size
      clear hti hU2 hT2 hG2 hrow
      go_wp2_with fail
      exact ⟨⟨k + 1, wr.heap.size, U2, by omega, by go_num, by rw [show 1 + 2 * (k + 1) = 1 + 2 * k + 2 by omega], HU2, hD2, HT2, hrow2, hgr, hG02⟩, by simp [intOf]; omega⟩
    · have hkm : k = m := by omega
      subst hkm
      have hge : decide (k < k) = false := by simp
      clear hlt hk
      go_wp2_with (at_make; refine wpList_make_full _ rfl _ _ 116 rfl wr.heap.size 74 i0 (.int .u64 0) 1 Tryd.underlying116 hi0 hz0 hz1 _ _ _ _ k rfl rfl (by omega) (by omega) ?b2 ?b3 (Nat.le_refl _) ?_)
      case b2 => rw [hz2]; omega
      case b3 => unfold maxLen; omega
      intro w1 hown hG1
      go_wp2_with (at_builtin; refine wpList_append_own _ rfl _ _ 116 rfl wr.heap.size 74 i0 (.int .u64 0) 1 8 Tryd.underlying116 hi0 hz0 hz1 hz2 rfl (by decide) _ _ _ rfl (hown.alloc _) ⟨w1.heap.size, 0, none⟩ 1 1 [ud p] rfl rfl ?c1 ?c2 ?c3 ?c4 ?c5 ?_)
      case c1 =>
        intro j u hj
        match j, hj with
        | 0, hj => simp at hj; subst hj; simp [Addr.add]
      case c2 => intro u hu; simp at hu; subst hu; rfl
      case c3 => unfold maxLen; omega
      case c4 => omega
      case c5 => have := hG1.size; simp; omega
      intro v2 w2 hown2 hG2 _
      have hmade : (madeCells #[Value.int IntKind.u64 0] k).toList ++ [ud p] = (lowD k p 0).map ud := by
        rw [made_one]; simp [lowD]
      rw [hmade] at hown2
      have hrow1 : w1.heap[g]? = some (.cells (U.map ud).toArray 74 (0, 0)) := (hG1.block g hgs (by simp)).trans hrow
      have hs1 : wr.heap.size ≤ w1.heap.size := hG1.size
      have hG2' : w1.grownBy w2 (some wr.heap.size) := ⟨hG2.os, hG2.tape, hG2.output, by have := hG2.size; simp at this; omega, fun j hj hne =>
        (hG2.block j (by simp; omega) hne).trans (Below.heap_alloc _ _ _ hj)⟩
      have hrow2 : w2.heap[g]? = some (.cells (U.map ud).toArray 74 (0, 0)) := (hG2'.block g (by omega) (by simp; omega)).trans hrow1
      have hG02 : w.grownBy w2 none := gr_some (gr_trans hG hG1) hG2' (by have := hG.size; omega)
      obtain ⟨g2, cap2, rfl, hg2, hg2s, hcap2, _⟩ := owned hown2 (by omega)
      clear hmade hown hG2 hG2' hrow1 hrow hG1 hG hge
      have hlen : decide ((1 : Int) + 2 * (k : Int) < (k : Int) + 1) = false := by simp; omega
      go_wp2
      refine wp_loop_once ?_
      go_wp2
      go_loopw [9] (fun b ws => ∃ j g2 cap2, j ≤ k ∧ b = .slice (some ⟨g2, 0, none⟩) (k + 1 + j) cap2 ∧ ws.ownsRow wr.heap.size 74 1 b (k + 1 + j) ((lowD k p j).map ud) ∧ ws.heap[g]? = some (.cells (U.map ud).toArray 74 (0, 0)) ∧ w.grownBy ws none)
        (fun b _ => match b with | .slice _ n _ => 1 + 2 * k - n | _ => 0)
      case atStart => exact ⟨0, g2, cap2, by omega, rfl, hown2, hrow2, hG02⟩
      case round =>
        obtain ⟨j, g3, cap3, hj, rfl, hown3, hrow3, hG3⟩ := hrel
        clear hown2 hrow2 hG02 hg2 hg2s hcap2
        obtain ⟨g3', cap3', e3, hg3, hg3s, hcap3, hcell3⟩ := owned hown3 (by omega)
        obtain ⟨rfl, rfl⟩ : g3 = g3' ∧ cap3 = cap3' := by simpa using e3
        clear e3
        by_cases hlt : j < k
        · have htst : decide ((k : Int) + 1 + (j : Int) < 1 + 2 * (k : Int)) = true := by simp; omega
          clear hcell3
          go_wp2_with (at_builtin; refine wpList_append_own _ rfl _ _ 116 rfl _ 74 i0 (.int .u64 0) 1 8 Tryd.underlying116 hi0 hz0 hz1 hz2 rfl (by decide) _ _ _ rfl (hown3.alloc _) ⟨wr.heap.size, 0, none⟩ 1 1 [ud 0] rfl rfl ?c1 ?c2 ?c3 ?c4 ?c5 ?_)
          case c1 =>
            intro j u hj
            match j, hj with
            | 0, hj => simp at hj; subst hj; simp [Addr.add]
          case c2 => intro u hu; simp at hu; subst hu; rfl
          case c3 => unfold maxLen; omega
          case c4 => omega
          case c5 => simp; omega
          intro v4 w4 hown4 hG4 _
          have hG4' : wr.grownBy w4 (some g3) := ⟨hG4.os, hG4.tape, hG4.output, by have := hG4.size; simp at this; omega, fun j hj hne =>
            (hG4.block j (by simp; omega) hne).trans (Below.heap_alloc _ _ _ hj)⟩
          have hrow4 : w4.heap[g]? = some (.cells (U.map ud).toArray 74 (0, 0)) := (hG4'.block g (Array.getElem?_eq_some_iff.1 hrow3).1 (by simp; omega)).trans hrow3
          have hG04 : w.grownBy w4 none := gr_some hG3 hG4' (by omega)
          have hsn : (lowD k p j).map ud ++ [ud 0] = (lowD k p (j + 1)).map ud := by rw [← lowD_snoc]; simp
          rw [hsn] at hown4
          obtain ⟨g5, cap5, rfl, hg5, _, _, _⟩ := owned hown4 (by omega)
          clear hsn hG4 hG4' hown3 hrow3 hG3
          go_wp2
          exact ⟨⟨j + 1, g5, cap5, by omega, by rw [show k + 1 + (j + 1) = k + 1 + j + 1 by omega], hown4, hrow4, hG04⟩, by simp; omega⟩
        · have hjk : j = k := by omega
          subst hjk
          have htst : decide ((j : Int) + 1 + (j : Int) < 1 + 2 * (j : Int)) = false := by simp; omega
          clear hlt hj
          go_wp2
          have hDl := length_lowD j p j
          have hDv := val_lowD j p j
          have hDd : ∀ d ∈ lowD j p j, d < 4294967296 := fun d hd => by
            simp only [lowD, List.mem_append, List.mem_replicate, List.mem_cons] at hd
            omega
          generalize lowD j p j = D at hown3 hcell3 hDl hDv hDd
          have HDd : Hid _ := hDd
          clear hDd
          have HDl : Hid _ := hDl
          have HDv : Hid _ := hDv
          have cU : Hid (∀ i, i < 1 + 2 * j → wr.cell? ⟨g, i, none⟩ = some (ud (U.getD i 0))) := fun i hi => by
            rw [cell_of_row wr _ _ _ _ _ hrow3, List.getElem?_toArray, List.getElem?_map, List.getElem?_eq_getElem (by rw [hU.out]; exact hi)]
            simp [hU.out, hi]
          have cD : Hid (∀ i, i < 1 + 2 * j → wr.cell? ⟨g3, i, none⟩ = some (ud (D.getD i 0))) := fun i hi => by
            rw [hcell3 i (by omega), List.getElem?_map, List.getElem?_eq_getElem (by rw [hDl]; omega)]
            have : i < D.length := by omega
            simp [this]
          clear hcell3 hown3 hrow3 hDl hDv htst hlen
          go_loopw [10] (fun i ws => ∃ k : Nat, k ≤ 1 + 2 * j ∧ i = .int .i64 ((k : Int) - 1) ∧ (∃ q, ws = wr.drewN q) ∧ Hid (U.drop k = D.drop k))
            (fun i _ => (intOf i + 1).toNat)
          case atStart => exact ⟨1 + 2 * j, by omega, by go_num, ⟨0, rfl⟩, by show _ = _; rw [List.drop_of_length_le (by rw [hU.out]; omega), List.drop_of_length_le (by rw [HDl.out]; omega)]⟩
          case round =>
            obtain ⟨k, hk, rfl, ⟨q, rfl⟩, hdr⟩ := hrel
            by_cases hk0 : 0 < k
            · have x1 := cU.out (k - 1) (by omega)
              have x2 := cD.out (k - 1) (by omega)
              have tk : ((k : Int) - 1).toNat = k - 1 := by omega
              have b1 : (1 : Int) ≤ (k : Int) := by omega
              have b2 : (k : Int) - 1 < 1 + 2 * (j : Int) := by omega
              have b3 : (k : Int) - 1 < (j : Int) + 1 + (j : Int) := by omega
              generalize eX : U.getD (k - 1) 0 = x at x1
              generalize eY : D.getD (k - 1) 0 = y at x2
              have EX : Hid (U.getD (k - 1) 0 = x) := eX
              have EY : Hid (D.getD (k - 1) 0 = y) := eY
              clear eX eY
              by_cases hxy : x = y
              · subst hxy
                go_wp2
                go_quiet (fail)
                go_wp2
                have hd2 : U.drop (k - 1) = D.drop (k - 1) :=
                  drop_step U D (k - 1) (by rw [hU.out]; omega) (by rw [HDl.out]; omega) (EX.out.trans EY.out.symm) (by rw [show k - 1 + 1 = k by omega]; exact hdr.out)
                exact ⟨⟨k - 1, by omega, by go_num, ⟨_, rfl⟩, hd2⟩, by simp [intOf]; omega⟩
              · have hne : ((x : Int) != (y : Int)) = true := by rw [bne_iff_ne]; omega
                have HRxy : Hid (R = decide (x < y)) := by
                  show _ = _
                  rw [HR.out, ← hT.out, ← HDv.out]
                  have hs' : U.drop (k - 1 + 1) = D.drop (k - 1 + 1) := by rw [show k - 1 + 1 = k by omega]; exact hdr.out
                  have hUl : k - 1 < U.length := by rw [hU.out]; omega
                  have hlD : U.length = D.length := by rw [hU.out, HDl.out]; omega
                  by_cases hlt : x < y
                  · have h1 := cmp_lt U D (k - 1) hlD hUl hD.out hs' (by rw [EX.out, EY.out]; exact hlt)
                    simp [hlt]; omega
                  · have h1 := cmp_lt D U (k - 1) hlD.symm (by omega) HDd.out hs'.symm (by rw [EX.out, EY.out]; omega)
                    simp [hlt]; omega
                go_wp2
                go_quiet (fail)
                go_wp2
                go_quiet (fail)
                go_wp2
                go_ret
                refine ⟨?_, ?_⟩
                · rw [HRxy.out]; rfl
                · exact ⟨hG3.os, hG3.tape, hG3.output, hG3.size, hG3.block⟩
            · have hk00 : k = 0 := by omega
              subst hk00
              have HRt : Hid (R = true) := by
                show _ = _
                have h := hdr.out
                rw [List.drop_zero, List.drop_zero] at h
                rw [HR.out, ← hT.out, ← HDv.out, h]; simp
              clear hk0
              go_wp2
              go_ret
              refine ⟨?_, ?_⟩
              · rw [HRt.out]; rfl
              · exact ⟨hG3.os, hG3.tape, hG3.output, hG3.size, hG3.block⟩
end Go.Proofs.YtplhlhjakapaaaaDoor

namespace Go.Proofs.YtplhlhjakapaaaaDoor
open Go Go.RowKit

/-- The root, found bit by bit: behind k bits. -/
def fr (p m : Nat) : Nat → Nat
  | 0 => 0
  | k + 1 => if (fr p m k + 2 ^ (36 - k)) ^ m ≤ p * 4294967296 ^ m then fr p m k + 2 ^ (36 - k) else fr p m k
theorem fr_le (p m k : Nat) (hk : k ≤ 37) : fr p m k + 2 ^ (37 - k) ≤ 2 ^ 37 := by
  induction k with
  | zero => simp [fr]
  | succ k ih =>
    have := ih (by omega)
    rw [show 37 - k = (36 - k) + 1 by omega, Nat.pow_succ] at this
    rw [show 37 - (k + 1) = 36 - k by omega, fr]
    have hp : 0 < 2 ^ (36 - k) := Nat.pow_pos (by decide)
    split <;> omega

set_option maxHeartbeats 400000 in
set_option maxRecDepth 100000 in
theorem fraction_any (p m : Nat) (w : World) (hp : p < 4294967296) (hm1 : 1 ≤ m) (hm2 : m ≤ 3) :
    Calls Tryd.prog 77 #[.int .u64 (p : Int), .int .i64 (m : Int)] w fun e w' => e = .returned (.int .u32 ((fr p m 37 % 4294967296 : Nat) : Int)) ∧ w.grownBy w' none := by
  go_enter Tryd.func77, Tryd.ntmps77
  go_wp2
  go_loopw [5, 6] (fun r b wr => ∃ k : Nat, k ≤ 37 ∧ r = .int .u64 ((fr p m k : Nat) : Int) ∧ b = .int .i64 (36 - (k : Int)) ∧ w.grownBy wr none)
    (fun _ b _ => (intOf b + 1).toNat)
  case atStart => exact ⟨0, by omega, rfl, rfl, gr_refl _⟩
  case round =>
    obtain ⟨k, hk, rfl, rfl, hG⟩ := hrel
    have hb := fr_le p m k hk
    have HF : Hid (fr p m (k + 1) = if (fr p m k + 2 ^ (36 - k)) ^ m ≤ p * 4294967296 ^ m then fr p m k + 2 ^ (36 - k) else fr p m k) := rfl
    by_cases hlt : k < 37
    · generalize eR : fr p m k = r at hb HF
      have ER : Hid (fr p m k = r) := eR
      clear eR
      have hpos : 0 < 2 ^ (36 - k) := Nat.pow_pos (by decide)
      have hpw : 2 ^ (37 - k) = 2 ^ (36 - k) * 2 := by rw [show 37 - k = (36 - k) + 1 by omega, Nat.pow_succ]
      rw [hpw] at hb
      have hcast : ((2 : Int) ^ (36 - k)) = ((2 ^ (36 - k) : Nat) : Int) := by simp
      have hw : IntKind.u64.wrap ((r : Int) + IntKind.u64.wrap (2 ^ (36 - k))) = ((r + 2 ^ (36 - k) : Nat) : Int) := by
        rw [IntKind.wrap_u64, IntKind.wrap_u64, hcast]
        omega
      have hT : r + 2 ^ (36 - k) < 274877906944 := by omega
      clear hpw hcast hb hpos
      generalize r + 2 ^ (36 - k) = T at HF hw hT
      have hbl := below_any T p m wr hT hp hm1 hm2
      by_cases hle : T ^ m ≤ p * 4294967296 ^ m
      · have HF' : Hid (fr p m (k + 1) = T) := by show _ = _; rw [HF.out, if_pos hle]
        rw [decide_eq_true hle] at hbl
        clear hle HF
        go_wp2_with fail
        refine hbl.mono ?_
        rintro e w2 ⟨rfl, hG2⟩
        have hG02 := gr_trans hG hG2
        clear hbl hG2
        go_wp2_with fail
        exact ⟨⟨k + 1, by omega, by rw [HF'.out], by go_num, hG02⟩, by simp [intOf]; omega⟩
      · have HF' : Hid (fr p m (k + 1) = r) := by show _ = _; rw [HF.out, if_neg hle]
        rw [decide_eq_false hle] at hbl
        clear hle HF
        go_wp2_with fail
        refine hbl.mono ?_
        rintro e w2 ⟨rfl, hG2⟩
        have hG02 := gr_trans hG hG2
        clear hbl hG2
        go_wp2_with fail
        exact ⟨⟨k + 1, by omega, by rw [HF'.out], by go_num, hG02⟩, by simp [intOf]; omega⟩
    · have hk37 : k = 37 := by omega
      subst hk37
      clear hlt hk HF
      clear hb
      go_wp2
      go_ret
      exact ⟨ret_int (by omega), hG⟩
end Go.Proofs.YtplhlhjakapaaaaDoor

/-
  The first primes, and the tables that come of their roots. Plain Lean, my own; the tables by the kernel.
-/
namespace Go.Proofs.YtplhlhjakapaaaaDoor
open Go

/-- The primes among 2, .., j + 1. -/
def pl : Nat → List Nat
  | 0 => []
  | j + 1 => if (pl j).all (fun o => (2 + j) % o != 0) then pl j ++ [2 + j] else pl j
def plA : Nat → Nat → List Nat → List Nat
  | 0, _, l => l
  | n + 1, j, l => plA n (j + 1) (bif l.all (fun o => (2 + j) % o != 0) then l ++ [2 + j] else l)
theorem plA_eq (n j : Nat) : plA n j (pl j) = pl (j + n) := by
  induction n generalizing j with
  | zero => rfl
  | succ n ih =>
    rw [plA, ← Nat.add_assoc, Nat.add_right_comm, ← ih (j + 1), pl]
    congr 1
    cases (pl j).all (fun o => (2 + j) % o != 0) <;> rfl
theorem pl_mono (j n : Nat) : (pl j).length ≤ (pl (j + n)).length := by
  induction n with
  | zero => simp
  | succ n ih =>
    rw [← Nat.add_assoc, pl]
    split
    · simp; omega
    · exact ih
theorem pl_mem (j o : Nat) (h : o ∈ pl j) : 2 ≤ o ∧ o < 2 + j := by
  induction j with
  | zero => simp [pl] at h
  | succ j ih =>
    rw [pl] at h
    split at h
    · rcases List.mem_append.1 h with h | h
      · have := ih h; omega
      · simp at h; omega
    · have := ih h; omega
def PS : List Nat := [2,3,5,7,11,13,17,19,23,29,31,37,41,43,47,53,59,61,67,71,73,79,83,89,97,101,103,107,109,113,127,131,137,139,149,151,157,163,167,173,179,181,191,193,197,199,211,223,227,229,233,239,241,251,257,263,269,271,277,281,283,293,307,311]
theorem pl_309 : (pl 309).length = 63 := by
  have h := plA_eq 309 0
  rw [Nat.zero_add] at h
  rw [← h]
  show (plA 309 0 []).length = 63
  decide +kernel
theorem pl_310 : pl 310 = PS := by
  have h := plA_eq 310 0
  rw [Nat.zero_add] at h
  rw [← h]
  show plA 310 0 [] = PS
  decide +kernel
theorem pl_lt (j : Nat) (h : j < 310) : (pl j).length < 64 := by
  have := pl_mono j (309 - j)
  rw [show j + (309 - j) = 309 by omega, pl_309] at this
  omega

def frA (p m : Nat) : Nat → Nat → Nat → Nat
  | 0, _, r => r
  | n + 1, k, r => frA p m n (k + 1) (bif Nat.ble ((r + 2 ^ (36 - k)) ^ m) (p * 4294967296 ^ m) then r + 2 ^ (36 - k) else r)
theorem frA_eq (p m n k : Nat) : frA p m n k (fr p m k) = fr p m (k + n) := by
  induction n generalizing k with
  | zero => rfl
  | succ n ih =>
    rw [frA, ← Nat.add_assoc, Nat.add_right_comm, ← ih (k + 1), fr]
    congr 1
    by_cases h : (fr p m k + 2 ^ (36 - k)) ^ m ≤ p * 4294967296 ^ m
    · rw [if_pos h, Nat.ble_eq_true_of_le h]; rfl
    · rw [if_neg h]
      have : Nat.ble ((fr p m k + 2 ^ (36 - k)) ^ m) (p * 4294967296 ^ m) = false := by
        cases hb : Nat.ble ((fr p m k + 2 ^ (36 - k)) ^ m) (p * 4294967296 ^ m) with
        | false => rfl
        | true => exact absurd (Nat.le_of_ble_eq_true hb) h
      rw [this]; rfl
theorem fr_A (p m : Nat) : fr p m 37 = frA p m 37 0 0 := by
  have h := frA_eq p m 37 0
  rw [Nat.zero_add] at h
  rw [← h]; rfl
theorem ks_ok : PS.map (fun p => frA p 3 37 0 0 % 4294967296) = KS.map BitVec.toNat := by decide +kernel
theorem h0_ok : (PS.take 8).map (fun p => frA p 2 37 0 0 % 4294967296) = H0.list.map BitVec.toNat := by decide +kernel
theorem ks_at (i : Nat) (h : i < 64) : fr (PS.getD i 0) 3 37 % 4294967296 = (KS.getD i 0).toNat := by
  have h1 : (PS.map (fun p => frA p 3 37 0 0 % 4294967296))[i]? = (KS.map BitVec.toNat)[i]? := by rw [ks_ok]
  have l1 : PS.length = 64 := rfl
  have l2 : KS.length = 64 := rfl
  rw [List.getElem?_map, List.getElem?_map, List.getElem?_eq_getElem (by omega), List.getElem?_eq_getElem (by omega)] at h1
  simp only [Option.map_some, Option.some.injEq] at h1
  rw [fr_A]
  simp [l1, l2, h, h1]
theorem h0_at (i : Nat) (h : i < 8) : fr (PS.getD i 0) 2 37 % 4294967296 = (H0.list.getD i 0).toNat := by
  have h1 : ((PS.take 8).map (fun p => frA p 2 37 0 0 % 4294967296))[i]? = (H0.list.map BitVec.toNat)[i]? := by rw [h0_ok]
  have l1 : PS.length = 64 := rfl
  have l2 : H0.list.length = 8 := rfl
  rw [List.getElem?_map, List.getElem?_map, List.getElem?_take, if_pos h, List.getElem?_eq_getElem (by omega), List.getElem?_eq_getElem (by omega)] at h1
  simp only [Option.map_some, Option.some.injEq] at h1
  rw [fr_A]
  simp [l1, l2, h, h1, show i < 64 by omega]
end Go.Proofs.YtplhlhjakapaaaaDoor

namespace Go.Proofs.YtplhlhjakapaaaaDoor
open Go Go.RowKit

def okP (j : Nat) (o : Nat) : Bool := (2 + j) % o != 0
theorem pl_succ (j : Nat) : pl (j + 1) = if (pl j).all (okP j) then pl j ++ [2 + j] else pl j := rfl

theorem okP_val (j o : Nat) : ((2 + (j : Int)) % (o : Int) != 0) = okP j o := by
  have e : (2 + (j : Int)) % (o : Int) = (((2 + j) % o : Nat) : Int) := by simp
  rw [e, okP]
  cases h : ((2 + j) % o != 0) with
  | true => rw [bne_iff_ne] at h ⊢; omega
  | false =>
    have h' : (2 + j) % o = 0 := by simpa using h
    rw [h']; rfl
theorem all_prefix (l : List Nat) (f : Nat → Bool) (k : Nat) (h : false = (l.take k).all f) : false = l.all f := by
  rw [← List.take_append_drop k l, List.all_append, ← h]; rfl

set_option maxHeartbeats 1000000 in
set_option maxRecDepth 100000 in
theorem primes_any (w : World) :
    Calls Tryd.prog 76 #[.int .i64 64] w fun e w' => ∃ g cap, e = .returned (.slice (some ⟨g, 0, none⟩) 64 cap) ∧ (∀ j, j < 64 → w'.cell? ⟨g, j, none⟩ = some (ud (PS.getD j 0))) ∧ w.heap.size ≤ g ∧ g < w'.heap.size ∧ w.grownBy w' none := by
  obtain ⟨i0, hi0, hz0, hz1, hz2⟩ := info_parts info77
  go_enter Tryd.func76, Tryd.ntmps76
  go_wp2
  go_loopw [3, 4] (fun out v wr => ∃ j n sp cap, j ≤ 310 ∧ n ≤ 64 ∧ Hid (n = (pl j).length) ∧ out = .slice sp n cap ∧ v = .int .u64 (2 + (j : Int)) ∧ wr.ownsRow w.heap.size 74 1 (.slice sp n cap) n ((pl j).map ud) ∧ w.grownBy wr none)
    (fun _ v _ => 312 - (intOf v).toNat)
  case atStart => exact ⟨0, 0, none, 0, by omega, by omega, rfl, rfl, rfl, World.ownsRow_nil _ _ _ _, gr_refl _⟩
  case round =>
    obtain ⟨j, n, sp, cap, hj, hn64, hn, rfl, rfl, hown, hG⟩ := hrel
    by_cases hlt : j < 310
    · have hn63 : n < 64 := by rw [hn.out]; exact pl_lt j hlt
      have hi64 : (n : Int) < 64 := by omega
      go_wp2
      go_loopw [5, 6] (fun b i ws => ∃ (k : Nat) (bb : Bool), k ≤ n ∧ i = .int .i64 (k : Int) ∧ b = .bool bb ∧ Hid (bb = ((pl j).take k).all (okP j)) ∧ ws = wr)
        (fun _ i _ => n - (intOf i).toNat)
      case atStart => exact ⟨0, true, by omega, rfl, rfl, rfl, rfl⟩
      case round =>
        obtain ⟨k, bb, hk, rfl, rfl, hbb, rfl⟩ := hrel
        by_cases hgo : k < n ∧ bb = true
        · obtain ⟨hkn, rfl⟩ := hgo
          obtain ⟨g, cap', e1, hgb, hgs, hcap, hcell⟩ := owned hown (by omega)
          obtain ⟨rfl, rfl⟩ : sp = some ⟨g, 0, none⟩ ∧ cap = cap' := by simpa using e1
          have hc : wr.cell? ⟨g, k, none⟩ = some (ud ((pl j).getD k 0)) := by
            rw [hcell k hkn, List.getElem?_map, List.getElem?_eq_getElem (by rw [← hn.out]; exact hkn)]
            have : k < (pl j).length := by rw [← hn.out]; exact hkn
            simp [this]
          have hmem : (pl j).getD k 0 ∈ pl j := by
            have : k < (pl j).length := by rw [← hn.out]; exact hkn
            rw [List.getD_eq_getElem?_getD, List.getElem?_eq_getElem this]
            exact List.getElem_mem _
          obtain ⟨ho1, ho2⟩ := pl_mem j _ hmem
          have HN : Hid (((pl j).take (k + 1)).all (okP j) = okP j ((pl j).getD k 0)) := by
            show _ = _
            have hk' : k < (pl j).length := by rw [← hn.out]; exact hkn
            rw [List.take_succ_eq_append_getElem hk', List.all_append, ← hbb.out]
            simp [hk']
          generalize eO : (pl j).getD k 0 = o at hc ho1 ho2 HN
          clear hcell e1 hmem eO
          go_wp2
          rw [okP_val]
          exact ⟨⟨k + 1, okP j o, by omega, by go_num, rfl, HN.out.symm, trivial⟩, by simp [intOf]; omega⟩
        · have hB : Hid (bb = (pl j).all (okP j)) := by
            show _ = _
            by_cases hkn : k < n
            · have hf : bb = false := by cases bb <;> simp_all
              subst hf
              exact all_prefix _ _ _ hbb.out
            · rw [hbb.out, List.take_of_length_le (by rw [← hn.out]; omega)]
          have hcases : (decide (k < n) = false ∧ k = n) ∨ (k < n ∧ bb = false) := by
            by_cases hkn : k < n
            · right; refine ⟨hkn, ?_⟩; cases bb <;> simp_all
            · left; simp; omega
          clear hgo hbb
          cases bb with
          | false =>
            have HP : Hid (pl (j + 1) = pl j) := by
              show _ = _
              rw [pl_succ, ← hB.out]; rfl
            have HN2 : Hid (n = (pl (j + 1)).length) := by show _ = _; rw [HP.out]; exact hn.out
            rcases hcases with ⟨h1, h2⟩ | ⟨h1, _⟩
            · have h1' : ¬ k < n := by omega
              clear h2
              go_wp2
              exact ⟨⟨j + 1, n, sp, cap, by omega, hn64, HN2, rfl, by go_num, by rw [HP.out]; exact hown, hG⟩, by simp [intOf]; omega⟩
            · go_wp2
              exact ⟨⟨j + 1, n, sp, cap, by omega, hn64, HN2, rfl, by go_num, by rw [HP.out]; exact hown, hG⟩, by simp [intOf]; omega⟩
          | true =>
            have HP : Hid (pl (j + 1) = pl j ++ [2 + j]) := by
              show _ = _
              rw [pl_succ, ← hB.out]; rfl
            have HN2 : Hid (n + 1 = (pl (j + 1)).length) := by show _ = _; rw [HP.out, List.length_append, ← hn.out]; rfl
            have h1 : decide (k < n) = false := by rcases hcases with ⟨h1, _⟩ | ⟨_, h2⟩ <;> simp_all
            have h1' : ¬ k < n := by simpa using h1
            clear hcases
            go_wp2_with (at_builtin; refine wpList_append_own _ rfl _ _ 116 rfl w.heap.size 74 i0 (.int .u64 0) 1 8 Tryd.underlying116 hi0 hz0 hz1 hz2 rfl (by decide) _ _ _ rfl (hown.alloc _) ⟨wr.heap.size, 0, none⟩ 1 1 [.int .u64 (2 + (j : Int))] rfl rfl ?c1 ?c2 ?c3 ?c4 ?c5 ?_)
            case c1 =>
              intro j u hj
              match j, hj with
              | 0, hj => simp at hj; subst hj; simp [Addr.add]
            case c2 => intro u hu; simp at hu; subst hu; rfl
            case c3 => unfold maxLen; omega
            case c4 => omega
            case c5 => have := hG.size; simp; omega
            intro v4 w4 hown4 hG4 _
            have hG04 : w.grownBy w4 none := by
              have hlt0 := (hown.lt)
              exact ⟨hG4.os.trans hG.os, hG4.tape.trans hG.tape, hG4.output.trans hG.output, by have a := hG4.size; have b := hG.size; simp at a; omega, fun i hi _ =>
                (hG4.block i (by have := hG.size; simp; omega) (fun e => by have := (hlt0 i e.symm).1; omega)).trans ((Below.heap_alloc _ _ _ (by have := hG.size; omega)).trans (hG.block i hi (by simp)))⟩
            have hsn : (pl j).map ud ++ [.int .u64 (2 + (j : Int))] = (pl (j + 1)).map ud := by rw [HP.out]; simp
            rw [hsn] at hown4
            obtain ⟨g5, cap5, rfl, hg5, _, _, _⟩ := owned hown4 (by omega)
            clear hsn hG4 hown hG
            go_wp2
            exact ⟨⟨j + 1, n + 1, some ⟨g5, 0, none⟩, cap5, by omega, by omega, HN2, rfl, by go_num, hown4, hG04⟩, by simp [intOf]; omega⟩
    · have hj310 : j = 310 := by omega
      subst hj310
      have hn64' : n = 64 := by rw [hn.out, pl_310]; rfl
      subst hn64'
      obtain ⟨g, cap', e1, hgb, hgs, hcap, hcell⟩ := owned hown (by omega)
      obtain ⟨rfl, rfl⟩ : sp = some ⟨g, 0, none⟩ ∧ cap = cap' := by simpa using e1
      rw [pl_310] at hcell
      have HC : Hid _ := hcell
      clear hcell e1 hown hlt hn
      go_wp2
      go_ret
      refine ⟨g, cap, rfl, fun j hj => ?_, hgb, hgs, hG⟩
      rw [HC.out j hj, List.getElem?_map, List.getElem?_eq_getElem (by show _ < 64; exact hj)]
      have : j < PS.length := hj
      simp [this]
end Go.Proofs.YtplhlhjakapaaaaDoor
