import Derived.Test.YtjgmmdgcknnlpaaDoorAdd
import Derived.OwnWalk
namespace Go.Proofs.YtjgmmdgcknnlpaaDoor
open Go Go.RowKit

theorem info77 : (Tryd.prog.info? 74).map (fun i => (i.zero, i.size, i.bytes)) = some (some (.int .u64 0), 1, 8) := by kernel_rfl
theorem info83 : (Tryd.prog.info? 96).map (fun i => (i.zero, i.size, i.bytes)) = some (some (.int .u32 0), 1, 4) := by kernel_rfl
theorem info5 : (Tryd.prog.info? 5).map (fun i => (i.zero, i.size, i.bytes)) = some (some (.int .u8 0), 1, 1) := by kernel_rfl
theorem made_one (k : IntKind) (n : Nat) : madeCells #[.int k 0] n = Array.replicate n (.int k 0) := by
  apply Array.ext
  · simp [size_madeCells]
  · intro i h1 h2
    simp [madeCells, Nat.mod_one]
/-- A row that 'make' has laid whole. -/
theorem made_row {w : World} {base g n : Nat} {e : TypeId} {k : IntKind} (h : w.ownsRow base e 1 (.slice (some ⟨g, 0, none⟩) n n) n (madeCells #[.int k 0] n).toList) :
    w.heap[g]? = some (.cells (List.replicate n (.int k 0)).toArray e (0, 0)) := by
  obtain ⟨_, h | ⟨g', cp, cur, hv, _, hh, _, _, hcs, htk⟩⟩ := h
  · simp at h
  · simp only [Value.slice.injEq, Option.some.injEq, Addr.mk.injEq, true_and, and_true] at hv
    obtain ⟨rfl, rfl⟩ := hv
    rw [made_one, List.take_of_length_le (by simp [hcs])] at htk
    have e : cur = (List.replicate n (Value.int k 0)).toArray := by
      apply Array.toList_inj.1
      rw [htk]; simp
    rw [hh, e]
theorem wrap_mul64 (a b : Nat) (h : a * b < 18446744073709551616) : IntKind.u64.wrap ((a : Int) * (b : Int)) = ((a * b : Nat) : Int) := by
  rw [IntKind.wrap_u64, ← Int.natCast_mul]
  omega
theorem mul_lt64 (a b : Nat) (ha : a < 4294967296) (hb : b < 4294967296) : a * b < 18446744073709551616 := by
  have h1 : a * b ≤ 4294967295 * 4294967295 := Nat.mul_le_mul (by omega) (by omega)
  omega

theorem val_take (V : List Nat) (k : Nat) (h : k < V.length) : val (V.take (k + 1)) = val (V.take k) + V.getD k 0 * 4294967296 ^ k := by
  rw [List.take_succ_eq_append_getElem h, val_append, List.length_take, Nat.min_eq_left (by omega)]
  simp [val, h, Nat.mul_comm]
theorem times_bound (V : List Nat) (k n t : Nat) (hd : ∀ d ∈ V, d < 4294967296) (hk : k < n) (hn : n = V.length) (ht : t < 274877906944) : val (V.take (k + 1)) * t < 4294967296 ^ (n + 2) := by
  have h1 := val_lt (V.take (k + 1)) (fun d h => hd d (List.mem_of_mem_take h))
  rw [List.length_take, Nat.min_eq_left (by omega)] at h1
  have h2 : 4294967296 ^ (k + 1) ≤ 4294967296 ^ n := Nat.pow_le_pow_right (by decide) hk
  have h3 : val (V.take (k + 1)) * t ≤ 4294967296 ^ n * t := Nat.mul_le_mul_right _ (by omega)
  have h4 : 4294967296 ^ n * t < 4294967296 ^ n * 4294967296 ^ 2 := Nat.mul_lt_mul_of_pos_left (by omega) (Nat.pow_pos (by decide))
  rw [Nat.pow_add]
  omega
theorem two_parts (a lo hi P : Nat) : a * lo * P + a * hi * (P * 4294967296) = a * P * (lo + 4294967296 * hi) := by
  rw [Nat.mul_add, Nat.mul_right_comm a lo P, Nat.mul_right_comm a hi]
  congr 1
  rw [← Nat.mul_assoc a P, Nat.mul_assoc (a * P), Nat.mul_comm 4294967296 hi]

set_option maxHeartbeats 400000 in
set_option maxRecDepth 100000 in
theorem times_any (sb cap : Nat) (V : List Nat) (t : Nat) (w : World) (hsb : sb < w.heap.size) (hc : ∀ j, j < V.length → w.cell? ⟨sb, j, none⟩ = some (ud (V.getD j 0)))
    (hd : ∀ d ∈ V, d < 4294967296) (ht : t < 274877906944) (hl : V.length < 100) :
    Calls Tryd.prog 133 #[.slice (some ⟨sb, 0, none⟩) V.length cap, .int .u64 (t : Int)] w fun e w' =>
      ∃ U : List Nat, U.length = V.length + 2 ∧ (∀ d ∈ U, d < 4294967296) ∧ val U = val V * t ∧ e = .returned (.slice (some ⟨w.heap.size, 0, none⟩) (V.length + 2) (V.length + 2)) ∧
        w'.heap[w.heap.size]? = some (.cells (U.map ud).toArray 74 (0, 0)) ∧ w.grownBy w' none := by
  obtain ⟨n, hn⟩ : ∃ n, n = V.length := ⟨_, rfl⟩
  have HC : Hid _ := hc
  have HD : Hid _ := hd
  rw [← hn]
  rw [← hn] at hl
  have HN : Hid (n = V.length) := hn
  clear hc hd hn
  obtain ⟨lo, hi, hlo, hhi, hlo2, hhi2, htt⟩ : ∃ lo hi : Nat, (t : Int) % 4294967296 = (lo : Int) ∧ (t : Int) / 4294967296 = (hi : Int) ∧ lo < 4294967296 ∧ hi < 64 ∧ t = lo + 4294967296 * hi :=
    ⟨t % 4294967296, t / 4294967296, by omega, by omega, by omega, by omega, by omega⟩
  have HTT : Hid (t = lo + 4294967296 * hi) := htt
  clear htt
  obtain ⟨i0, hi0, hz0, hz1, hz2⟩ := info_parts info77
  go_enter Tryd.func133, Tryd.ntmps133
  go_wp2_with (at_make; refine wpList_make_full _ rfl _ _ 116 rfl w.heap.size 74 i0 (.int .u64 0) 1 Tryd.underlying116 hi0 hz0 hz1 _ _ _ _ (n + 2) rfl rfl (by omega) (by omega) ?b2 ?b3 (Nat.le_refl _) ?_)
  case b2 => rw [hz2]; omega
  case b3 => unfold maxLen; omega
  intro w1 hown hG1
  have hrow1 : w1.heap[w.heap.size]? = some (.cells ((List.replicate (n + 2) 0).map ud).toArray 74 (0, 0)) := by
    have h := made_row hown
    rw [h, List.map_replicate]
    rfl
  clear hown
  go_wp2
  go_loopw [8] (fun vi wr => ∃ (k : Nat) (U : List Nat), k ≤ n ∧ vi = .int .i64 (k : Int) ∧ Hid (U.length = n + 2) ∧ Hid (∀ d ∈ U, d < 4294967296) ∧ Hid (val U = val (V.take k) * t) ∧
      wr.heap[w.heap.size]? = some (.cells (U.map ud).toArray 74 (0, 0)) ∧ w.grownBy wr none)
    (fun vi _ => n - (intOf vi).toNat)
  case atStart => exact ⟨0, List.replicate (n + 2) 0, by omega, rfl, List.length_replicate, fun d hd => by simp at hd; omega, (by rw [val_zero, List.take_zero, val, Nat.zero_mul] : val (List.replicate (n + 2) 0) = val (V.take 0) * t), hrow1, hG1⟩
  case round =>
    obtain ⟨k, U, hk, rfl, hU, hD, hT, hrow, hG⟩ := hrel
    clear hrow1 hG1
    by_cases hlt : k < n
    · have hca : wr.cell? ⟨sb, k, none⟩ = some (ud (V.getD k 0)) := (gr_cell hG (p := ⟨sb, k, none⟩) hsb).trans (HC.out k (by rw [← HN.out]; exact hlt))
      have hal : V.getD k 0 < 4294967296 := by
        refine HD.out _ ?_
        rw [List.getD_eq_getElem?_getD, List.getElem?_eq_getElem (by rw [← HN.out]; omega)]
        exact List.getElem_mem _
      have hval : Hid (val (V.take (k + 1)) = val (V.take k) + V.getD k 0 * 4294967296 ^ k) := val_take V k (by rw [← HN.out]; exact hlt)
      have hbd : Hid (val (V.take (k + 1)) * t < 4294967296 ^ (n + 2)) := times_bound V k n t HD.out hlt HN.out ht
      generalize eA : V.getD k 0 = aa at hca hal hval
      clear eA
      have hm1 := wrap_mul64 aa lo (mul_lt64 _ _ hal hlo2)
      have hm2 := wrap_mul64 aa hi (mul_lt64 _ _ hal (by omega))
      have htot : Hid (val U + aa * lo * 4294967296 ^ k + aa * hi * 4294967296 ^ (k + 1) = val (V.take (k + 1)) * t) := by
        show _ = _
        rw [Nat.pow_succ, hT.out, hval.out, Nat.add_mul, Nat.add_assoc, two_parts, ← HTT.out]
      have ha1 := add_any w.heap.size 74 U k (aa * lo) wr hrow hD.out (mul_lt64 _ _ hal hlo2) (by rw [hU.out]; omega) (by rw [hU.out]; have h1 := htot.out; have h2 := hbd.out; omega)
      rw [hU.out] at ha1
      have i2 : (k : Int) < (n : Int) := by omega
      go_wp2_with fail
      refine ha1.mono ?_
      rintro e w2 ⟨rfl, U2, hU2, hD2, hT2, hrow2, hG2⟩
      have HCA : Hid (wr.cell? ⟨sb, k, none⟩ = some (ud aa)) := hca
      clear ha1 hrow hca
      have hG02 : w.grownBy w2 none := gr_some hG hG2 (Nat.le_refl _)
      have hca : w2.cell? ⟨sb, k, none⟩ = some (ud aa) := (World.cell?_of_block (w := wr) (hG2.block sb (by have := hG.size; omega) (by simp; omega))).trans HCA.out
      have ha2 := add_any w.heap.size 74 U2 (k + 1) (aa * hi) w2 hrow2 hD2 (mul_lt64 _ _ hal (by omega)) (by rw [hU2]; omega) (by rw [hU2, hT2]; have h1 := htot.out; have h2 := hbd.out; omega)
      rw [hU2] at ha2
      have HU2 : Hid _ := hU2
      have HT2 : Hid _ := hT2
      clear hU2 hT2 hG2
      go_wp2_with fail
      refine ha2.mono ?_
      rintro e w3 ⟨rfl, U3, hU3, hD3, hT3, hrow3, hG3⟩
      clear ha2 hrow2 hca
      have hG03 : w.grownBy w3 none := gr_some hG02 hG3 (Nat.le_refl _)
      have HT3 : Hid (val U3 = val (V.take (k + 1)) * t) := by
        show _ = _
        rw [hT3, HT2.out, ← htot.out]
      have HU3 : Hid _ := hU3
      clear hT3 hU3 hG3
      go_wp2_with fail
      exact ⟨⟨k + 1, U3, by omega, by go_num, HU3, hD3, HT3, hrow3, hG03⟩, by simp [intOf]; omega⟩
    · have hkn : k = n := by omega
      have hge : decide (k < n) = false := by simp; omega
      have HT' : Hid (val U = val V * t) := by
        show _ = _
        rw [hT.out, hkn, HN.out, List.take_length]
      clear hkn hlt
      go_wp2
      go_ret
      exact ⟨U, hU.out, hD.out, HT'.out, rfl, hrow, hG⟩
end Go.Proofs.YtjgmmdgcknnlpaaDoor
