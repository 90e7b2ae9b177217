/-
  bent, once more: what it answers is new memory.
-/
import Derived.Test.YtplhlhjakapaaaaDoorBent
namespace Go.Proofs.YtplhlhjakapaaaaDoor
open Go Go.RowKit

/-- Hashes in a slice, its memory not below a bound. -/
def SumsFar (w : World) (base : Nat) (v : Value) (ps : List (List UInt8)) : Prop :=
  (∀ s ∈ ps, s.length = 32) ∧ ∃ sp cap, v = .slice sp ps.length cap ∧ ps.length ≤ cap ∧ (0 < ps.length → ∃ g o, sp = some ⟨g, o, none⟩ ∧ base ≤ g ∧ g < w.heap.size ∧ ∀ k s, ps[k]? = some s → w.rangeAt g (o + k * 32) (s.map ub))
theorem SumsFar.is {w : World} {base : Nat} {v : Value} {ps : List (List UInt8)} (h : SumsFar w base v ps) : SumsIs w v ps := by
  obtain ⟨h32, sp, cap, hv, hc, hq⟩ := h
  refine ⟨h32, sp, cap, hv, hc, fun h0 => ?_⟩
  obtain ⟨g, o, h1, _, h3, h4⟩ := hq h0
  exact ⟨g, o, h1, h3, h4⟩
theorem SumsFar.put {w V : World} {base B : Nat} {v : Value} {ps : List (List UInt8)} (h : SumsFar w base v ps) (hB : B < base) (hs : w.heap.size ≤ V.heap.size) (hV : ∀ k, k ≠ B → k < w.heap.size → V.heap[k]? = w.heap[k]?) : SumsFar V base v ps := by
  obtain ⟨h32, sp, cap, hv, hc, hq⟩ := h
  refine ⟨h32, sp, cap, hv, hc, fun h0 => ?_⟩
  obtain ⟨g, o, h1, h2, h3, h4⟩ := hq h0
  exact ⟨g, o, h1, h2, by omega, fun k s hk j u hj => (World.cell?_of_block (a := ⟨g, o + k * 32 + j, none⟩) (hV g (by omega) h3)).trans (h4 k s hk j u hj)⟩
theorem SumsFar.gr {w V : World} {base : Nat} {v : Value} {ps : List (List UInt8)} (h : SumsFar w base v ps) (hG : w.grownBy V none) : SumsFar V base v ps := by
  obtain ⟨h32, sp, cap, hv, hc, hq⟩ := h
  refine ⟨h32, sp, cap, hv, hc, fun h0 => ?_⟩
  obtain ⟨g, o, h1, h2, h3, h4⟩ := hq h0
  exact ⟨g, o, h1, h2, by have := hG.size; omega, fun k s hk j u hj => (gr_cell hG (p := ⟨g, o + k * 32 + j, none⟩) h3).trans (h4 k s hk j u hj)⟩
theorem far_at {w : World} {base g o n cap : Nat} {ps : List (List UInt8)} (h : SumsIs w (.slice (some ⟨g, o, none⟩) n cap) ps) (hb : base ≤ g) : SumsFar w base (.slice (some ⟨g, o, none⟩) n cap) ps := by
  obtain ⟨h32, sp, cap', hv, hc, hq⟩ := h
  cases hv
  refine ⟨h32, _, _, rfl, hc, fun h0 => ?_⟩
  obtain ⟨g', o', h1, h3, h4⟩ := hq h0
  cases h1
  exact ⟨g, o, rfl, hb, h3, h4⟩
theorem far_of_own {w : World} {base : Nat} {v : Value} {ps : List (List UInt8)} (h32 : ∀ s ∈ ps, s.length = 32) (h : w.ownsRow base 25 32 v ps.length (ps.flatten.map ub)) : SumsFar w base v ps := by
  have his := sums_of_own h32 h
  obtain ⟨_, h0 | ⟨g, cap, cur, hv, hb, _⟩⟩ := h
  · obtain ⟨_, sp, cap, hv, hc, _⟩ := his
    exact ⟨h32, sp, cap, hv, hc, fun hp => absurd h0.2 (by omega)⟩
  · rw [hv] at his ⊢
    exact far_at his hb
theorem SumsOwn.far {w : World} {base : Nat} {v : Value} {ps : List (List UInt8)} (h : SumsOwn w base v ps) : SumsFar w base v ps := far_of_own h.1 h.2.2

set_option maxHeartbeats 4000000 in
set_option maxRecDepth 100000 in
theorem bent_nil2 (how k b : Int) (w : World) (h1 : -9223372036854775808 ≤ how) (h2 : how < 9223372036854775808) :
    Calls Tryd.prog 27 #[.slice none 0 0, .int .i64 how, .int .i64 k, .int .i64 b] w fun e w' => ∃ qs v', e = .returned v' ∧ SumsFar w' w.heap.size v' qs ∧ qs.length ≤ 1 ∧ w.grownBy w' none := by
  go_enter Tryd.func27, Tryd.ntmps27
  go_wp2_with fail
  refine (pick_any how 6 (by omega) (by omega) h1 h2 _).mono ?_
  rintro e w' ⟨x, rfl, hx, hww⟩
  rw [hww]; clear hww w'
  by_cases hx0 : x = 0
  · subst hx0
    go_wp2_with fail
    refine (mark_any b _).mono ?_
    rintro e w1 ⟨s, hs, rfl, hG1⟩
    have HOWN : Hid (SumsOwn w1 w.heap.size (.slice none 0 0) []) := ⟨by simp, fun _ => rfl, World.ownsRow_nil _ _ _ _⟩
    go_wp2_with (first | (refine wpList_append1 w.heap.size [] s (.slice none 0 0) hs HOWN.out hG1.size (by simp) rfl rfl _ _ _ rfl rfl rfl rfl rfl (by simp) ?_; intro v' w' hown' hg'))
    go_ret
    exact ⟨_, _, rfl, hown'.far, by simp, hg' w hG1 (Nat.le_refl _)⟩
  · have d0 : ((x : Int) == 0) = false := by rw [beq_eq_false_iff_ne]; omega
    go_wp2
    go_ret
    exact ⟨[], _, rfl, ⟨by simp, _, _, rfl, by simp, fun h => absurd h (by simp)⟩, by simp, gr_refl _⟩

set_option maxHeartbeats 4000000 in
set_option maxRecDepth 100000 in
theorem bent_some2 (ps : List (List UInt8)) (base : Nat) (v : Value) (how k b : Int) (w : World) (hv : SumsOwn w base v ps) (hne : ps ≠ []) (hlen : ps.length < 100000000) (h1 : -9223372036854775808 ≤ how) (h2 : how < 9223372036854775808) (h3 : -9223372036854775808 ≤ k) (h4 : k < 9223372036854775808) (h5 : -9223372036854775808 ≤ b) (h6 : b < 9223372036854775808) :
    Calls Tryd.prog 27 #[v, .int .i64 how, .int .i64 k, .int .i64 b] w fun e w' => ∃ qs v', e = .returned v' ∧ SumsFar w' w.heap.size v' qs ∧ qs.length ≤ ps.length + 1 ∧ w.grownBy w' none := by
  obtain ⟨i0, z0, hi0, hz0, hz1, hz2, hz3⟩ := info25z
  have hn0 : 0 < ps.length := List.length_pos_iff.2 hne
  obtain ⟨g, cap, rfl, hbg, hgs⟩ := owned32 hv.2.2 hn0
  have HC : Hid (∀ j u, (ps.flatten.map ub)[j]? = some u → w.cell? ((⟨g, 0, none⟩ : Addr).add j) = some u) := fun j u hj => by
    have e : (⟨g, 0, none⟩ : Addr).add j = ⟨g, j, none⟩ := by unfold Addr.add; split <;> simp_all
    rw [e]; exact hv.cell j u hj
  have HF : Hid ((ps.flatten.map ub).length = ps.length * 32) := hv.2.2.1
  have H32 : Hid (∀ s ∈ ps, s.length = 32) := hv.1
  clear hv
  go_enter Tryd.func27, Tryd.ntmps27
  go_wp2_with (at_builtin; refine wpList_append_own _ rfl _ _ 38 rfl w.heap.size 25 i0 z0 32 32 Tryd.underlying38 hi0 hz0 hz1 hz2 hz3 (by decide) _ _ _ rfl (World.ownsRow_nil _ _ _ _) ⟨g, 0, none⟩ ps.length cap (ps.flatten.map ub) rfl HF.out HC.out ?c2 ?c3 ?c4 ?c5 ?_)
  case c2 => intro u hu; obtain ⟨x, _, rfl⟩ := List.mem_map.1 hu; rfl
  case c3 => unfold maxLen; omega
  case c4 => omega
  case c5 => simp
  intro v1 w1 hown1 hG1 _
  have hG01 : w.grownBy w1 none := hG1
  replace hown1 : w1.ownsRow w.heap.size 25 32 v1 ps.length (ps.flatten.map ub) := by simpa [List.map_flatten] using hown1
  obtain ⟨g1, cap1, rfl, hg1, hg1s⟩ := owned32 hown1 hn0
  have HOWN : Hid (SumsOwn w1 w.heap.size (.slice (some ⟨g1, 0, none⟩) ps.length cap1) ps) := ⟨H32.out, fun h => absurd h hne, hown1⟩
  have HINF : Hid (Tryd.prog.info? 25 = some i0 ∧ i0.zero = some z0 ∧ i0.size = 32 ∧ i0.bytes = 32 ∧ z0.cells.size = 32) := ⟨hi0, hz0, hz1, hz2, hz3⟩
  clear hown1 hG1 HC HF hi0 hz0 hz1 hz2 hz3
  go_wp2_with fail
  refine (pick_any how 6 (by omega) (by omega) h1 h2 _).mono ?_
  rintro e w' ⟨x, rfl, hx, hww⟩
  rw [hww]; clear hww w'
  by_cases hx0 : x = 0
  · subst hx0
    go_wp2_with fail
    refine (mark_any b _).mono ?_
    rintro e w2 ⟨s, hs, rfl, hG2⟩
    have hG02 := gr_trans hG01 hG2
    have HOWN2 : Hid _ := HOWN.out.gr hG2
    go_wp2_with (first | (refine wpList_append1 w.heap.size ps s _ hs HOWN2.out hG02.size (by omega) rfl rfl _ _ _ rfl rfl rfl rfl rfl (by simp) ?_; intro v' w' hown' hg'))
    go_ret
    exact ⟨_, _, rfl, hown'.far, by simp, hg' w hG02 (Nat.le_refl _)⟩
  have d0 : ((x : Int) == 0) = false := by rw [beq_eq_false_iff_ne]; omega
  have dn : ((ps.length : Int) == 0) = false := by rw [beq_eq_false_iff_ne]; omega
  by_cases hx3 : 3 < x
  · have d3 : decide ((x : Int) > 3) = true := by simp; omega
    go_wp2
    go_ret
    exact ⟨_, _, rfl, HOWN.out.far, by omega, hG01⟩
  have d3 : decide ((x : Int) > 3) = false := by simp; omega
  go_wp2_with fail
  refine (pick_any k ps.length (by omega) (by omega) h3 h4 _).mono ?_
  rintro e w' ⟨i, rfl, hi, hww⟩
  rw [hww]; clear hww w'
  by_cases hx1 : x = 1
  · subst hx1
    go_wp2_with fail
    refine (pick_any b 256 (by omega) (by omega) h5 h6 _).mono ?_
    rintro e w' ⟨c, rfl, hc, hww⟩
    rw [hww]; clear hww w'
    go_wp2_with fail
    have b0 : (0 : Int) ≤ (i : Int) := by omega
    have b1 : (0 : Int) ≤ (c : Int) / 8 := by omega
    have b2 : (c : Int) / 8 < 32 := by omega
    have b3 : (0 : Int) ≤ (c : Int) % 8 := by omega
    have b4 : (c : Int) % 8 < 8 := by omega
    have wr1 : IntKind.i64.wrap ((c : Int) / 8) = (c : Int) / 8 := by rw [IntKind.wrap_i64]; omega
    have wr2 : IntKind.i64.wrap ((c : Int) % 8) = (c : Int) % 8 := by rw [IntKind.wrap_i64]; omega
    have hidx : i * 32 + ((c : Int) / 8).toNat < (ps.flatten.map ub).length := by
      have e1 := HOWN.out.2.2.1
      have e2 : (i + 1) * 32 ≤ ps.length * 32 := Nat.mul_le_mul_right _ (by omega)
      rw [e1]; omega
    obtain ⟨y, hy⟩ : ∃ y, (ps.flatten.map ub)[i * 32 + ((c : Int) / 8).toNat]? = some (ub y) := by
      rw [List.getElem?_map, List.getElem?_eq_getElem (by rwa [List.length_map] at hidx)]; exact ⟨_, rfl⟩
    have cl : w1.cell? ⟨g1, i * 32 + ((c : Int) / 8).toNat, none⟩ = some (ub y) := HOWN.out.cell _ _ hy
    have HY : Hid _ := hy
    clear hy
    refine wp_region_still_tail 18 (by kernel_rfl) (by decide +kernel) ?_
    simp only [List.take_succ_cons, List.take_zero, List.drop_succ_cons, List.drop_zero]
    iterate 18 still_step
    refine wpStill_nil ?_
    have fz : w1.frozen? ⟨g1, i * 32 + ((c : Int) / 8).toNat, none⟩ = false := by
      obtain ⟨_, _, _, h0 | ⟨g', cap', cur, hv, hb, hh, _⟩⟩ := HOWN.out
      · cases h0.1
      · cases hv; exact frozen_of_row w1 _ _ _ _ hh
    clear HY wr1 wr2 hidx
    go_wp2
    go_ret
    obtain ⟨z, hz⟩ := ub_bits BinOp.xor (y.toNat : Int) ((2 : Int) ^ min (c % 8) 8 % 256)
    rw [hz]
    obtain ⟨qs, hq1, hq2⟩ := SumsIs.byte HOWN.out.is i (c / 8) z (by omega) (by omega) rfl
    exact ⟨qs, _, rfl, far_at (hq2.gr (gr_drew (gr_refl _))) hg1, by omega, gr_drew (gr_at hG01 hg1 _ _)⟩
  by_cases hx2 : x = 2
  · subst hx2
    go_wp2_with fail
    have b0 : (0 : Int) ≤ (i : Int) := by omega
    have b1 : (i : Int) ≤ (cap1 : Int) := by
      have := HOWN.out.is.2; obtain ⟨sp, cc, e, hcc, _⟩ := this; cases e; omega
    have b2 : (i : Int) + 1 ≤ (ps.length : Int) := by omega
    have b3 : (ps.length : Int) ≤ (cap1 : Int) := by
      have := HOWN.out.is.2; obtain ⟨sp, cc, e, hcc, _⟩ := this; cases e; omega
    have b4 : (0 : Int) ≤ (i : Int) + 1 := by omega
    have b5 : (i : Int) + 1 ≤ (cap1 : Int) := by omega
    have wr1 : IntKind.i64.wrap ((i : Int) + 1) = (i : Int) + 1 := by rw [IntKind.wrap_i64]; omega
    obtain ⟨ad, had1, had2⟩ : ∃ ad : Addr, (if cap1 = i + 1 then some (⟨g1, 0, none⟩ : Addr) else some ⟨g1, (i + 1) * 32, none⟩) = some ad ∧ ∀ j u, ((ps.drop (i + 1)).flatten.map ub)[j]? = some u → w1.cell? (ad.add j) = some u := by
      by_cases hcc : cap1 = i + 1
      · refine ⟨_, if_pos hcc, fun j u hj => ?_⟩
        rw [List.drop_eq_nil_of_le (by omega)] at hj
        simp at hj
      · refine ⟨_, if_neg hcc, fun j u hj => ?_⟩
        have e : (⟨g1, (i + 1) * 32, none⟩ : Addr).add j = ⟨g1, (i + 1) * 32 + j, none⟩ := by unfold Addr.add; split <;> simp_all
        rw [e]
        rw [flat_drop H32.out (i + 1) (by omega)] at hj
        exact HOWN.out.cell _ _ hj
    have HAD : Hid _ := had2
    have hln : ((ps.drop (i + 1)).flatten.map ub).length = (ps.length - (i + 1)) * 32 := by
      rw [List.length_map, flat_length _ (fun s hs => H32.out s (List.mem_of_mem_drop hs)), List.length_drop]
    have HLN : Hid _ := hln
    have hfi := HOWN.out.firsts i (by omega)
    have HFI : Hid _ := hfi
    clear had2 hln hfi
    refine wp_region_still_tail 7 (by kernel_rfl) (by decide +kernel) ?_
    simp only [List.take_succ_cons, List.take_zero, List.drop_succ_cons, List.drop_zero]
    iterate 7 still_step
    refine wpStill_nil ?_
    have hG1d : w.grownBy { w1 with drawn := w1.drawn + 1 } none := gr_drew hG01
    have HFI2 : Hid (({ w1 with drawn := w1.drawn + 1 } : World).ownsRow w.heap.size 25 32 (.slice (some ⟨g1, 0, none⟩) i cap1) i ((ps.take i).flatten.map ub)) := HFI.out
    have HAD2 : Hid (∀ j u, ((ps.drop (i + 1)).flatten.map ub)[j]? = some u → ({ w1 with drawn := w1.drawn + 1 } : World).cell? (ad.add j) = some u) := HAD.out
    clear HFI HAD
    obtain ⟨hi0, hz0, hz1, hz2, hz3⟩ := HINF.out
    generalize ({ w1 with drawn := w1.drawn + 1 } : World) = V at hG1d HFI2 HAD2 ⊢
    have b6 : i + (ps.length - (i + 1)) ≤ maxLen := by unfold maxLen; omega
    have b7 : (i + (ps.length - (i + 1))) * 32 ≤ 140737488355328 := by omega
    have b8 := hG1d.size
    have HO : Hid (∀ u ∈ (ps.drop (i + 1)).flatten.map ub, u.oneCell' = true) := fun u hu => by obtain ⟨x, _, rfl⟩ := List.mem_map.1 hu; rfl
    refine wpList_append_own _ rfl _ _ 38 rfl w.heap.size 25 i0 z0 32 32 Tryd.underlying38 hi0 hz0 hz1 hz2 hz3 (by decide) _ _ _ rfl HFI2.out ad (ps.length - (i + 1)) _ ((ps.drop (i + 1)).flatten.map ub) rfl HLN.out HAD2.out HO.out b6 b7 b8 ?_
    intro v' w' hown' hG' _
    have hG0' := gr_own HFI2.out hG' hG1d (Nat.le_refl _)
    have hq : SumsFar w' w.heap.size v' (ps.take i ++ ps.drop (i + 1)) := by
      refine far_of_own (fun s hs => ?_) ?_
      · rcases List.mem_append.1 hs with h | h
        · exact H32.out s (List.mem_of_mem_take h)
        · exact H32.out s (List.mem_of_mem_drop h)
      · rw [List.flatten_append, List.map_append, List.length_append, List.length_take, List.length_drop, Nat.min_eq_left (by omega)]
        exact hown'
    have HQ : Hid _ := hq
    clear hq hown' hG' HFI2 HAD2 HO HLN
    go_wp2
    go_ret
    exact ⟨_, _, rfl, HQ.out, by rw [List.length_append, List.length_take, List.length_drop]; omega, hG0'⟩
  · obtain rfl : x = 3 := by omega
    obtain ⟨s, hsi⟩ : ∃ s, ps[i]? = some s := ⟨_, List.getElem?_eq_getElem (by omega)⟩
    have hs : s.length = 32 := H32.out s (List.mem_of_getElem? hsi)
    have hrg : w1.rangeAt g1 (i * 32) (s.map ub) := by
      obtain ⟨_, sp, cc, e, hcc, hh⟩ := HOWN.out.is
      cases e
      obtain ⟨g', o', e, _, hr⟩ := hh hn0
      cases e
      have := hr i s hsi
      rwa [Nat.zero_add] at this
    have HRG : Hid _ := hrg
    have HsI : Hid ((Tryd.prog.info? 25).map (·.size) = some (s.map ub).length) := by
      show _ = _
      rw [info25' (R := (s.map ub).toArray) rfl hs]; simp
    clear hrg hsi
    go_wp2_with (first | refine wpList_load_mid rfl 25 _ rfl g1 (i * 32) rfl (s.map ub) _ HRG.out Tryd.underlying25 rfl HsI.out ?_ | (refine wpList_append1 w.heap.size ps s _ hs HOWN.out hG01.size (by omega) rfl rfl _ _ _ rfl rfl rfl rfl rfl (by simp [Act.put]) ?_; intro v' w' hown' hg'))
    go_ret
    exact ⟨_, _, rfl, hown'.far, by simp, hg' w hG01 (Nat.le_refl _)⟩

theorem bent_far (ps : List (List UInt8)) (base : Nat) (v : Value) (how k b : Int) (w : World) (hv : SumsOwn w base v ps) (hlen : ps.length < 100000000) (h1 : -9223372036854775808 ≤ how) (h2 : how < 9223372036854775808) (h3 : -9223372036854775808 ≤ k) (h4 : k < 9223372036854775808) (h5 : -9223372036854775808 ≤ b) (h6 : b < 9223372036854775808) :
    Calls Tryd.prog 27 #[v, .int .i64 how, .int .i64 k, .int .i64 b] w fun e w' => ∃ qs v', e = .returned v' ∧ SumsFar w' w.heap.size v' qs ∧ qs.length ≤ ps.length + 1 ∧ w.grownBy w' none := by
  by_cases hne : ps = []
  · subst hne
    obtain rfl := hv.2.1 rfl
    exact bent_nil2 how k b w h1 h2
  · exact bent_some2 ps base v how k b w hv hne hlen h1 h2 h3 h4 h5 h6
end Go.Proofs.YtplhlhjakapaaaaDoor
