/-
  rootslaw's bent.
-/
import Derived.Test.YtplhlhjakapaaaaDoorOwn
import Derived.Test.YtplhlhjakapaaaaDoorMark
namespace Go.Proofs.YtplhlhjakapaaaaDoor
open Go Go.RowKit

theorem SumsOwn.cell {w : World} {base g n cap : Nat} {ps : List (List UInt8)} (h : SumsOwn w base (.slice (some ⟨g, 0, none⟩) n cap) ps) : ∀ j u, (ps.flatten.map ub)[j]? = some u → w.cell? ⟨g, j, none⟩ = some u := by
  intro j u hj
  obtain ⟨h32, _, hl, h0 | ⟨g', cap', cur, hv, hb, hh, h1, h2, h3, h4⟩⟩ := h
  · cases h0.1
  · cases hv
    have hjl : j < ps.length * 32 := by rw [← hl]; exact (List.getElem?_eq_some_iff.1 hj).1
    rw [cell_of_row w _ _ _ _ _ hh, ← hj, ← h4, List.getElem?_take, if_pos hjl, Array.getElem?_toList]

theorem ub_bits (o : BinOp) (a b : Int) : ∃ z : UInt8, Value.int IntKind.u8 (bits o IntKind.u8 a b) = ub z := by
  have h : ∃ n : Int, bits o IntKind.u8 a b = n % 256 := by
    unfold bits
    split <;> exact ⟨_, IntKind.wrap_u8 _⟩
  obtain ⟨n, hn⟩ := h
  refine ⟨UInt8.ofNat (n % 256).toNat, ?_⟩
  rw [hn]
  show _ = Value.int .u8 _
  rw [UInt8.toNat_ofNat']
  congr 1
  omega

/-- A byte of one hash written. -/
theorem SumsIs.byte {w : World} {g n cap : Nat} {ps : List (List UInt8)} (h : SumsIs w (.slice (some ⟨g, 0, none⟩) n cap) ps) (i c : Nat) (z : UInt8) (hi : i < ps.length) (hc : c < 32) {p : Nat} (hp : p = i * 32 + c) :
    ∃ qs : List (List UInt8), qs.length = ps.length ∧ SumsIs (w.setCell ⟨g, p, none⟩ (ub z)) (.slice (some ⟨g, 0, none⟩) n cap) qs := by
  obtain ⟨h32, sp, cap', e, hcap, hsp⟩ := h
  cases e
  obtain ⟨g', o, e, hg, hr⟩ := hsp (by omega)
  cases e
  subst hp
  obtain ⟨x, hxi⟩ : ∃ x, ps[i]? = some x := ⟨_, List.getElem?_eq_getElem hi⟩
  have hx : x.length = 32 := h32 x (List.mem_of_getElem? hxi)
  refine ⟨ps.set i (x.set c z), by simp, fun s hs => ?_, some ⟨g, 0, none⟩, cap, by simp, by simpa using hcap, fun _ => ⟨g, 0, rfl, by simpa using hg, fun k s hk j u hj => ?_⟩⟩
  · rcases List.mem_or_eq_of_mem_set hs with h | rfl
    · exact h32 s h
    · rw [List.length_set]; exact hx
  · rw [List.getElem?_set] at hk
    by_cases hik : i = k
    · subst hik
      rw [if_pos rfl, if_pos hi] at hk
      obtain rfl := Option.some.inj hk
      have hj32 : j < 32 := by
        have := (List.getElem?_eq_some_iff.1 hj).1
        rw [List.length_map, List.length_set, hx] at this; exact this
      by_cases hjc : j = c
      · subst hjc
        have hu : u = ub z := by
          rw [List.getElem?_map, List.getElem?_set_self (by omega)] at hj
          simpa using hj.symm
        subst hu
        have h0 := hr i x hxi j (ub x[j]) (by rw [List.getElem?_map, List.getElem?_eq_getElem (by omega)]; rfl)
        rw [Nat.zero_add] at h0 ⊢
        exact World.cell?_setCell_same' _ _ _ (by rw [h0]; rfl)
      · rw [Nat.zero_add, World.cell?_setCell_other _ _ _ _ (by simp <;> omega)]
        have := hr i x hxi j u (by rw [List.getElem?_map, List.getElem?_set_ne (by omega)] at hj; rw [List.getElem?_map]; exact hj)
        rwa [Nat.zero_add] at this
    · rw [if_neg hik] at hk
      have hs32 : s.length = 32 := h32 s (List.mem_of_getElem? hk)
      have hj32 : j < 32 := by
        have := (List.getElem?_eq_some_iff.1 hj).1
        rw [List.length_map, hs32] at this; exact this
      rw [Nat.zero_add, World.cell?_setCell_other _ _ _ _ (by simp <;> omega)]
      have := hr k s hk j u hj
      rwa [Nat.zero_add] at this

theorem sums_of_own {w : World} {base : Nat} {v : Value} {ps : List (List UInt8)} (h32 : ∀ s ∈ ps, s.length = 32) (h : w.ownsRow base 25 32 v ps.length (ps.flatten.map ub)) : SumsIs w v ps := by
  obtain ⟨hl, h0 | ⟨g, cap, cur, hv, hb, hh, h1, h2, h3, h4⟩⟩ := h
  · have : ps = [] := List.length_eq_zero_iff.1 h0.2
    subst this
    exact SumsOwn.is (base := base) ⟨h32, fun _ => h0.1, hl, Or.inl h0⟩
  · by_cases hps : ps = []
    · subst hps
      exact ⟨h32, _, _, hv, h1, fun h => absurd h (by simp)⟩
    · exact SumsOwn.is (base := base) ⟨h32, fun h => absurd h hps, hl, Or.inr ⟨g, cap, cur, hv, hb, hh, h1, h2, h3, h4⟩⟩

theorem SumsOwn.firsts {w : World} {base g n cap : Nat} {ps : List (List UInt8)} (h : SumsOwn w base (.slice (some ⟨g, 0, none⟩) n cap) ps) (i : Nat) (hi : i ≤ ps.length) : w.ownsRow base 25 32 (.slice (some ⟨g, 0, none⟩) i cap) i ((ps.take i).flatten.map ub) := by
  obtain ⟨h32, _, hl, h0 | ⟨g', cap', cur, hv, hb, hh, h1, h2, h3, h4⟩⟩ := h
  · cases h0.1
  · cases hv
    have ht : (ps.take i).flatten.length = i * 32 := by rw [flat_length _ (fun s hs => h32 s (List.mem_of_mem_take hs)), List.length_take]; congr 1; omega
    refine ⟨by rw [List.length_map, ht], Or.inr ⟨g, cap, cur, rfl, hb, hh, by omega, h2, h3, ?_⟩⟩
    have h5 : (cur.toList.take (ps.length * 32)).take (i * 32) = cur.toList.take (i * 32) := by
      rw [List.take_take]; congr 1; have := Nat.mul_le_mul_right 32 hi; omega
    rw [← h5, h4, ← List.map_take, ← ht]
    congr 1
    have h6 : ps.flatten = (ps.take i).flatten ++ (ps.drop i).flatten := by rw [← List.flatten_append, List.take_append_drop]
    rw [h6, List.take_left']
    rfl

theorem flat_drop {ps : List (List UInt8)} (h32 : ∀ s ∈ ps, s.length = 32) (i : Nat) (hi : i ≤ ps.length) (j : Nat) : ((ps.drop i).flatten.map ub)[j]? = (ps.flatten.map ub)[i * 32 + j]? := by
  have ht : (ps.take i).flatten.length = i * 32 := by rw [flat_length _ (fun s hs => h32 s (List.mem_of_mem_take hs)), List.length_take]; congr 1; omega
  have h6 : ps.flatten = (ps.take i).flatten ++ (ps.drop i).flatten := by rw [← List.flatten_append, List.take_append_drop]
  rw [h6, List.getElem?_map, List.getElem?_map, List.getElem?_append_right (by omega), ht, Nat.add_sub_cancel_left]

set_option maxHeartbeats 4000000 in
set_option maxRecDepth 100000 in
theorem bent_nil (how k b : Int) (w : World) (h1 : -9223372036854775808 ≤ how) (h2 : how < 9223372036854775808) :
    Calls Tryd.prog 27 #[.slice none 0 0, .int .i64 how, .int .i64 k, .int .i64 b] w fun e w' => ∃ qs v', e = .returned v' ∧ SumsIs w' v' qs ∧ qs.length ≤ 1 ∧ w.grownBy w' none := by
  go_enter Tryd.func27, Tryd.ntmps27
  go_wp2_with fail
  refine (pick_any how 6 (by omega) (by omega) h1 h2 _).mono ?_
  rintro e w' ⟨x, rfl, hx, hww⟩
  rw [hww]; clear hww w'
  by_cases hx0 : x = 0
  · subst hx0
    go_wp2_with fail
    refine (mark_any b _).mono ?_
    rintro e w1 ⟨s, hs, rfl, hG1⟩
    have HOWN : Hid (SumsOwn w1 w.heap.size (.slice none 0 0) []) := ⟨by simp, fun _ => rfl, World.ownsRow_nil _ _ _ _⟩
    go_wp2_with (first | (refine wpList_append1 w.heap.size [] s (.slice none 0 0) hs HOWN.out hG1.size (by simp) rfl rfl _ _ _ rfl rfl rfl rfl rfl (by simp) ?_; intro v' w' hown' hg'))
    go_ret
    exact ⟨_, _, rfl, hown'.is, by simp, hg' w hG1 (Nat.le_refl _)⟩
  · have d0 : ((x : Int) == 0) = false := by rw [beq_eq_false_iff_ne]; omega
    go_wp2
    go_ret
    exact ⟨[], _, rfl, ⟨by simp, _, _, rfl, by simp, fun h => absurd h (by simp)⟩, by simp, gr_refl _⟩

set_option maxHeartbeats 4000000 in
set_option maxRecDepth 100000 in
theorem bent_some (ps : List (List UInt8)) (base : Nat) (v : Value) (how k b : Int) (w : World) (hv : SumsOwn w base v ps) (hne : ps ≠ []) (hlen : ps.length < 100000000) (h1 : -9223372036854775808 ≤ how) (h2 : how < 9223372036854775808) (h3 : -9223372036854775808 ≤ k) (h4 : k < 9223372036854775808) (h5 : -9223372036854775808 ≤ b) (h6 : b < 9223372036854775808) :
    Calls Tryd.prog 27 #[v, .int .i64 how, .int .i64 k, .int .i64 b] w fun e w' => ∃ qs v', e = .returned v' ∧ SumsIs w' v' qs ∧ qs.length ≤ ps.length + 1 ∧ w.grownBy w' none := by
  obtain ⟨i0, z0, hi0, hz0, hz1, hz2, hz3⟩ := info25z
  have hn0 : 0 < ps.length := List.length_pos_iff.2 hne
  obtain ⟨g, cap, rfl, hbg, hgs⟩ := owned32 hv.2.2 hn0
  have HC : Hid (∀ j u, (ps.flatten.map ub)[j]? = some u → w.cell? ((⟨g, 0, none⟩ : Addr).add j) = some u) := fun j u hj => by
    have e : (⟨g, 0, none⟩ : Addr).add j = ⟨g, j, none⟩ := by unfold Addr.add; split <;> simp_all
    rw [e]; exact hv.cell j u hj
  have HF : Hid ((ps.flatten.map ub).length = ps.length * 32) := hv.2.2.1
  have H32 : Hid (∀ s ∈ ps, s.length = 32) := hv.1
  clear hv
  go_enter Tryd.func27, Tryd.ntmps27
  go_wp2_with (at_builtin; refine wpList_append_own _ rfl _ _ 38 rfl w.heap.size 25 i0 z0 32 32 Tryd.underlying38 hi0 hz0 hz1 hz2 hz3 (by decide) _ _ _ rfl (World.ownsRow_nil _ _ _ _) ⟨g, 0, none⟩ ps.length cap (ps.flatten.map ub) rfl HF.out HC.out ?c2 ?c3 ?c4 ?c5 ?_)
  case c2 => intro u hu; obtain ⟨x, _, rfl⟩ := List.mem_map.1 hu; rfl
  case c3 => unfold maxLen; omega
  case c4 => omega
  case c5 => simp
  intro v1 w1 hown1 hG1 _
  have hG01 : w.grownBy w1 none := hG1
  replace hown1 : w1.ownsRow w.heap.size 25 32 v1 ps.length (ps.flatten.map ub) := by simpa [List.map_flatten] using hown1
  obtain ⟨g1, cap1, rfl, hg1, hg1s⟩ := owned32 hown1 hn0
  have HOWN : Hid (SumsOwn w1 w.heap.size (.slice (some ⟨g1, 0, none⟩) ps.length cap1) ps) := ⟨H32.out, fun h => absurd h hne, hown1⟩
  have HINF : Hid (Tryd.prog.info? 25 = some i0 ∧ i0.zero = some z0 ∧ i0.size = 32 ∧ i0.bytes = 32 ∧ z0.cells.size = 32) := ⟨hi0, hz0, hz1, hz2, hz3⟩
  clear hown1 hG1 HC HF hi0 hz0 hz1 hz2 hz3
  go_wp2_with fail
  refine (pick_any how 6 (by omega) (by omega) h1 h2 _).mono ?_
  rintro e w' ⟨x, rfl, hx, hww⟩
  rw [hww]; clear hww w'
  by_cases hx0 : x = 0
  · subst hx0
    go_wp2_with fail
    refine (mark_any b _).mono ?_
    rintro e w2 ⟨s, hs, rfl, hG2⟩
    have hG02 := gr_trans hG01 hG2
    have HOWN2 : Hid _ := HOWN.out.gr hG2
    go_wp2_with (first | (refine wpList_append1 w.heap.size ps s _ hs HOWN2.out hG02.size (by omega) rfl rfl _ _ _ rfl rfl rfl rfl rfl (by simp) ?_; intro v' w' hown' hg'))
    go_ret
    exact ⟨_, _, rfl, hown'.is, by simp, hg' w hG02 (Nat.le_refl _)⟩
  have d0 : ((x : Int) == 0) = false := by rw [beq_eq_false_iff_ne]; omega
  have dn : ((ps.length : Int) == 0) = false := by rw [beq_eq_false_iff_ne]; omega
  by_cases hx3 : 3 < x
  · have d3 : decide ((x : Int) > 3) = true := by simp; omega
    go_wp2
    go_ret
    exact ⟨_, _, rfl, HOWN.out.is, by omega, hG01⟩
  have d3 : decide ((x : Int) > 3) = false := by simp; omega
  go_wp2_with fail
  refine (pick_any k ps.length (by omega) (by omega) h3 h4 _).mono ?_
  rintro e w' ⟨i, rfl, hi, hww⟩
  rw [hww]; clear hww w'
  by_cases hx1 : x = 1
  · subst hx1
    go_wp2_with fail
    refine (pick_any b 256 (by omega) (by omega) h5 h6 _).mono ?_
    rintro e w' ⟨c, rfl, hc, hww⟩
    rw [hww]; clear hww w'
    go_wp2_with fail
    have b0 : (0 : Int) ≤ (i : Int) := by omega
    have b1 : (0 : Int) ≤ (c : Int) / 8 := by omega
    have b2 : (c : Int) / 8 < 32 := by omega
    have b3 : (0 : Int) ≤ (c : Int) % 8 := by omega
    have b4 : (c : Int) % 8 < 8 := by omega
    have wr1 : IntKind.i64.wrap ((c : Int) / 8) = (c : Int) / 8 := by rw [IntKind.wrap_i64]; omega
    have wr2 : IntKind.i64.wrap ((c : Int) % 8) = (c : Int) % 8 := by rw [IntKind.wrap_i64]; omega
    have hidx : i * 32 + ((c : Int) / 8).toNat < (ps.flatten.map ub).length := by
      have e1 := HOWN.out.2.2.1
      have e2 : (i + 1) * 32 ≤ ps.length * 32 := Nat.mul_le_mul_right _ (by omega)
      rw [e1]; omega
    obtain ⟨y, hy⟩ : ∃ y, (ps.flatten.map ub)[i * 32 + ((c : Int) / 8).toNat]? = some (ub y) := by
      rw [List.getElem?_map, List.getElem?_eq_getElem (by rwa [List.length_map] at hidx)]; exact ⟨_, rfl⟩
    have cl : w1.cell? ⟨g1, i * 32 + ((c : Int) / 8).toNat, none⟩ = some (ub y) := HOWN.out.cell _ _ hy
    have HY : Hid _ := hy
    clear hy
    refine wp_region_still_tail 18 (by kernel_rfl) (by decide +kernel) ?_
    simp only [List.take_succ_cons, List.take_zero, List.drop_succ_cons, List.drop_zero]
    iterate 18 still_step
    refine wpStill_nil ?_
    have fz : w1.frozen? ⟨g1, i * 32 + ((c : Int) / 8).toNat, none⟩ = false := by
      obtain ⟨_, _, _, h0 | ⟨g', cap', cur, hv, hb, hh, _⟩⟩ := HOWN.out
      · cases h0.1
      · cases hv; exact frozen_of_row w1 _ _ _ _ hh
    clear HY wr1 wr2 hidx
    go_wp2
    go_ret
    obtain ⟨z, hz⟩ := ub_bits BinOp.xor (y.toNat : Int) ((2 : Int) ^ min (c % 8) 8 % 256)
    rw [hz]
    obtain ⟨qs, hq1, hq2⟩ := SumsIs.byte HOWN.out.is i (c / 8) z (by omega) (by omega) rfl
    exact ⟨qs, _, rfl, hq2.gr (gr_drew (gr_refl _)), by omega, gr_drew (gr_at hG01 hg1 _ _)⟩
  by_cases hx2 : x = 2
  · subst hx2
    go_wp2_with fail
    have b0 : (0 : Int) ≤ (i : Int) := by omega
    have b1 : (i : Int) ≤ (cap1 : Int) := by
      have := HOWN.out.is.2; obtain ⟨sp, cc, e, hcc, _⟩ := this; cases e; omega
    have b2 : (i : Int) + 1 ≤ (ps.length : Int) := by omega
    have b3 : (ps.length : Int) ≤ (cap1 : Int) := by
      have := HOWN.out.is.2; obtain ⟨sp, cc, e, hcc, _⟩ := this; cases e; omega
    have b4 : (0 : Int) ≤ (i : Int) + 1 := by omega
    have b5 : (i : Int) + 1 ≤ (cap1 : Int) := by omega
    have wr1 : IntKind.i64.wrap ((i : Int) + 1) = (i : Int) + 1 := by rw [IntKind.wrap_i64]; omega
    obtain ⟨ad, had1, had2⟩ : ∃ ad : Addr, (if cap1 = i + 1 then some (⟨g1, 0, none⟩ : Addr) else some ⟨g1, (i + 1) * 32, none⟩) = some ad ∧ ∀ j u, ((ps.drop (i + 1)).flatten.map ub)[j]? = some u → w1.cell? (ad.add j) = some u := by
      by_cases hcc : cap1 = i + 1
      · refine ⟨_, if_pos hcc, fun j u hj => ?_⟩
        rw [List.drop_eq_nil_of_le (by omega)] at hj
        simp at hj
      · refine ⟨_, if_neg hcc, fun j u hj => ?_⟩
        have e : (⟨g1, (i + 1) * 32, none⟩ : Addr).add j = ⟨g1, (i + 1) * 32 + j, none⟩ := by unfold Addr.add; split <;> simp_all
        rw [e]
        rw [flat_drop H32.out (i + 1) (by omega)] at hj
        exact HOWN.out.cell _ _ hj
    have HAD : Hid _ := had2
    have hln : ((ps.drop (i + 1)).flatten.map ub).length = (ps.length - (i + 1)) * 32 := by
      rw [List.length_map, flat_length _ (fun s hs => H32.out s (List.mem_of_mem_drop hs)), List.length_drop]
    have HLN : Hid _ := hln
    have hfi := HOWN.out.firsts i (by omega)
    have HFI : Hid _ := hfi
    clear had2 hln hfi
    refine wp_region_still_tail 7 (by kernel_rfl) (by decide +kernel) ?_
    simp only [List.take_succ_cons, List.take_zero, List.drop_succ_cons, List.drop_zero]
    iterate 7 still_step
    refine wpStill_nil ?_
    have hG1d : w.grownBy { w1 with drawn := w1.drawn + 1 } none := gr_drew hG01
    have HFI2 : Hid (({ w1 with drawn := w1.drawn + 1 } : World).ownsRow w.heap.size 25 32 (.slice (some ⟨g1, 0, none⟩) i cap1) i ((ps.take i).flatten.map ub)) := HFI.out
    have HAD2 : Hid (∀ j u, ((ps.drop (i + 1)).flatten.map ub)[j]? = some u → ({ w1 with drawn := w1.drawn + 1 } : World).cell? (ad.add j) = some u) := HAD.out
    clear HFI HAD
    obtain ⟨hi0, hz0, hz1, hz2, hz3⟩ := HINF.out
    generalize ({ w1 with drawn := w1.drawn + 1 } : World) = V at hG1d HFI2 HAD2 ⊢
    have b6 : i + (ps.length - (i + 1)) ≤ maxLen := by unfold maxLen; omega
    have b7 : (i + (ps.length - (i + 1))) * 32 ≤ 140737488355328 := by omega
    have b8 := hG1d.size
    have HO : Hid (∀ u ∈ (ps.drop (i + 1)).flatten.map ub, u.oneCell' = true) := fun u hu => by obtain ⟨x, _, rfl⟩ := List.mem_map.1 hu; rfl
    refine wpList_append_own _ rfl _ _ 38 rfl w.heap.size 25 i0 z0 32 32 Tryd.underlying38 hi0 hz0 hz1 hz2 hz3 (by decide) _ _ _ rfl HFI2.out ad (ps.length - (i + 1)) _ ((ps.drop (i + 1)).flatten.map ub) rfl HLN.out HAD2.out HO.out b6 b7 b8 ?_
    intro v' w' hown' hG' _
    have hG0' := gr_own HFI2.out hG' hG1d (Nat.le_refl _)
    have hq : SumsIs w' v' (ps.take i ++ ps.drop (i + 1)) := by
      refine sums_of_own (base := w.heap.size) (fun s hs => ?_) ?_
      · rcases List.mem_append.1 hs with h | h
        · exact H32.out s (List.mem_of_mem_take h)
        · exact H32.out s (List.mem_of_mem_drop h)
      · rw [List.flatten_append, List.map_append, List.length_append, List.length_take, List.length_drop, Nat.min_eq_left (by omega)]
        exact hown'
    have HQ : Hid _ := hq
    clear hq hown' hG' HFI2 HAD2 HO HLN
    go_wp2
    go_ret
    exact ⟨_, _, rfl, HQ.out, by rw [List.length_append, List.length_take, List.length_drop]; omega, hG0'⟩
  · obtain rfl : x = 3 := by omega
    obtain ⟨s, hsi⟩ : ∃ s, ps[i]? = some s := ⟨_, List.getElem?_eq_getElem (by omega)⟩
    have hs : s.length = 32 := H32.out s (List.mem_of_getElem? hsi)
    have hrg : w1.rangeAt g1 (i * 32) (s.map ub) := by
      obtain ⟨_, sp, cc, e, hcc, hh⟩ := HOWN.out.is
      cases e
      obtain ⟨g', o', e, _, hr⟩ := hh hn0
      cases e
      have := hr i s hsi
      rwa [Nat.zero_add] at this
    have HRG : Hid _ := hrg
    have HsI : Hid ((Tryd.prog.info? 25).map (·.size) = some (s.map ub).length) := by
      show _ = _
      rw [info25' (R := (s.map ub).toArray) rfl hs]; simp
    clear hrg hsi
    go_wp2_with (first | refine wpList_load_mid rfl 25 _ rfl g1 (i * 32) rfl (s.map ub) _ HRG.out Tryd.underlying25 rfl HsI.out ?_ | (refine wpList_append1 w.heap.size ps s _ hs HOWN.out hG01.size (by omega) rfl rfl _ _ _ rfl rfl rfl rfl rfl (by simp [Act.put]) ?_; intro v' w' hown' hg'))
    go_ret
    exact ⟨_, _, rfl, hown'.is, by simp, hg' w hG01 (Nat.le_refl _)⟩

theorem bent_any (ps : List (List UInt8)) (base : Nat) (v : Value) (how k b : Int) (w : World) (hv : SumsOwn w base v ps) (hlen : ps.length < 100000000) (h1 : -9223372036854775808 ≤ how) (h2 : how < 9223372036854775808) (h3 : -9223372036854775808 ≤ k) (h4 : k < 9223372036854775808) (h5 : -9223372036854775808 ≤ b) (h6 : b < 9223372036854775808) :
    Calls Tryd.prog 27 #[v, .int .i64 how, .int .i64 k, .int .i64 b] w fun e w' => ∃ qs v', e = .returned v' ∧ SumsIs w' v' qs ∧ qs.length ≤ ps.length + 1 ∧ w.grownBy w' none := by
  by_cases hne : ps = []
  · subst hne
    obtain rfl := hv.2.1 rfl
    exact bent_nil how k b w h1 h2
  · exact bent_some ps base v how k b w hv hne hlen h1 h2 h3 h4 h5 h6
end Go.Proofs.YtplhlhjakapaaaaDoor
