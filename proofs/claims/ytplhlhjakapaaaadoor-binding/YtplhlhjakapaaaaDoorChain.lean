/-
  rootskeep's chain.
-/
import Derived.Test.YtplhlhjakapaaaaDoorChainL
import Derived.Test.YtplhlhjakapaaaaDoorKNode
import Derived.Test.YtplhlhjakapaaaaDoorEqH
import Derived.Test.YtplhlhjakapaaaaDoorPick
import Derived.Test.YtplhlhjakapaaaaDoorUp
import Derived.Test.YtplhlhjakapaaaaDoorIncluded
namespace Go.Proofs.YtplhlhjakapaaaaDoor
open Go Go.RowKit

theorem info9 : (Tryd.prog.info? 9).map (fun i => (i.zero, i.size, i.bytes)) = some (some (.string ⟨#[]⟩), 1, 16) := by kernel_rfl

theorem strs_of_own {w : World} {base : Nat} {v : Value} {n : Nat} {l : List (List UInt8)} (hn : n = l.length) (h : w.ownsRow base 9 1 v n (l.map fun t => Value.string (mkS t))) : StrsIs w v l := by
  subst hn
  obtain ⟨_, h0 | ⟨g, cap, cur, hv, hb, hh, h1, h2, h3, h4⟩⟩ := h
  · have : l = [] := List.length_eq_zero_iff.1 h0.2
    subst this
    exact ⟨_, _, h0.1, by simp, fun h => absurd h (by simp)⟩
  · refine ⟨_, _, hv, h1, fun _ => ⟨g, 0, rfl, (Array.getElem?_eq_some_iff.1 hh).1, fun k s hk => ?_⟩⟩
    have hkl : k < l.length := (List.getElem?_eq_some_iff.1 hk).1
    have e : cur[k]? = (cur.toList.take (l.length * 1))[k]? := by
      rw [List.getElem?_take, if_pos (by omega), Array.getElem?_toList]
    rw [Nat.zero_add, cell_of_row w _ _ _ _ _ hh, e, h4, List.getElem?_map, hk]; rfl

theorem cat_nought (leaf : List UInt8) : (⟨#[0]⟩ : ByteArray) ++ mkS leaf = mkS (0 :: leaf) := by
  apply ByteArray.ext; simp [mkS]

set_option maxHeartbeats 2000000 in
set_option maxRecDepth 100000 in
theorem chain_base (rs : List (List UInt8)) (i n : Nat) (leaf : List UInt8) (v : Value) (w : World) (hl : leaf.length < 100000) (hv : SumsIs w v rs.reverse) (h : n = 1 ∨ rs = []) :
    Calls Tryd.prog 39 #[.string (mkS leaf), .int .i64 (i : Int), .int .i64 (n : Int), v] w fun e w' => ∃ v', e = .returned v' ∧ StrsIs w' v' [0 :: leaf] ∧ w.grownBy w' none := by
  obtain ⟨_, sp, cap, rfl, _, _⟩ := hv
  have hsz := size_mkS
  have hcat := cat_nought leaf
  have hz : ¬ (9223372036854775807 < 1 + leaf.length) := by omega
  have hrl : rs.reverse.length = rs.length := by simp
  rw [hrl]
  have hS : ∀ W : World, W.heap[w.heap.size]? = some (.cells #[.string (mkS (0 :: leaf))] 9 (0, 0)) → StrsIs W (.slice (some ⟨w.heap.size, 0, none⟩) 1 1) [0 :: leaf] := fun W hW =>
    ⟨_, _, rfl, Nat.le_refl _, fun _ => ⟨w.heap.size, 0, rfl, (Array.getElem?_eq_some_iff.1 hW).1, fun k s hk => by
      match k, hk with
      | 0, hk => obtain rfl := Option.some.inj hk; rw [cell_of_row W _ _ _ _ _ hW]; rfl⟩⟩
  have HS : Hid _ := hS
  clear hS
  go_enter Tryd.func39, Tryd.ntmps39
  by_cases h1 : n = 1
  · subst h1
    have d1 : (((1 : Nat) : Int) == 1) = true := by simp
    go_wp2
    go_ret
    exact ⟨_, rfl, HS.out _ (heap_alloc_new _ _), gr_alloc _ _⟩
  · have d1 : ((n : Int) == 1) = false := by simp; omega
    obtain rfl : rs = [] := h.resolve_left h1
    go_wp2
    go_ret
    exact ⟨_, rfl, HS.out _ (heap_alloc_new _ _), gr_alloc _ _⟩

set_option maxHeartbeats 4000000 in
set_option maxRecDepth 100000 in
theorem chain_any (rs : List (List UInt8)) : ∀ (i n : Nat) (leaf : List UInt8) (v : Value) (w : World), leaf.length < 100000 → i < n → n ≤ 1073741824 → 1 < w.heap.size → Tab w → SumsIs w v rs.reverse → rs.length < 100000 →
    Calls Tryd.prog 39 #[.string (mkS leaf), .int .i64 (i : Int), .int .i64 (n : Int), v] w fun e w' => ∃ v', e = .returned v' ∧ StrsIs w' v' (chainL rs i n leaf) ∧ w.grownBy w' none := by
  induction rs with
  | nil =>
    intro i n leaf v w hl hi hn hw hT hv _
    refine (chain_base [] i n leaf v w hl hv (Or.inr rfl)).mono ?_
    rintro e w' ⟨v', rfl, h, hG⟩
    exact ⟨v', rfl, by simpa [chainL] using h, hG⟩
  | cons s rest ih =>
    intro i n leaf v w hl hi hn hw hT hv hr
    by_cases h1 : n = 1
    · refine (chain_base (s :: rest) i n leaf v w hl hv (Or.inl h1)).mono ?_
      rintro e w' ⟨v', rfl, h, hG⟩
      exact ⟨v', rfl, by simpa [chainL, h1] using h, hG⟩
    have hs : s.length = 32 := hv.1 s (by simp)
    have hrs : ∀ x ∈ rest, x.length = 32 := fun x hx => hv.1 x (by simp [hx])
    have d1 : ((n : Int) == 1) = false := by simp; omega
    have hn2 : 2 ≤ n := by omega
    obtain ⟨ha, hb, _, _⟩ := spl_spec n hn2 (by omega)
    have hk1 := spl_pos n
    rw [List.reverse_cons] at hv
    rw [List.length_cons] at hr
    have HIH : Hid (∀ (i n : Nat) (leaf : List UInt8) (v : Value) (w : World), leaf.length < 100000 → i < n → n ≤ 1073741824 → 1 < w.heap.size → Tab w → SumsIs w v rest.reverse → rest.length < 100000 →
      Calls Tryd.prog 39 #[.string (mkS leaf), .int .i64 (i : Int), .int .i64 (n : Int), v] w fun e w' => ∃ v', e = .returned v' ∧ StrsIs w' v' (chainL rest i n leaf) ∧ w.grownBy w' none) := ih
    have HT : Hid (Tab w) := hT
    have HRS : Hid (∀ x ∈ rest, x.length = 32) := hrs
    obtain ⟨_, sp, cap, rfl, _, _⟩ := id hv
    obtain ⟨hvi, _, hcap, g, o, rfl, hg, hrg⟩ := hv.init
    have HV : Hid (SumsIs w (.slice (some ⟨g, o, none⟩) rest.length cap) rest.reverse) := by
      rw [List.length_reverse] at hvi; exact hvi
    clear hT ih hv hvi hrs
    simp only [List.length_append, List.length_reverse, List.length_singleton] at hcap hrg ⊢
    have HRG : Hid (w.rangeAt g (o + rest.length * 32) (s.map ub)) := hrg
    have hsI : (Tryd.prog.info? 25).map (·.size) = some (s.map ub).length := by rw [info25' (R := (s.map ub).toArray) rfl hs]; simp
    have HsI : Hid _ := hsI
    clear hsI hrg
    have d0 : decide (((rest.length + 1 : Nat) : Int) = 0) = false := by simp; omega
    have HCH : Hid (chainL (s :: rest) i n leaf = if i < spl n then nodeL 1 (sha ((chainL rest i (spl n) leaf).headD [])) s :: chainL rest i (spl n) leaf
        else nodeL 1 s (sha ((chainL rest (i - spl n) (n - spl n) leaf).headD [])) :: chainL rest (i - spl n) (n - spl n) leaf) := by
      show _ = _
      rw [chainL, if_neg h1]
    go_enter Tryd.func39, Tryd.ntmps39
    go_wp2
    go_loopw [9] (fun j wr => ∃ (k e : Nat), Hid (k = 2 ^ e) ∧ k < n ∧ 1 ≤ k ∧ j = .int .i64 (k : Int) ∧ wr = w)
      (fun j _ => n - (intOf j).toNat)
    case atStart => exact ⟨1, 0, rfl, by omega, by omega, rfl, rfl⟩
    case round =>
      obtain ⟨k, e, he, hk, hk1, rfl, rfl⟩ := hrel
      by_cases hlt : 2 * k < n
      · have d : decide (2 * (k : Int) < (n : Int)) = true := by simp; omega
        go_wp2
        exact ⟨⟨2 * k, e + 1, by show _ = _; rw [he.out, Nat.pow_succ'], by omega, by omega, by go_num, trivial⟩, by simp [intOf]; omega⟩
      · have d : decide (2 * (k : Int) < (n : Int)) = false := by simp; omega
        have hspl : spl n = k := by
          rw [← spl_unique e n hn2 (by omega) (by rw [← he.out]; omega) (by rw [← he.out]; omega), ← he.out]
        rw [hspl] at HCH ha hb
        clear he hspl hlt h1
        have b0 : (0 : Int) ≤ (rest.length : Int) := by omega
        have b1 : (rest.length : Int) < (rest.length : Int) + 1 := by omega
        have b2 : (rest.length : Int) ≤ (cap : Int) := by omega
        by_cases hik : i < k
        · have d2 : decide ((i : Int) < (k : Int)) = true := by simp; omega
          have d3 : decide ((i : Int) ≥ (k : Int)) = false := by simp; omega
          rw [if_pos hik] at HCH
          go_wp2_with fail
          refine (HIH.out i k leaf _ wr hl (by omega) (by omega) hw HT.out HV.out (by omega)).mono ?_
          rintro e w1 ⟨vb, rfl, hvb, hG1⟩
          have hne := chainL_ne rest i k leaf
          have hshort := chainL_short rest HRS.out i k leaf
          have hlen := chainL_len rest i k leaf
          clear HIH HV
          generalize chainL rest i k leaf = bl at *
          obtain ⟨b0, bt, rfl⟩ : ∃ b0 bt, bl = b0 :: bt := by
            cases bl with
            | nil => exact absurd rfl hne
            | cons x y => exact ⟨x, y, rfl⟩
          have HB : Hid (StrsIs w1 vb (b0 :: bt)) := hvb
          obtain ⟨spb, cb, rfl, hcb, hspb⟩ := hvb
          obtain ⟨gb, ob, rfl, hgb, hcells⟩ := hspb (by simp)
          have HCELLS : Hid (∀ k s, (b0 :: bt)[k]? = some s → w1.cell? ⟨gb, ob + k, none⟩ = some (.string (mkS s))) := hcells
          have c0 : w1.cell? ⟨gb, ob, none⟩ = some (.string (mkS b0)) := hcells 0 b0 rfl
          have hb0 : b0.length ≤ leaf.length + 65 := hshort b0 (by simp)
          have HCH' : Hid (chainL (s :: rest) i n leaf = nodeL 1 (sha b0) s :: b0 :: bt) := HCH
          clear hcells hspb hshort hne HCH
          rw [List.length_cons] at hcb hlen ⊢
          have z0 : (0 : Int) < (bt.length : Int) + 1 := by omega
          obtain ⟨cc, V, hcv, hGV, hSV⟩ := conv_slice w1 b0
          have HSV : Hid (SliceIs V (.slice (some ⟨w1.heap.size, 0, none⟩) b0.length cc) b0) := hSV
          clear hSV
          go_wp2_with fail
          have hG0V := gr_trans hG1 hGV
          refine (hash_any b0 _ V (by have := hG0V.size; omega) (HT.out.gr hG0V hw) (by omega) HSV.out).mono ?_
          rintro e w3 ⟨rfl, hG3⟩
          have hG03 := gr_trans hG0V hG3
          have hG13 := gr_trans hGV hG3
          clear hcv hGV HSV hG3 hG0V
          have hh := length_sha b0
          have HCH2 : Hid (∀ t0, sha b0 = t0 → chainL (s :: rest) i n leaf = nodeL 1 t0 s :: b0 :: bt) := fun t0 h => h ▸ HCH'.out
          clear HCH'
          generalize eT : sha b0 = t0 at hh ⊢
          have HCH3 := HCH2.out t0 eT
          have HCH : Hid _ := HCH3
          clear HCH2 HCH3 eT
          obtain ⟨HI, HO, HN⟩ := sum25 t0 hh
          generalize eR : (t0.map ub).toArray = R at *
          go_wp2_with (first | (refine store_new rfl 25 _ _ rfl R _ _ rfl rfl HI.out HO.out HN.out ?_; intro W4 hW4 hs4 hG4))
          have hG04 := gr_trans hG03 hG4
          have hG14 := gr_trans hG13 hG4
          have HR4 : Hid (∀ V : World, W4.grownBy V none → V.rangeAt w3.heap.size 0 (t0.map ub)) := fun V hV j u hj => by
            have hb := (hV.block _ (Array.getElem?_eq_some_iff.1 hW4).1 (by simp)).trans hW4
            rw [Nat.zero_add, cell_of_row V _ _ _ _ _ hb, ← eR]; simpa using hj
          have HS4 : Hid (∀ V : World, wr.grownBy V none → V.rangeAt g (o + rest.length * 32) (s.map ub)) := fun V hV j u hj =>
            (gr_cell hV (p := ⟨g, o + rest.length * 32 + j, none⟩) hg).trans (HRG.out j u hj)
          have HlI : Hid ((Tryd.prog.info? 25).map (·.size) = some (t0.map ub).length) := by
            show _ = _
            rw [HI.out, ← eR]; simp
          clear hs4 hG03 hG4 hG13 HO HN c0 z0 eR hW4 HI
          refine wp_region_still_tail 5 (by kernel_rfl) (by decide +kernel) ?_
          simp only [List.take_succ_cons, List.take_zero, List.drop_succ_cons, List.drop_zero]
          refine still_load (by rfl) 25 _ rfl w3.heap.size 0 rfl (t0.map ub) _ (HR4.out _ (gr_drew (gr_refl _))) Tryd.underlying25 rfl HlI.out ?_
          iterate 3 still_step
          refine still_load (by rfl) 25 _ rfl g (o + rest.length * 32) rfl (s.map ub) _ (HS4.out _ (gr_drew hG04)) Tryd.underlying25 rfl HsI.out ?_
          refine wpStill_nil ?_
          go_wp2_with fail
          refine (knode_any t0 s hh hs _).mono ?_
          rintro e w5 ⟨rfl, hG5⟩
          have hG05 := gr_trans (gr_drew hG04) hG5
          have hG15 := gr_trans (gr_drew hG14) hG5
          have hG45 := gr_trans (gr_drew (gr_refl W4)) hG5
          clear hG5 hG04 hG14

          clear hG45
          clear HR4 HS4 HlI
          have HCH3 := HCH.out
          clear HCH
          generalize nodeL 1 t0 s = tp at HCH3 ⊢
          have HCH : Hid (chainL (s :: rest) i n leaf = tp :: b0 :: bt) := HCH3
          clear HCH3
          obtain ⟨i0, hi0, hz0, hz1, hz2⟩ := info_parts info9
          have hA := gr_alloc w5 (Obj.cells #[Value.string (mkS tp)] 9)
          have HOWN : Hid ((w5.alloc (Obj.cells #[Value.string (mkS tp)] 9)).ownsRow w5.heap.size 9 1 (.slice (some ⟨w5.heap.size, 0, none⟩) 1 1) 1 [Value.string (mkS tp)]) :=
            ⟨by simp, Or.inr ⟨w5.heap.size, 1, #[Value.string (mkS tp)], rfl, Nat.le_refl _, heap_alloc_new _ _, by omega, by unfold maxLen; omega, by simp, by simp⟩⟩
          have hN : Hid (∀ j u, ((b0 :: bt).map fun t => Value.string (mkS t))[j]? = some u → (w5.alloc (Obj.cells #[Value.string (mkS tp)] 9)).cell? ((⟨gb, ob, none⟩ : Addr).add j) = some u) := fun j u hj => by
            have e : (⟨gb, ob, none⟩ : Addr).add j = ⟨gb, ob + j, none⟩ := by unfold Addr.add; split <;> simp_all
            rw [List.getElem?_map] at hj
            obtain ⟨t, ht, rfl⟩ := Option.map_eq_some_iff.1 hj
            rw [e]
            exact (gr_cell (gr_trans hG15 hA) (p := ⟨gb, ob + j, none⟩) hgb).trans (HCELLS.out j t ht)
          clear HB HCELLS
          go_wp2_with (at_builtin; refine wpList_append_own _ rfl _ _ 30 rfl w5.heap.size 9 i0 (.string ⟨#[]⟩) 1 16 Tryd.underlying30 hi0 hz0 hz1 hz2 rfl (by decide) _ _ _ rfl HOWN.out ⟨gb, ob, none⟩ (bt.length + 1) cb ((b0 :: bt).map fun t => Value.string (mkS t)) rfl (by simp) hN.out ?c2 ?c3 ?c4 ?c5 ?_)
          case c2 => intro u hu; obtain ⟨t, _, rfl⟩ := List.mem_map.1 hu; rfl
          case c3 => unfold maxLen; omega
          case c4 => omega
          case c5 => simp
          intro v' w' hown' hG' _
          have hGF := gr_own1 HOWN.out hG' (gr_trans hG05 hA) (by have := hG05.size; omega)
          have hST : StrsIs w' v' (tp :: b0 :: bt) := strs_of_own (base := w5.heap.size) (n := 1 + (bt.length + 1)) (by simp; omega) (by simpa using hown')
          clear hown' hG' HOWN hN hA hG05 hG15
          go_wp2
          go_ret
          exact ⟨_, rfl, HCH.out ▸ hST, hGF⟩
        · have d2 : decide ((i : Int) < (k : Int)) = false := by simp; omega
          have d3 : decide ((i : Int) ≥ (k : Int)) = true := by simp; omega
          rw [if_neg hik] at HCH
          have s1 : (i : Int) - (k : Int) = ((i - k : Nat) : Int) := by omega
          have s2 : (n : Int) - (k : Int) = ((n - k : Nat) : Int) := by omega
          go_wp2_with fail
          clear s1 s2
          refine (HIH.out (i - k) (n - k) leaf _ wr hl (by omega) (by omega) hw HT.out HV.out (by omega)).mono ?_
          rintro e w1 ⟨vb, rfl, hvb, hG1⟩
          have hne := chainL_ne rest (i - k) (n - k) leaf
          have hshort := chainL_short rest HRS.out (i - k) (n - k) leaf
          have hlen := chainL_len rest (i - k) (n - k) leaf
          clear HIH HV
          generalize chainL rest (i - k) (n - k) leaf = bl at *
          obtain ⟨b0, bt, rfl⟩ : ∃ b0 bt, bl = b0 :: bt := by
            cases bl with
            | nil => exact absurd rfl hne
            | cons x y => exact ⟨x, y, rfl⟩
          have HB : Hid (StrsIs w1 vb (b0 :: bt)) := hvb
          obtain ⟨spb, cb, rfl, hcb, hspb⟩ := hvb
          obtain ⟨gb, ob, rfl, hgb, hcells⟩ := hspb (by simp)
          have HCELLS : Hid (∀ k s, (b0 :: bt)[k]? = some s → w1.cell? ⟨gb, ob + k, none⟩ = some (.string (mkS s))) := hcells
          have c0 : w1.cell? ⟨gb, ob, none⟩ = some (.string (mkS b0)) := hcells 0 b0 rfl
          have hb0 : b0.length ≤ leaf.length + 65 := hshort b0 (by simp)
          have HCH' : Hid (chainL (s :: rest) i n leaf = nodeL 1 s (sha b0) :: b0 :: bt) := HCH
          clear hcells hspb hshort hne HCH
          rw [List.length_cons] at hcb hlen ⊢
          have z0 : (0 : Int) < (bt.length : Int) + 1 := by omega
          obtain ⟨cc, V, hcv, hGV, hSV⟩ := conv_slice w1 b0
          have HSV : Hid (SliceIs V (.slice (some ⟨w1.heap.size, 0, none⟩) b0.length cc) b0) := hSV
          clear hSV
          go_wp2_with fail
          have hG0V := gr_trans hG1 hGV
          refine (hash_any b0 _ V (by have := hG0V.size; omega) (HT.out.gr hG0V hw) (by omega) HSV.out).mono ?_
          rintro e w3 ⟨rfl, hG3⟩
          have hG03 := gr_trans hG0V hG3
          have hG13 := gr_trans hGV hG3
          clear hcv hGV HSV hG3 hG0V
          have hh := length_sha b0
          have HCH2 : Hid (∀ t0, sha b0 = t0 → chainL (s :: rest) i n leaf = nodeL 1 s t0 :: b0 :: bt) := fun t0 h => h ▸ HCH'.out
          clear HCH'
          generalize eT : sha b0 = t0 at hh ⊢
          have HCH3 := HCH2.out t0 eT
          have HCH : Hid _ := HCH3
          clear HCH2 HCH3 eT
          obtain ⟨HI, HO, HN⟩ := sum25 t0 hh
          generalize eR : (t0.map ub).toArray = R at *
          go_wp2_with (first | (refine store_new rfl 25 _ _ rfl R _ _ rfl rfl HI.out HO.out HN.out ?_; intro W4 hW4 hs4 hG4))
          have hG04 := gr_trans hG03 hG4
          have hG14 := gr_trans hG13 hG4
          have HR4 : Hid (∀ V : World, W4.grownBy V none → V.rangeAt w3.heap.size 0 (t0.map ub)) := fun V hV j u hj => by
            have hb := (hV.block _ (Array.getElem?_eq_some_iff.1 hW4).1 (by simp)).trans hW4
            rw [Nat.zero_add, cell_of_row V _ _ _ _ _ hb, ← eR]; simpa using hj
          have HS4 : Hid (∀ V : World, wr.grownBy V none → V.rangeAt g (o + rest.length * 32) (s.map ub)) := fun V hV j u hj =>
            (gr_cell hV (p := ⟨g, o + rest.length * 32 + j, none⟩) hg).trans (HRG.out j u hj)
          have HlI : Hid ((Tryd.prog.info? 25).map (·.size) = some (t0.map ub).length) := by
            show _ = _
            rw [HI.out, ← eR]; simp
          clear hs4 hG03 hG4 hG13 HO HN c0 z0 eR hW4 HI
          refine wp_region_still_tail 5 (by kernel_rfl) (by decide +kernel) ?_
          simp only [List.take_succ_cons, List.take_zero, List.drop_succ_cons, List.drop_zero]
          refine still_load (by rfl) 25 _ rfl w3.heap.size 0 rfl (t0.map ub) _ (HR4.out _ (gr_drew (gr_refl _))) Tryd.underlying25 rfl HlI.out ?_
          iterate 3 still_step
          refine still_load (by rfl) 25 _ rfl g (o + rest.length * 32) rfl (s.map ub) _ (HS4.out _ (gr_drew hG04)) Tryd.underlying25 rfl HsI.out ?_
          refine wpStill_nil ?_
          go_wp2_with fail
          refine (knode_any t0 s hh hs _).mono ?_
          rintro e w5 ⟨rfl, hG5⟩
          have hG05 := gr_trans (gr_drew hG04) hG5
          have hG15 := gr_trans (gr_drew hG14) hG5
          have hG45 := gr_trans (gr_drew (gr_refl W4)) hG5
          clear hG5 hG04 hG14

          go_wp2
          refine wp_region_still_tail 5 (by kernel_rfl) (by decide +kernel) ?_
          simp only [List.take_succ_cons, List.take_zero, List.drop_succ_cons, List.drop_zero]
          iterate 3 still_step
          refine still_load (by rfl) 25 _ rfl g (o + rest.length * 32) rfl (s.map ub) _ (HS4.out _ (gr_drew hG05)) Tryd.underlying25 rfl HsI.out ?_
          refine still_load (by rfl) 25 _ rfl w3.heap.size 0 rfl (t0.map ub) _ (HR4.out _ (gr_drew hG45)) Tryd.underlying25 rfl HlI.out ?_
          refine wpStill_nil ?_
          go_wp2_with fail
          refine (knode_any s t0 hs hh _).mono ?_
          rintro e w6 ⟨rfl, hG6⟩
          have hG05 := gr_trans (gr_drew hG05) hG6
          have hG15 := gr_trans (gr_drew hG15) hG6
          clear hG6
          clear hG45
          generalize w6 = w5 at hG05 hG15 ⊢
          clear HR4 HS4 HlI
          have HCH3 := HCH.out
          clear HCH
          generalize nodeL 1 s t0 = tp at HCH3 ⊢
          have HCH : Hid (chainL (s :: rest) i n leaf = tp :: b0 :: bt) := HCH3
          clear HCH3
          obtain ⟨i0, hi0, hz0, hz1, hz2⟩ := info_parts info9
          have hA := gr_alloc w5 (Obj.cells #[Value.string (mkS tp)] 9)
          have HOWN : Hid ((w5.alloc (Obj.cells #[Value.string (mkS tp)] 9)).ownsRow w5.heap.size 9 1 (.slice (some ⟨w5.heap.size, 0, none⟩) 1 1) 1 [Value.string (mkS tp)]) :=
            ⟨by simp, Or.inr ⟨w5.heap.size, 1, #[Value.string (mkS tp)], rfl, Nat.le_refl _, heap_alloc_new _ _, by omega, by unfold maxLen; omega, by simp, by simp⟩⟩
          have hN : Hid (∀ j u, ((b0 :: bt).map fun t => Value.string (mkS t))[j]? = some u → (w5.alloc (Obj.cells #[Value.string (mkS tp)] 9)).cell? ((⟨gb, ob, none⟩ : Addr).add j) = some u) := fun j u hj => by
            have e : (⟨gb, ob, none⟩ : Addr).add j = ⟨gb, ob + j, none⟩ := by unfold Addr.add; split <;> simp_all
            rw [List.getElem?_map] at hj
            obtain ⟨t, ht, rfl⟩ := Option.map_eq_some_iff.1 hj
            rw [e]
            exact (gr_cell (gr_trans hG15 hA) (p := ⟨gb, ob + j, none⟩) hgb).trans (HCELLS.out j t ht)
          clear HB HCELLS
          go_wp2_with (at_builtin; refine wpList_append_own _ rfl _ _ 30 rfl w5.heap.size 9 i0 (.string ⟨#[]⟩) 1 16 Tryd.underlying30 hi0 hz0 hz1 hz2 rfl (by decide) _ _ _ rfl HOWN.out ⟨gb, ob, none⟩ (bt.length + 1) cb ((b0 :: bt).map fun t => Value.string (mkS t)) rfl (by simp) hN.out ?c2 ?c3 ?c4 ?c5 ?_)
          case c2 => intro u hu; obtain ⟨t, _, rfl⟩ := List.mem_map.1 hu; rfl
          case c3 => unfold maxLen; omega
          case c4 => omega
          case c5 => simp
          intro v' w' hown' hG' _
          have hGF := gr_own1 HOWN.out hG' (gr_trans hG05 hA) (by have := hG05.size; omega)
          have hST : StrsIs w' v' (tp :: b0 :: bt) := strs_of_own (base := w5.heap.size) (n := 1 + (bt.length + 1)) (by simp; omega) (by simpa using hown')
          clear hown' hG' HOWN hN hA hG05 hG15
          go_wp2
          go_ret
          exact ⟨_, rfl, HCH.out ▸ hST, hGF⟩
end Go.Proofs.YtplhlhjakapaaaaDoor
