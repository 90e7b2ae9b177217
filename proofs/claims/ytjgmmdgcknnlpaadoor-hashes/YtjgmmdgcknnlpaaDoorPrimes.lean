import Derived.Test.YtjgmmdgcknnlpaaDoorPr
namespace Go.Proofs.YtjgmmdgcknnlpaaDoor
open Go Go.RowKit

def okP (j : Nat) (o : Nat) : Bool := (2 + j) % o != 0
theorem pl_succ (j : Nat) : pl (j + 1) = if (pl j).all (okP j) then pl j ++ [2 + j] else pl j := rfl

theorem okP_val (j o : Nat) : ((2 + (j : Int)) % (o : Int) != 0) = okP j o := by
  have e : (2 + (j : Int)) % (o : Int) = (((2 + j) % o : Nat) : Int) := by simp
  rw [e, okP]
  cases h : ((2 + j) % o != 0) with
  | true => rw [bne_iff_ne] at h ⊢; omega
  | false =>
    have h' : (2 + j) % o = 0 := by simpa using h
    rw [h']; rfl
theorem all_prefix (l : List Nat) (f : Nat → Bool) (k : Nat) (h : false = (l.take k).all f) : false = l.all f := by
  rw [← List.take_append_drop k l, List.all_append, ← h]; rfl

set_option maxHeartbeats 1000000 in
set_option maxRecDepth 100000 in
theorem primes_any (w : World) :
    Calls Tryd.prog 76 #[.int .i64 64] w fun e w' => ∃ g cap, e = .returned (.slice (some ⟨g, 0, none⟩) 64 cap) ∧ (∀ j, j < 64 → w'.cell? ⟨g, j, none⟩ = some (ud (PS.getD j 0))) ∧ w.heap.size ≤ g ∧ g < w'.heap.size ∧ w.grownBy w' none := by
  obtain ⟨i0, hi0, hz0, hz1, hz2⟩ := info_parts info77
  go_enter Tryd.func76, Tryd.ntmps76
  go_wp2
  go_loopw [3, 4] (fun out v wr => ∃ j n sp cap, j ≤ 310 ∧ n ≤ 64 ∧ Hid (n = (pl j).length) ∧ out = .slice sp n cap ∧ v = .int .u64 (2 + (j : Int)) ∧ wr.ownsRow w.heap.size 74 1 (.slice sp n cap) n ((pl j).map ud) ∧ w.grownBy wr none)
    (fun _ v _ => 312 - (intOf v).toNat)
  case atStart => exact ⟨0, 0, none, 0, by omega, by omega, rfl, rfl, rfl, World.ownsRow_nil _ _ _ _, gr_refl _⟩
  case round =>
    obtain ⟨j, n, sp, cap, hj, hn64, hn, rfl, rfl, hown, hG⟩ := hrel
    by_cases hlt : j < 310
    · have hn63 : n < 64 := by rw [hn.out]; exact pl_lt j hlt
      have hi64 : (n : Int) < 64 := by omega
      go_wp2
      go_loopw [5, 6] (fun b i ws => ∃ (k : Nat) (bb : Bool), k ≤ n ∧ i = .int .i64 (k : Int) ∧ b = .bool bb ∧ Hid (bb = ((pl j).take k).all (okP j)) ∧ ws = wr)
        (fun _ i _ => n - (intOf i).toNat)
      case atStart => exact ⟨0, true, by omega, rfl, rfl, rfl, rfl⟩
      case round =>
        obtain ⟨k, bb, hk, rfl, rfl, hbb, rfl⟩ := hrel
        by_cases hgo : k < n ∧ bb = true
        · obtain ⟨hkn, rfl⟩ := hgo
          obtain ⟨g, cap', e1, hgb, hgs, hcap, hcell⟩ := owned hown (by omega)
          obtain ⟨rfl, rfl⟩ : sp = some ⟨g, 0, none⟩ ∧ cap = cap' := by simpa using e1
          have hc : wr.cell? ⟨g, k, none⟩ = some (ud ((pl j).getD k 0)) := by
            rw [hcell k hkn, List.getElem?_map, List.getElem?_eq_getElem (by rw [← hn.out]; exact hkn)]
            have : k < (pl j).length := by rw [← hn.out]; exact hkn
            simp [this]
          have hmem : (pl j).getD k 0 ∈ pl j := by
            have : k < (pl j).length := by rw [← hn.out]; exact hkn
            rw [List.getD_eq_getElem?_getD, List.getElem?_eq_getElem this]
            exact List.getElem_mem _
          obtain ⟨ho1, ho2⟩ := pl_mem j _ hmem
          have HN : Hid (((pl j).take (k + 1)).all (okP j) = okP j ((pl j).getD k 0)) := by
            show _ = _
            have hk' : k < (pl j).length := by rw [← hn.out]; exact hkn
            rw [List.take_succ_eq_append_getElem hk', List.all_append, ← hbb.out]
            simp [hk']
          generalize eO : (pl j).getD k 0 = o at hc ho1 ho2 HN
          clear hcell e1 hmem eO
          go_wp2
          rw [okP_val]
          exact ⟨⟨k + 1, okP j o, by omega, by go_num, rfl, HN.out.symm, trivial⟩, by simp [intOf]; omega⟩
        · have hB : Hid (bb = (pl j).all (okP j)) := by
            show _ = _
            by_cases hkn : k < n
            · have hf : bb = false := by cases bb <;> simp_all
              subst hf
              exact all_prefix _ _ _ hbb.out
            · rw [hbb.out, List.take_of_length_le (by rw [← hn.out]; omega)]
          have hcases : (decide (k < n) = false ∧ k = n) ∨ (k < n ∧ bb = false) := by
            by_cases hkn : k < n
            · right; refine ⟨hkn, ?_⟩; cases bb <;> simp_all
            · left; simp; omega
          clear hgo hbb
          cases bb with
          | false =>
            have HP : Hid (pl (j + 1) = pl j) := by
              show _ = _
              rw [pl_succ, ← hB.out]; rfl
            have HN2 : Hid (n = (pl (j + 1)).length) := by show _ = _; rw [HP.out]; exact hn.out
            rcases hcases with ⟨h1, h2⟩ | ⟨h1, _⟩
            · have h1' : ¬ k < n := by omega
              clear h2
              go_wp2
              exact ⟨⟨j + 1, n, sp, cap, by omega, hn64, HN2, rfl, by go_num, by rw [HP.out]; exact hown, hG⟩, by simp [intOf]; omega⟩
            · go_wp2
              exact ⟨⟨j + 1, n, sp, cap, by omega, hn64, HN2, rfl, by go_num, by rw [HP.out]; exact hown, hG⟩, by simp [intOf]; omega⟩
          | true =>
            have HP : Hid (pl (j + 1) = pl j ++ [2 + j]) := by
              show _ = _
              rw [pl_succ, ← hB.out]; rfl
            have HN2 : Hid (n + 1 = (pl (j + 1)).length) := by show _ = _; rw [HP.out, List.length_append, ← hn.out]; rfl
            have h1 : decide (k < n) = false := by rcases hcases with ⟨h1, _⟩ | ⟨_, h2⟩ <;> simp_all
            have h1' : ¬ k < n := by simpa using h1
            clear hcases
            go_wp2_with (at_builtin; refine wpList_append_own _ rfl _ _ 116 rfl w.heap.size 74 i0 (.int .u64 0) 1 8 Tryd.underlying116 hi0 hz0 hz1 hz2 rfl (by decide) _ _ _ rfl (hown.alloc _) ⟨wr.heap.size, 0, none⟩ 1 1 [.int .u64 (2 + (j : Int))] rfl rfl ?c1 ?c2 ?c3 ?c4 ?c5 ?_)
            case c1 =>
              intro j u hj
              match j, hj with
              | 0, hj => simp at hj; subst hj; simp [Addr.add]
            case c2 => intro u hu; simp at hu; subst hu; rfl
            case c3 => unfold maxLen; omega
            case c4 => omega
            case c5 => have := hG.size; simp; omega
            intro v4 w4 hown4 hG4 _
            have hG04 : w.grownBy w4 none := by
              have hlt0 := (hown.lt)
              exact ⟨hG4.os.trans hG.os, hG4.tape.trans hG.tape, hG4.output.trans hG.output, by have a := hG4.size; have b := hG.size; simp at a; omega, fun i hi _ =>
                (hG4.block i (by have := hG.size; simp; omega) (fun e => by have := (hlt0 i e.symm).1; omega)).trans ((Below.heap_alloc _ _ _ (by have := hG.size; omega)).trans (hG.block i hi (by simp)))⟩
            have hsn : (pl j).map ud ++ [.int .u64 (2 + (j : Int))] = (pl (j + 1)).map ud := by rw [HP.out]; simp
            rw [hsn] at hown4
            obtain ⟨g5, cap5, rfl, hg5, _, _, _⟩ := owned hown4 (by omega)
            clear hsn hG4 hown hG
            go_wp2
            exact ⟨⟨j + 1, n + 1, some ⟨g5, 0, none⟩, cap5, by omega, by omega, HN2, rfl, by go_num, hown4, hG04⟩, by simp [intOf]; omega⟩
    · have hj310 : j = 310 := by omega
      subst hj310
      have hn64' : n = 64 := by rw [hn.out, pl_310]; rfl
      subst hn64'
      obtain ⟨g, cap', e1, hgb, hgs, hcap, hcell⟩ := owned hown (by omega)
      obtain ⟨rfl, rfl⟩ : sp = some ⟨g, 0, none⟩ ∧ cap = cap' := by simpa using e1
      rw [pl_310] at hcell
      have HC : Hid _ := hcell
      clear hcell e1 hown hlt hn
      go_wp2
      go_ret
      refine ⟨g, cap, rfl, fun j hj => ?_, hgb, hgs, hG⟩
      rw [HC.out j hj, List.getElem?_map, List.getElem?_eq_getElem (by show _ < 64; exact hj)]
      have : j < PS.length := hj
      simp [this]
end Go.Proofs.YtjgmmdgcknnlpaaDoor
