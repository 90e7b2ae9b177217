import Derived.Test.YtjgmmdgcknnlpaaDoorSum
import Derived.Test.YtjgmmdgcknnlpaaDoorDig
namespace Go.Proofs.YtjgmmdgcknnlpaaDoor
open Go Go.RowKit

abbrev ud (x : Nat) : Value := .int .u64 (x : Int)

set_option maxHeartbeats 400000 in
set_option maxRecDepth 100000 in
theorem add_any (b : Nat) (t : TypeId) (V : List Nat) (i x : Nat) (w : World) (hrow : w.heap[b]? = some (.cells (V.map ud).toArray t (0, 0)))
    (hd : ∀ d ∈ V, d < 4294967296) (hx : x < 18446744073709551616) (hl : V.length < 1000) (hv : val V + x * 4294967296 ^ i < 4294967296 ^ V.length) :
    Calls Tryd.prog 148 #[.slice (some ⟨b, 0, none⟩) V.length V.length, .int .i64 (i : Int), .int .u64 (x : Int)] w fun e w' => e = .returned (.tuple #[]) ∧
      ∃ V', V'.length = V.length ∧ (∀ d ∈ V', d < 4294967296) ∧ val V' = val V + x * 4294967296 ^ i ∧ w'.heap[b]? = some (.cells (V'.map ud).toArray t (0, 0)) ∧ w.grownBy w' (some b) := by
  obtain ⟨S, hS⟩ : ∃ S, S = val V + x * 4294967296 ^ i := ⟨_, rfl⟩
  obtain ⟨n, hn⟩ : ∃ n, n = V.length := ⟨_, rfl⟩
  have HS : Hid (S = val V + x * 4294967296 ^ i) := hS
  have HV : Hid (S < 4294967296 ^ n) := by rw [hS, hn]; exact hv
  have HD : Hid _ := hd
  have HR : Hid _ := hrow
  have HX : Hid (x < 18446744073709551616) := hx
  rw [← hS, ← hn]
  rw [← hn] at hl
  have HN : Hid (n = V.length) := hn
  clear hS hv hd hrow hx hn
  go_enter Tryd.func148, Tryd.ntmps148
  go_wp2
  go_loopw [1, 2] (fun vi vx wr => ∃ (i x : Nat) (U : List Nat), vi = .int .i64 (i : Int) ∧ vx = .int .u64 (x : Int) ∧ Hid (x < 18446744073709551616) ∧ Hid (U.length = n) ∧ Hid (∀ d ∈ U, d < 4294967296) ∧ Hid (val U + x * 4294967296 ^ i = S) ∧
      wr.heap[b]? = some (.cells (U.map ud).toArray t (0, 0)) ∧ w.grownBy wr (some b))
    (fun vi _ _ => n - (intOf vi).toNat)
  case atStart => exact ⟨i, x, V, rfl, rfl, HX, HN.out.symm, HD, HS.out.symm, HR.out, ⟨rfl, rfl, rfl, Nat.le_refl _, fun _ _ _ => rfl⟩⟩
  case round =>
    obtain ⟨i, x, U, rfl, rfl, hX, hU, hD, hT, hrow, hG⟩ := hrel
    by_cases h0 : 0 < x
    · have hin : i < n := by
        have h1 := HV.out
        rw [← hT.out, ← hU.out] at h1
        have := add_in U i x h0 h1
        rwa [hU.out] at this
      have hxb : x < 18446744073709551616 := hX.out
      have hc : wr.cell? ⟨b, i, none⟩ = some (ud (U.getD i 0)) := by
        rw [cell_of_row wr _ _ _ _ _ hrow, List.getElem?_toArray, List.getElem?_map, List.getElem?_eq_getElem (by rw [hU.out]; omega)]
        simp [hU.out, hin]
      have hf : wr.frozen? ⟨b, i, none⟩ = false := frozen_of_row wr _ _ _ _ hrow
      have hdl : U.getD i 0 < 4294967296 := by
        refine hD.out _ ?_
        rw [List.getD_eq_getElem?_getD, List.getElem?_eq_getElem (by rw [hU.out]; omega)]
        exact List.getElem_mem _
      generalize eD : U.getD i 0 = dd at hc hdl
      have ED : Hid (U.getD i 0 = dd) := eD
      clear eD
      have hi2 : (i : Int) < (n : Int) := by omega
      go_wp2
      have hst := add_step U i x (by rw [hU.out]; exact hin)
      rw [ED.out] at hst
      refine ⟨⟨i + 1, x / 4294967296 + (dd + x % 4294967296) / 4294967296, U.set i ((dd + x % 4294967296) % 4294967296), by go_num, by go_num, ?_, ?_, ?_, hst.trans hT.out, ?_, ?_⟩, by simp [intOf]; omega⟩
      · show _ < _
        omega
      · show _ = _
        rw [List.length_set]; exact hU.out
      · intro d hd
        rcases List.mem_or_eq_of_mem_set hd with h | h
        · exact hD.out d h
        · rw [h]; exact Nat.mod_lt _ (by decide)
      · rw [heap_setCell_same _ _ _ _ _ _ hrow, List.setIfInBounds_toArray, List.map_set]
        congr 5
        omega
      · exact ⟨hG.os, hG.tape, hG.output, by simpa using hG.size, fun j hj hne => (heap_setCell_other _ _ _ _ (by simpa using hne)).trans (hG.block j hj hne)⟩
    · have hx0 : x = 0 := by omega
      subst hx0
      have HG : Hid _ := hG
      have HRW : Hid _ := hrow
      clear hG hrow h0
      go_wp2
      go_end0
      refine ⟨rfl, U, hU.out, hD.out, ?_, HRW.out, HG.out⟩
      have := hT.out
      simpa using this
end Go.Proofs.YtjgmmdgcknnlpaaDoor
