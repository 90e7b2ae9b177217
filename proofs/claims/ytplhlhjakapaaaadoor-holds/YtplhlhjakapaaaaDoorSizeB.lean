/-
  rootslaw's size, and that it is no great number.
-/
import Derived.Test.YtplhlhjakapaaaaDoorConv
import Derived.Deep.DeepCutAuto
import Derived.Shelf.Small.Bits
import Derived.Lib.ItoaNum
namespace Go.Proofs.YtplhlhjakapaaaaDoor
open Go Go.RowKit

set_option maxHeartbeats 1000000 in
set_option maxRecDepth 100000 in
theorem size_lt (l : List (List UInt8)) (v : Value) (w : World) (hv : StrsIs w v l) (hl : l.length < 140737488355328) (hs : ∀ s ∈ l, s.length < 140737488355328) :
    Calls Tryd.prog 17 #[v] w fun e w' => ∃ z : Nat, e = .returned (.int .i64 (z : Int)) ∧ (z ≤ 16384 → bulkL l ≤ 16384) ∧ z < 140737488371713 ∧ w' = w := by
  obtain ⟨sp, cap, rfl, hcap, hsp⟩ := hv
  have HS : Hid _ := hs
  have HSP : Hid _ := hsp
  clear hs hsp
  have hsz := size_mkS
  go_enter Tryd.func17, Tryd.ntmps17
  go_wp2
  go_loopw [3, 4] (fun n i wr => ∃ k N : Nat, k ≤ l.length ∧ i = .int .i64 (k : Int) ∧ n = .int .i64 (N : Int) ∧ N = l.length + ((l.take k).map List.length).sum ∧ N < 140737488371713 ∧ wr = w)
    (fun n i _ => l.length - (intOf i).toNat)
  case atStart => exact ⟨0, l.length, by omega, rfl, rfl, by simp, by omega, rfl⟩
  case round =>
    obtain ⟨k, N, hk, rfl, rfl, hN, hb, rfl⟩ := hrel
    by_cases h1 : k < l.length
    · have d1 : decide ((k : Int) < (l.length : Int)) = true := by simp; omega
      by_cases h2 : N ≤ 16384
      · have d2 : decide ((N : Int) ≤ 16384) = true := by simp; omega
        obtain ⟨g, o, rfl, hg, hc⟩ := HSP.out (by omega)
        have c1 := hc k l[k] (by simp)
        have hx : l[k].length < 140737488355328 := HS.out _ (by simp)
        have hN' : N + l[k].length = l.length + ((l.take (k + 1)).map List.length).sum := by
          rw [List.take_succ_eq_append_getElem h1, List.map_append, List.sum_append, ← Nat.add_assoc, ← hN]; simp
        clear hN hc
        generalize l[k] = x at *
        go_wp2
        exact ⟨⟨k + 1, N + x.length, by omega, by go_num, by go_num, hN', by omega, trivial⟩, by simp [intOf]; omega⟩
      · have d2 : decide ((N : Int) ≤ 16384) = false := by simp; omega
        clear hN
        go_wp2
        go_ret
        exact ⟨N, rfl, by omega, hb, rfl⟩
    · have d1 : decide ((k : Int) < (l.length : Int)) = false := by simp; omega
      obtain rfl : k = l.length := by omega
      rw [List.take_length] at hN
      have hN' : Hid (N = bulkL l) := hN
      clear hN
      go_wp2
      go_ret
      exact ⟨N, rfl, fun h => by rw [← hN'.out]; exact h, hb, rfl⟩
end Go.Proofs.YtplhlhjakapaaaaDoor
