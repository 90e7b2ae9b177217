/-
  rootslaw's pick and size.
-/
import Derived.Test.YtplhlhjakapaaaaDoorDigA
import Derived.Test.YtplhlhjakapaaaaDoorOf
namespace Go.Proofs.YtplhlhjakapaaaaDoor
open Go Go.RowKit

set_option maxHeartbeats 1000000 in
set_option maxRecDepth 100000 in
theorem pick_any (c n : Int) (h0 : 0 < n) (hn : n < 9223372036854775808) (hc : -9223372036854775808 ≤ c) (hc' : c < 9223372036854775808) (w : World) :
    Calls Tryd.prog 28 #[.int .i64 c, .int .i64 n] w fun e w' => ∃ p : Nat, e = .returned (.int .i64 (p : Int)) ∧ (p : Int) < n ∧ w' = w := by
  have hz : (n == 0) = false := by simp; omega
  go_enter Tryd.func28, Tryd.ntmps28
  by_cases hneg : c < 0
  · have d1 : decide (c < 0) = true := by simp; omega
    have e1 : -(c + 1).tmod n = -(c + 1) % n := by rw [← Int.neg_tmod, Int.tmod_eq_emod_of_nonneg (by omega)]
    have e2 : 0 ≤ -(c + 1) % n := Int.emod_nonneg _ (by omega)
    have e3 : -(c + 1) % n < n := Int.emod_lt_of_pos _ h0
    go_wp2
    go_ret
    exact ⟨(-(c + 1) % n).toNat, by rw [Int.toNat_of_nonneg e2]; rfl, by rw [Int.toNat_of_nonneg e2]; exact e3, rfl⟩
  · have d1 : decide (c < 0) = false := by simp; omega
    have e2 : 0 ≤ c % n := Int.emod_nonneg _ (by omega)
    have e3 : c % n < n := Int.emod_lt_of_pos _ h0
    go_wp2
    go_ret
    exact ⟨(c % n).toNat, by rw [Int.toNat_of_nonneg e2]; rfl, by rw [Int.toNat_of_nonneg e2]; exact e3, rfl⟩

/-- Texts that a slice holds. -/
def StrsIs (w : World) (v : Value) (l : List (List UInt8)) : Prop :=
  ∃ sp cap, v = .slice sp l.length cap ∧ l.length ≤ cap ∧ (0 < l.length → ∃ g o, sp = some ⟨g, o, none⟩ ∧ g < w.heap.size ∧ ∀ k s, l[k]? = some s → w.cell? ⟨g, o + k, none⟩ = some (.string (mkS s)))

theorem StrsIs.gr {a b : World} {v : Value} {l : List (List UInt8)} (h : StrsIs a v l) (hG : a.grownBy b none) : StrsIs b v l := by
  obtain ⟨sp, cap, rfl, hc, hsp⟩ := h
  refine ⟨sp, cap, rfl, hc, fun h0 => ?_⟩
  obtain ⟨g, o, h1, h2, h3⟩ := hsp h0
  exact ⟨g, o, h1, Nat.lt_of_lt_of_le h2 hG.size, fun k s hk => (gr_cell hG (p := ⟨g, o + k, none⟩) h2).trans (h3 k s hk)⟩

/-- The bytes of texts, and how many they are. -/
def bulkL (l : List (List UInt8)) : Nat := l.length + (l.map List.length).sum

set_option maxHeartbeats 1000000 in
set_option maxRecDepth 100000 in
theorem size_any (l : List (List UInt8)) (v : Value) (w : World) (hv : StrsIs w v l) (hl : l.length < 140737488355328) (hs : ∀ s ∈ l, s.length < 140737488355328) :
    Calls Tryd.prog 17 #[v] w fun e w' => ∃ z : Nat, e = .returned (.int .i64 (z : Int)) ∧ (z ≤ 16384 → bulkL l ≤ 16384) ∧ w' = w := by
  obtain ⟨sp, cap, rfl, hcap, hsp⟩ := hv
  have HS : Hid _ := hs
  have HSP : Hid _ := hsp
  clear hs hsp
  have hsz := size_mkS
  go_enter Tryd.func17, Tryd.ntmps17
  go_wp2
  go_loopw [3, 4] (fun n i wr => ∃ k N : Nat, k ≤ l.length ∧ i = .int .i64 (k : Int) ∧ n = .int .i64 (N : Int) ∧ N = l.length + ((l.take k).map List.length).sum ∧ N < 140737488371713 ∧ wr = w)
    (fun n i _ => l.length - (intOf i).toNat)
  case atStart => exact ⟨0, l.length, by omega, rfl, rfl, by simp, by omega, rfl⟩
  case round =>
    obtain ⟨k, N, hk, rfl, rfl, hN, hb, rfl⟩ := hrel
    by_cases h1 : k < l.length
    · have d1 : decide ((k : Int) < (l.length : Int)) = true := by simp; omega
      by_cases h2 : N ≤ 16384
      · have d2 : decide ((N : Int) ≤ 16384) = true := by simp; omega
        obtain ⟨g, o, rfl, hg, hc⟩ := HSP.out (by omega)
        have c1 := hc k l[k] (by simp)
        have hx : l[k].length < 140737488355328 := HS.out _ (by simp)
        have hN' : N + l[k].length = l.length + ((l.take (k + 1)).map List.length).sum := by
          rw [List.take_succ_eq_append_getElem h1, List.map_append, List.sum_append, ← Nat.add_assoc, ← hN]; simp
        clear hN hc
        generalize l[k] = x at *
        go_wp2
        exact ⟨⟨k + 1, N + x.length, by omega, by go_num, by go_num, hN', by omega, trivial⟩, by simp [intOf]; omega⟩
      · have d2 : decide ((N : Int) ≤ 16384) = false := by simp; omega
        clear hN
        go_wp2
        go_ret
        exact ⟨N, rfl, by omega, rfl⟩
    · have d1 : decide ((k : Int) < (l.length : Int)) = false := by simp; omega
      obtain rfl : k = l.length := by omega
      rw [List.take_length] at hN
      have hN' : Hid (N = bulkL l) := hN
      clear hN
      go_wp2
      go_ret
      exact ⟨N, rfl, fun h => by rw [← hN'.out]; exact h, rfl⟩
end Go.Proofs.YtplhlhjakapaaaaDoor
