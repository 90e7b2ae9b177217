/-
  sync.Once, one goroutine: its parts.
-/
import Derived.Test.YtplhlhjakapaaaaDoorPNode
import Derived.Tactics
import Derived.Tactics2
import Derived.Defers
import Derived.Laws.Pointers
import Derived.Laws.LoneSync
import Derived.RegionTactic
import Derived.RegionCalls
namespace Go.Proofs.YtplhlhjakapaaaaDoor
open Go Go.RowKit

theorem race_off (w : World) : (callFunc 106 #[]).run Tryd.prog w = .ok (.value (.tuple #[])) w := run_call_mark0 Tryd.func106 (by kernel_rfl) (by kernel_rfl) (by kernel_rfl) .disable (by kernel_rfl) w
theorem race_on (w : World) : (callFunc 107 #[]).run Tryd.prog w = .ok (.value (.tuple #[])) w := run_call_mark0 Tryd.func107 (by kernel_rfl) (by kernel_rfl) (by kernel_rfl) .enable (by kernel_rfl) w
theorem race_acquire (a : Addr) (w : World) : (callFunc 118 #[.pointer (some a)]).run Tryd.prog w = .ok (.value (.tuple #[])) w := run_call_marked Tryd.func118 (by kernel_rfl) (by kernel_rfl) (by kernel_rfl) .acquire (by kernel_rfl) a w
theorem race_merge (a : Addr) (w : World) : (callFunc 105 #[.pointer (some a)]).run Tryd.prog w = .ok (.value (.tuple #[])) w := run_call_marked Tryd.func105 (by kernel_rfl) (by kernel_rfl) (by kernel_rfl) .releaseMerge (by kernel_rfl) a w

theorem store_deferred (b : Nat) (x : Value) (u : FrameMode) (w : World) (hc : w.cell? ⟨b, 0, none⟩ = some x) (hz : w.frozen? ⟨b, 0, none⟩ = false) :
    CallsD Tryd.prog 154 #[.pointer (some ⟨b, 0, none⟩), .bool true] u w fun e u' w' => u' = u ∧ (e = .returned (.tuple #[]) ∧ w' = w.drew.setCell ⟨b, 0, none⟩ (.int .u32 1)) := by
  have hc' : w.drew.cell? ⟨b, 0, none⟩ = some x := by go_simp
  have hz' : w.drew.frozen? ⟨b, 0, none⟩ = false := by go_simp
  have hst := run_call_store (P := Tryd.prog) Tryd.func157 (by kernel_rfl) (by kernel_rfl) (by kernel_rfl) (by kernel_rfl) (k := .u32) (y := 1) hc' hz'
  go_enter_d Tryd.func154, Tryd.ntmps154
  go_wp2
  go_region_calls
  all_goals (go_end0; exact ⟨rfl, rfl⟩)

set_option maxHeartbeats 2000000 in
set_option maxRecDepth 100000 in
theorem unlock_in (b : Nat) (w : World) (hc : w.cell? ⟨b, 1, none⟩ = some (.int .i32 1)) (hz : w.frozen? ⟨b, 1, none⟩ = false) :
    Calls Tryd.prog 156 #[.pointer (some ⟨b, 1, none⟩)] w fun e w' => e = .returned (.tuple #[]) ∧ w' = w.setCell ⟨b, 1, none⟩ (.int .i32 0) := by
  have hd := race_off
  have he := race_on
  have hr := race_merge
  have hadd := run_call_add (P := Tryd.prog) Tryd.func161 (by kernel_rfl) (by kernel_rfl) (by kernel_rfl) .i32 (by kernel_rfl) (y := -1) (s := 0) hc hz (by simp [go_sem]; rfl)
  have hcv := run_convert_to_unsafe (P := Tryd.prog) (src := 233) (dst := 156) Tryd.underlying233 Tryd.underlying156 (by kernel_rfl) hc
  go_enter Tryd.func156, Tryd.ntmps156
  go_wp2
  go_end0
  exact ⟨rfl, rfl⟩

theorem unlock_deferred (b : Nat) (u : FrameMode) (w : World) (hc : w.cell? ⟨b, 1, none⟩ = some (.int .i32 1)) (hz : w.frozen? ⟨b, 1, none⟩ = false) :
    CallsD Tryd.prog 153 #[.pointer (some ⟨b, 1, none⟩)] u w fun e u' w' => u' = u ∧ (e = .returned (.tuple #[]) ∧ w' = w.setCell ⟨b, 1, none⟩ (.int .i32 0)) := by
  go_enter_d Tryd.func153, Tryd.ntmps153
  go_wp2_with (go_at_call 156; refine (unlock_in b _ (by go_simp) (by go_simp)).mono ?_; rintro e w' ⟨rfl, rfl⟩)
  go_end0
  exact ⟨rfl, rfl⟩

set_option maxHeartbeats 2000000 in
set_option maxRecDepth 100000 in
theorem lock_in (b : Nat) (w : World) (hc : w.cell? ⟨b, 1, none⟩ = some (.int .i32 0)) (hz : w.frozen? ⟨b, 1, none⟩ = false) :
    Calls Tryd.prog 155 #[.pointer (some ⟨b, 1, none⟩)] w fun e w' => e = .returned (.tuple #[]) ∧ w' = w.setCell ⟨b, 1, none⟩ (.int .i32 1) := by
  have hd := race_off
  have he := race_on
  have ha := race_acquire
  have hcas := run_call_cas_hit (P := Tryd.prog) Tryd.func159 (by kernel_rfl) (by kernel_rfl) (by kernel_rfl) .i32 (by kernel_rfl) (y := 1) hc hz
  have hc' : (w.setCell ⟨b, 1, none⟩ (.int .i32 1)).cell? ⟨b, 1, none⟩ = some (.int .i32 1) := World.cell?_setCell_same w ⟨b, 1, none⟩ _ hc
  have hcv := run_convert_to_unsafe (P := Tryd.prog) (src := 233) (dst := 156) Tryd.underlying233 Tryd.underlying156 (by kernel_rfl) hc'
  go_enter Tryd.func155, Tryd.ntmps155
  go_wp2
  first | go_end0 | (simp only [Exit.inBlock, Exit.then]; refine bodyPost_ret (results_none rfl _ _ _) rfl ?_) | refine bodyPost_ret (results_none rfl _ _ _) rfl ?_
  exact ⟨rfl, rfl⟩

theorem lock_free (b : Nat) (w : World) (hc : w.cell? ⟨b, 1, none⟩ = some (.int .i32 0)) (hz : w.frozen? ⟨b, 1, none⟩ = false) :
    Calls Tryd.prog 152 #[.pointer (some ⟨b, 1, none⟩)] w fun e w' => e = .returned (.tuple #[]) ∧ w' = w.setCell ⟨b, 1, none⟩ (.int .i32 1) := by
  go_enter Tryd.func152, Tryd.ntmps152
  go_wp2_with (go_at_call 155; refine (lock_in b _ (by go_simp) (by go_simp)).mono ?_; rintro e w' ⟨rfl, rfl⟩)
  go_end0
  exact ⟨rfl, rfl⟩
end Go.Proofs.YtplhlhjakapaaaaDoor
