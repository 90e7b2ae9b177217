/-
  The table of the roots of empty parts, made once, and asked.
-/
import Derived.Test.YtplhlhjakapaaaaDoorOnceB
namespace Go.Proofs.YtplhlhjakapaaaaDoor
open Go Go.RowKit

theorem bload_any (b : Nat) (x : Int) (w : World) (h : w.cell? ⟨b, 0, none⟩ = some (.int .u32 x)) :
    Calls Tryd.prog 149 #[.pointer (some ⟨b, 0, none⟩)] w fun e w' => e = .returned (.bool (x != 0)) ∧ w' = w := by
  have hl := run_call_load (P := Tryd.prog) Tryd.func151 (by kernel_rfl) (by kernel_rfl) (by kernel_rfl) .u32 (by kernel_rfl) h
  go_enter Tryd.func149, Tryd.ntmps149
  go_wp2
  go_ret
  exact ⟨rfl, rfl⟩

set_option maxHeartbeats 2000000 in
set_option maxRecDepth 100000 in
theorem slow_any (E B : Nat) (w : World) (hBE : B ≠ E) (hBs : B < w.heap.size) (hP : w.cell? ⟨B, 0, none⟩ = some (.pointer (some ⟨E, 0, none⟩))) (hE : TabAt w E 0 0 (tabK 0)) (hT : ∀ V, w.grownBy V (some E) → Tab V ∧ 1 < V.heap.size) :
    Calls Tryd.prog 150 #[.pointer (some ⟨E, 0, none⟩), .func (.func 147) #[] #[.pointer (some ⟨B, 0, none⟩)]] w fun e w' => e = .returned (.tuple #[]) ∧ TabAt w' E 1 0 (tabK 64) ∧ w.grownBy w' (some E) := by
  have HE1 : Hid (TabAt (w.setCell ⟨E, 1, none⟩ (.int .i32 1)) E 0 1 (tabK 0)) := hE.set1 1
  have hG1 : w.grownBy (w.setCell ⟨E, 1, none⟩ (.int .i32 1)) (some E) := grE_set (grE_of (gr_refl w)) 1 _
  have h01 := HE1.out.c0
  have HC1 : Hid _ := hE.c1
  have HF1 : Hid _ := hE.fr 1
  have HP1 : Hid ((w.setCell ⟨E, 1, none⟩ (.int .i32 1)).cell? ⟨B, 0, none⟩ = some (.pointer (some ⟨E, 0, none⟩))) := (World.cell?_of_block (a := ⟨B, 0, none⟩) (hG1.block B hBs (fun e => hBE (Option.some.inj e)))).trans hP
  have HT1 : Hid (∀ V, (w.setCell ⟨E, 1, none⟩ (.int .i32 1)).grownBy V (some E) → Tab V ∧ 1 < V.heap.size) := fun V hV => hT V (grE_trans hG1 hV)
  have hBs1 : B < (w.setCell ⟨E, 1, none⟩ (.int .i32 1)).heap.size := by simpa using hBs
  have hnot : ∀ (x : Bool) (w : World), (Op.unary .not (.bool x)).run Tryd.prog w = .ok (.bool (!x)) w := fun _ _ => rfl
  clear hP hE hT
  go_enter_defers Tryd.func150, Tryd.ntmps150
  go_wp2_with (first | (go_at_call 152; refine (lock_free E _ HC1.out HF1.out).mono ?_; rintro e w' ⟨rfl, rfl⟩) | (go_at_call 149; refine (bload_any E 0 _ h01).mono ?_; rintro e w' ⟨rfl, rfl⟩))
  refine (fill_any E B _ hBE hBs1 HP1.out HE1.out HT1.out).mono ?_
  rintro e w2 ⟨rfl, hE2, hG2⟩
  have hG02 := grE_trans hG1 hG2
  have HE2 : Hid (TabAt w2 E 0 1 (tabK 64)) := hE2
  clear hE2 hG2 hG1 h01 hBs1
  go_wp2
  refine leaves_cons (f := 154) (args := #[.pointer (some ⟨E, 0, none⟩), .bool true]) (by simp) (by simp [go_sem]) ?_
  refine (store_deferred E (.int .u32 0) .returning _ HE2.out.c0 (HE2.out.fr 0)).mono ?_
  rintro e u' w'' ⟨rfl, rfl, rfl⟩
  have HE3 : Hid (TabAt (w2.drew.setCell ⟨E, 0, none⟩ (.int .u32 1)) E 1 1 (tabK 64)) := (HE2.out.gr (gr_drew (gr_refl w2))).set0 1
  refine leaves_cons (f := 153) (args := #[.pointer (some ⟨E, 1, none⟩)]) (by simp [settle]) (by simp [go_sem]) ?_
  refine (unlock_deferred E _ _ HE3.out.c1 (HE3.out.fr 1)).mono ?_
  rintro e u' w'' ⟨rfl, rfl, rfl⟩
  have HE4 : Hid (TabAt ((w2.drew.setCell ⟨E, 0, none⟩ (.int .u32 1)).setCell ⟨E, 1, none⟩ (.int .i32 0)) E 1 0 (tabK 64)) := HE3.out.set1 0
  have HG4 : Hid (w.grownBy ((w2.drew.setCell ⟨E, 0, none⟩ (.int .u32 1)).setCell ⟨E, 1, none⟩ (.int .i32 0)) (some E)) := grE_set (grE_set (grE_more hG02 (gr_drew (gr_refl w2))) 0 (.int .u32 1)) 1 (.int .i32 0)
  generalize (w2.drew.setCell ⟨E, 0, none⟩ (.int .u32 1)).setCell ⟨E, 1, none⟩ (.int .i32 0) = V at HE4 HG4 ⊢
  clear HE3 HE2 hG02 HE1 HC1 HF1 HP1 HT1
  simp [Leaves, settle, results, Tryd.results150]
  exact ⟨HE4.out, HG4.out⟩

set_option maxHeartbeats 2000000 in
set_option maxRecDepth 100000 in
theorem do_first (E B : Nat) (w : World) (hBE : B ≠ E) (hBs : B < w.heap.size) (hP : w.cell? ⟨B, 0, none⟩ = some (.pointer (some ⟨E, 0, none⟩))) (hE : TabAt w E 0 0 (tabK 0)) (hT : ∀ V, w.grownBy V (some E) → Tab V ∧ 1 < V.heap.size) :
    Calls Tryd.prog 146 #[.pointer (some ⟨E, 0, none⟩), .func (.func 147) #[] #[.pointer (some ⟨B, 0, none⟩)]] w fun e w' => e = .returned (.tuple #[]) ∧ TabAt w' E 1 0 (tabK 64) ∧ w.grownBy w' (some E) := by
  have HS := slow_any E B w hBE hBs hP hE hT
  have h0 := hE.c0
  have hnot : ∀ (x : Bool) (w : World), (Op.unary .not (.bool x)).run Tryd.prog w = .ok (.bool (!x)) w := fun _ _ => rfl
  clear hP hE hT hBs hBE
  go_enter Tryd.func146, Tryd.ntmps146
  go_wp2_with (first | (go_at_call 149; refine (bload_any E 0 _ h0).mono ?_; rintro e w' ⟨rfl, rfl⟩))
  refine HS.mono ?_
  rintro e w' ⟨rfl, hE2, hG2⟩
  have HE2 : Hid (TabAt w' E 1 0 (tabK 64)) := hE2
  clear hE2 h0
  go_wp2
  go_end0
  exact ⟨rfl, HE2.out, hG2⟩

theorem do_done (E : Nat) (fv : Value) (w : World) (h0 : w.cell? ⟨E, 0, none⟩ = some (.int .u32 1)) :
    Calls Tryd.prog 146 #[.pointer (some ⟨E, 0, none⟩), fv] w fun e w' => e = .returned (.tuple #[]) ∧ w' = w := by
  have hnot : ∀ (x : Bool) (w : World), (Op.unary .not (.bool x)).run Tryd.prog w = .ok (.bool (!x)) w := fun _ _ => rfl
  go_enter Tryd.func146, Tryd.ntmps146
  go_wp2_with (go_at_call 149; refine (bload_any E 1 _ h0).mono ?_; rintro e w' ⟨rfl, rfl⟩)
  go_end0
  exact ⟨rfl, rfl⟩

/-- Not yet made, or made. -/
def TabE (w : World) (E : Nat) : Prop := TabAt w E 0 0 (tabK 0) ∨ TabAt w E 1 0 (tabK 64)

theorem do_any (E B : Nat) (w : World) (hBE : B ≠ E) (hBs : B < w.heap.size) (hP : w.cell? ⟨B, 0, none⟩ = some (.pointer (some ⟨E, 0, none⟩))) (hE : TabE w E) (hT : ∀ V, w.grownBy V (some E) → Tab V ∧ 1 < V.heap.size) :
    Calls Tryd.prog 146 #[.pointer (some ⟨E, 0, none⟩), .func (.func 147) #[] #[.pointer (some ⟨B, 0, none⟩)]] w fun e w' => e = .returned (.tuple #[]) ∧ TabAt w' E 1 0 (tabK 64) ∧ w.grownBy w' (some E) := by
  rcases hE with h | h
  · exact do_first E B w hBE hBs hP h hT
  · refine (do_done E _ w h.c0).mono ?_
    rintro e w' ⟨rfl, rfl⟩
    exact ⟨rfl, h, grE_of (gr_refl _)⟩

set_option maxHeartbeats 2000000 in
set_option maxRecDepth 100000 in
theorem eroot_any (E k : Nat) (hk : k ≤ 64) (w : World) (hE : TabE w E) (hEs : E < w.heap.size) (hT : ∀ V, w.grownBy V (some E) → Tab V ∧ 1 < V.heap.size) :
    Calls Tryd.prog 130 #[.pointer (some ⟨E, 0, none⟩), .int .i64 (k : Int)] w fun e w' => e = .returned (.agg ((er k).map ub).toArray) ∧ TabAt w' E 1 0 (tabK 64) ∧ w.grownBy w' (some E) := by
  have hmf : ∀ (fn : Fn) (first cap : Array Value) (w : World), (Instr.makeFunc fn first cap).run Tryd.prog w = .ok (.func fn first cap) w := fun _ _ _ _ => rfl
  have HT : Hid _ := hT
  have HE : Hid (TabE w E) := hE
  have d65 : (k : Int) < 65 := by omega
  clear hT hE
  go_enter Tryd.func130, Tryd.ntmps130
  go_wp2_with fail
  have hA := gr_trans (gr_alloc w (Obj.cells #[Value.pointer (some ⟨E, 0, none⟩)] 223)) (gr_alloc _ (Obj.cells (brow 32 []).toArray 25))
  have hB0 : ((w.alloc (Obj.cells #[Value.pointer (some ⟨E, 0, none⟩)] 223)).alloc (Obj.cells (brow 32 []).toArray 25)).heap[w.heap.size]? = some (.cells #[Value.pointer (some ⟨E, 0, none⟩)] 223 (0, 0)) := heap_alloc2_old _ _ _
  have hR0 : ((w.alloc (Obj.cells #[Value.pointer (some ⟨E, 0, none⟩)] 223)).alloc (Obj.cells (brow 32 []).toArray 25)).heap[w.heap.size + 1]? = some (.cells (brow 32 []).toArray 25 (0, 0)) := heap_alloc2_new _ _ _
  change Calls Tryd.prog 146 _ ((w.alloc (Obj.cells #[Value.pointer (some ⟨E, 0, none⟩)] 223)).alloc (Obj.cells (brow 32 []).toArray 25)) _
  generalize (w.alloc (Obj.cells #[Value.pointer (some ⟨E, 0, none⟩)] 223)).alloc (Obj.cells (brow 32 []).toArray 25) = W0 at hA hB0 hR0 ⊢
  have cB : W0.cell? ⟨w.heap.size, 0, none⟩ = some (.pointer (some ⟨E, 0, none⟩)) := by rw [cell_of_row W0 _ _ _ _ _ hB0]; rfl
  have hBs : w.heap.size < W0.heap.size := (Array.getElem?_eq_some_iff.1 hB0).1
  refine (do_any E w.heap.size W0 (by omega) hBs cB (HE.out.elim (fun h => Or.inl (h.gr hA)) (fun h => Or.inr (h.gr hA))) (fun V hV => HT.out V (grE_trans (grE_of hA) hV))).mono ?_
  rintro e w1 ⟨rfl, hE1, hG1⟩
  have HE1 : Hid (TabAt w1 E 1 0 (tabK 64)) := hE1
  have hG01 : w.grownBy w1 (some E) := grE_trans (grE_of hA) hG1
  have cB1 : w1.cell? ⟨w.heap.size, 0, none⟩ = some (.pointer (some ⟨E, 0, none⟩)) := (World.cell?_of_block (a := ⟨w.heap.size, 0, none⟩) (hG1.block w.heap.size hBs (fun e => by have := Option.some.inj e; omega))).trans cB
  have hR1 : w1.heap[w.heap.size + 1]? = some (.cells (brow 32 []).toArray 25 (0, 0)) := (hG1.block _ (Array.getElem?_eq_some_iff.1 hR0).1 (fun e => by have := Option.some.inj e; omega)).trans hR0
  have hkl := length_er k
  have HR : Hid (w1.rangeAt E (3 + k * 32) ((er k).map ub)) := HE1.out.range (k * 32) (er k) (fun j hj => tabK_at 64 k (by omega) j (by omega))
  generalize ey : er k = y at hkl HR ⊢
  obtain ⟨HI, HO, HN⟩ := sum25 y hkl
  have HI' : Hid ((Tryd.prog.info? 25).map (·.size) = some (y.map ub).length) := by show _ = _; rw [HI.out]; simp
  clear hE1 hG1 cB hBs hB0 hR0 hA HE HT
  go_wp2_with (first | (refine wpList_load_mid rfl 25 _ rfl E (3 + k * 32) rfl (y.map ub) _ HR.out Tryd.underlying25 rfl HI'.out ?_) | (refine wpList_store_row rfl 25 _ _ rfl (w.heap.size + 1) (y.map ub).toArray rfl rfl 25 _ hR1 HI.out HO.out HN.out ?_))
  refine bodyPost_ret (results_cell_row Tryd.results130 _ _ (w.heap.size + 1) 25 _ (0, 0) _ rfl (setRow_heap _ _ _ _ 25 _ hR1) Tryd.underlying25 rfl HI.out) rfl ⟨by rw [ey], ⟨HE1.out.1, (setRow_other _ _ _ _ (by omega)).trans HE1.out.2⟩, ?_⟩
  exact ⟨hG01.os, hG01.tape, hG01.output, by simpa using hG01.size, fun i hi hn => (setRow_other _ _ _ _ (by omega)).trans (hG01.block i hi hn)⟩
end Go.Proofs.YtplhlhjakapaaaaDoor
