/-
  Lists of hashes in a world; tree.takeLast.
-/
import Derived.Test.YtplhlhjakapaaaaDoorSplit
namespace Go.Proofs.YtplhlhjakapaaaaDoor
open Go Go.RowKit

/-- Hashes that a slice holds. -/
def SumsIs (w : World) (v : Value) (ps : List (List UInt8)) : Prop :=
  (∀ s ∈ ps, s.length = 32) ∧ ∃ sp cap, v = .slice sp ps.length cap ∧ ps.length ≤ cap ∧
    (0 < ps.length → ∃ g o, sp = some ⟨g, o, none⟩ ∧ g < w.heap.size ∧ ∀ k s, ps[k]? = some s → w.rangeAt g (o + k * 32) (s.map ub))

theorem SumsIs.gr {a b : World} {v : Value} {ps : List (List UInt8)} (h : SumsIs a v ps) (hG : a.grownBy b none) : SumsIs b v ps := by
  obtain ⟨h0, sp, cap, rfl, hc, hsp⟩ := h
  refine ⟨h0, sp, cap, rfl, hc, fun h1 => ?_⟩
  obtain ⟨g, o, h2, h3, h4⟩ := hsp h1
  exact ⟨g, o, h2, Nat.lt_of_lt_of_le h3 hG.size, fun k s hk j u hj => (gr_cell hG (p := ⟨g, o + k * 32 + j, none⟩) h3).trans (h4 k s hk j u hj)⟩

/-- A whole array loaded among the still operations of a region. -/
theorem still_load {P : Program} {ops : Array Oper} {w : World} {Q : Act → Prop} {a : Act} {o : Oper} {rest : List Oper} (hw : Region.wanted o (yielded ops a.tmps) = true) (ty : TypeId) (x : Operand) (ho : o.op = .load ty x)
    (b p : Nat) (hx : a.eval x = .pointer (some ⟨b, p, none⟩)) (cs : List Value) (d : TypeDesc) (hc : w.rangeAt b p cs)
    (hu : P.underlying ty = some d) (hd : d.isRow = true) (hi : (P.info? ty).map (·.size) = some cs.length)
    (h : wpStill P ops w Q rest (a.put o.dst (.agg cs.toArray))) : wpStill P ops w Q (o :: rest) a := by
  unfold wpStill
  rw [if_pos hw]
  unfold Oper.still execOp
  simp only [ho, hx, Instr.loadAt, Instr.sureAddr, Sem.run_bind, Sem.run_pure, Result.andThen_ok, run_loadVar_mid w b p ty cs d hc hu hd hi]
  exact ⟨rfl, h⟩

/-- Results of more than one: arrays that lie in cells, and others. -/
theorem results_tct {P : Program} {fn : Func} {p q r : Tmp} {ty : TypeId} (h : fn.results = #[.tmp q, .cell p ty, .tmp r]) (tmps : Array Value) (w : World) (g : Nat) (t : TypeId) (cs : Array Value) (fr : Nat × Nat) (d : TypeDesc) (x y : Value)
    (hq : tmps.getD q undef = x) (hr : tmps.getD r undef = y) (hp : tmps.getD p undef = .pointer (some ⟨g, 0, none⟩)) (hg : w.heap[g]? = some (.cells cs t fr))
    (hu : P.underlying ty = some d) (hd : (match d with | .struct _ | .array _ _ => true | _ => false) = true) (hi : (P.info? ty).map (·.size) = some cs.size) :
    (results fn tmps).run P w = .ok (.tuple #[x, .agg cs, y]) w := by
  have hp' : tmps[p]?.getD undef = .pointer (some ⟨g, 0, none⟩) := by simpa using hp
  have hq' : tmps[q]?.getD undef = x := by simpa using hq
  have hr' : tmps[r]?.getD undef = y := by simpa using hr
  simp [results, h, hp', hq', hr', asAddr, run_loadVar_row w g t ty cs fr d hg hu hd hi]
theorem results_ct {P : Program} {fn : Func} {p r : Tmp} {ty : TypeId} (h : fn.results = #[.cell p ty, .tmp r]) (tmps : Array Value) (w : World) (g : Nat) (t : TypeId) (cs : Array Value) (fr : Nat × Nat) (d : TypeDesc) (y : Value)
    (hr : tmps.getD r undef = y) (hp : tmps.getD p undef = .pointer (some ⟨g, 0, none⟩)) (hg : w.heap[g]? = some (.cells cs t fr))
    (hu : P.underlying ty = some d) (hd : (match d with | .struct _ | .array _ _ => true | _ => false) = true) (hi : (P.info? ty).map (·.size) = some cs.size) :
    (results fn tmps).run P w = .ok (.tuple #[.agg cs, y]) w := by
  have hp' : tmps[p]?.getD undef = .pointer (some ⟨g, 0, none⟩) := by simpa using hp
  have hr' : tmps[r]?.getD undef = y := by simpa using hr
  simp [results, h, hp', hr', asAddr, run_loadVar_row w g t ty cs fr d hg hu hd hi]
theorem brow_z : (brow 32 []) = (List.replicate 32 (0 : UInt8)).map ub := rfl

set_option maxHeartbeats 2000000 in
set_option maxRecDepth 100000 in
theorem take_none (v : Value) (w : World) (hv : SumsIs w v []) :
    Calls Tryd.prog 128 #[v] w fun e w' => e = .returned (.tuple #[.slice none 0 0, .agg ((List.replicate 32 (0 : UInt8)).map ub).toArray, .bool false]) ∧ w.grownBy w' none := by
  obtain ⟨HI, HO, HN⟩ := sum25 (List.replicate 32 0) rfl
  obtain ⟨_, sp, cap, rfl, _, _⟩ := hv
  go_enter Tryd.func128, Tryd.ntmps128
  go_wp2_with (refine store_new rfl 25 _ _ rfl ((List.replicate 32 (0 : UInt8)).map ub).toArray _ _ rfl rfl HI.out HO.out HN.out ?_; intro W2 hW2 hs2 hG2)
  exact bodyPost_ret (results_tct Tryd.results128 _ _ w.heap.size 25 _ (0, 0) _ _ _ rfl rfl rfl hW2 Tryd.underlying25 rfl HI.out) rfl ⟨rfl, hG2⟩

set_option maxHeartbeats 2000000 in
set_option maxRecDepth 100000 in
theorem take_some (ps : List (List UInt8)) (s : List UInt8) (v : Value) (w : World) (hv : SumsIs w v (ps ++ [s])) (hn : ps.length < 1000000000) :
    Calls Tryd.prog 128 #[v] w fun e w' => ∃ v', e = .returned (.tuple #[v', .agg (s.map ub).toArray, .bool true]) ∧ SumsIs w' v' ps ∧ w.grownBy w' none := by
  obtain ⟨h32, sp, cap, rfl, hcap, hsp⟩ := hv
  rw [List.length_append, List.length_singleton] at hcap hsp ⊢
  obtain ⟨g, o, rfl, hg, hrg⟩ := hsp (by omega)
  have hs : s.length = 32 := h32 s (by simp)
  have hr := hrg ps.length s (by simp)
  have HR : Hid _ := hrg
  clear hrg
  go_enter Tryd.func128, Tryd.ntmps128
  have b0 : (0 : Int) ≤ (ps.length : Int) := by omega
  have b1 : (ps.length : Int) < (ps.length : Int) + 1 := by omega
  have b2 : (ps.length : Int) ≤ (cap : Int) := by omega
  go_wp2
  change Code.wp _ _ _ _ (w.alloc (Obj.cells (brow 32 []).toArray 25))
  have h1 : (w.alloc (Obj.cells (brow 32 []).toArray 25)).heap[w.heap.size]? = some (.cells (brow 32 []).toArray 25 (0, 0)) := heap_alloc_new _ _
  have hG : w.grownBy (w.alloc (Obj.cells (brow 32 []).toArray 25)) none := gr_alloc _ _
  generalize w.alloc (Obj.cells (brow 32 []).toArray 25) = W at h1 hG ⊢
  have hrW : World.rangeAt { W with drawn := W.drawn + 1 } g (o + ps.length * 32) (s.map ub) := fun j u hj => (gr_cell hG (p := ⟨g, o + ps.length * 32 + j, none⟩) hg).trans (hr j u hj)
  refine wp_region_still_tail 9 (by kernel_rfl) (by decide +kernel) ?_
  simp only [List.take_succ_cons, List.take_zero, List.drop_succ_cons, List.drop_zero]
  still_step
  still_step
  still_step
  still_step
  still_step
  still_step
  still_step
  obtain ⟨HI, HO, HN⟩ := sum25 s hs
  refine still_load (by rfl) 25 _ rfl g (o + ps.length * 32) rfl (s.map ub) _ hrW Tryd.underlying25 rfl (by rw [HI.out]; simp) ?_
  still_step
  refine wpStill_nil ?_
  have hGd : w.grownBy { W with drawn := W.drawn + 1 } none := ⟨hG.os, hG.tape, hG.output, hG.size, hG.block⟩
  have h1d : ({ W with drawn := W.drawn + 1 } : World).heap[w.heap.size]? = some (.cells (brow 32 []).toArray 25 (0, 0)) := h1
  generalize { W with drawn := W.drawn + 1 } = V at hGd h1d hrW ⊢
  clear hrW hr h1 hG hsp
  go_wp2_with (refine wpList_store_row rfl 25 _ _ rfl w.heap.size _ rfl rfl 25 _ h1d HI.out HO.out HN.out ?_)
  have hGF := gr_row hGd w.heap.size (s.map ub).toArray (Nat.le_refl _)
  refine bodyPost_ret (results_tct Tryd.results128 _ _ w.heap.size 25 _ (0, 0) _ _ _ rfl rfl rfl (setRow_heap V _ _ _ 25 _ h1d) Tryd.underlying25 rfl HI.out) rfl ⟨_, rfl, ?_, hGF⟩
  exact ⟨fun x hx => h32 x (by simp [hx]), _, _, rfl, Nat.le_refl _, fun _ => ⟨g, o, rfl, Nat.lt_of_lt_of_le hg hGF.size, fun k x hk j u hj =>
    (gr_cell hGF (p := ⟨g, o + k * 32 + j, none⟩) hg).trans (HR.out k x (by
      have hkl : k < ps.length := (List.getElem?_eq_some_iff.1 hk).1
      rw [List.getElem?_append_left hkl]; exact hk) j u hj)⟩⟩
theorem info25' {leaf : List UInt8} {R : Array Value} (h : (leaf.map ub).toArray = R) (hl : leaf.length = 32) : (Tryd.prog.info? 25).map (·.size) = some R.size := h ▸ (sum25 leaf hl).1.out
end Go.Proofs.YtplhlhjakapaaaaDoor
