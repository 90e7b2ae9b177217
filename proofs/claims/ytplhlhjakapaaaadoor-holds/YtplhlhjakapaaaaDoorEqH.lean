/-
  Two hashes compared: '==' on arrays of 32 bytes.
-/
import Derived.Test.YtplhlhjakapaaaaDoorNew
import Derived.ChangeKeysEq
import Derived.ChangeSame
import Derived.WalkKit
import Derived.ProofKit
namespace Go.Proofs.YtplhlhjakapaaaaDoor
open Go Go.RowKit

theorem plain5 : Tryd.prog.plainKey 5 = true := by kernel_rfl
theorem cells5 : Tryd.prog.cellsOf 5 = 1 := by kernel_rfl
theorem info5' : ∃ i, Tryd.prog.info? 5 = some i := by
  have h : (Tryd.prog.info? 5).isSome = true := by kernel_rfl
  exact Option.isSome_iff_exists.1 h

theorem ub_beq (a b : UInt8) : ((a.toNat : Int) == (b.toNat : Int)) = (a == b) := by
  rw [Bool.eq_iff_iff]
  simp only [beq_iff_eq, Int.natCast_inj]
  exact ⟨fun h => UInt8.toNat_inj.1 h, fun h => h ▸ rfl⟩

theorem run_items (w : World) (d : Nat) (a b : List UInt8) (hl : a.length = b.length) (is : List Nat) (his : ∀ i ∈ is, i < a.length) :
    (Op.eqItems (d + 1) 5 1 (a.map ub).toArray (b.map ub).toArray is).run Tryd.prog w = .ok (is.all fun i => a.getD i 0 == b.getD i 0) w := by
  induction is with
  | nil => simp [Op.eqItems]
  | cons i is ih =>
    have hi : i < a.length := his i (by simp)
    have hj : i < b.length := hl ▸ hi
    have ea : (part 5 (a.map ub).toArray (i * 1)).run Tryd.prog w = .ok (ub (a.getD i 0)) w := run_part_plain w plain5 (by simp [hi])
    have eb : (part 5 (b.map ub).toArray (i * 1)).run Tryd.prog w = .ok (ub (b.getD i 0)) w := run_part_plain w plain5 (by simp [hj])
    have ee : (Op.equalIn (d + 1) 5 (ub (a.getD i 0)) (ub (b.getD i 0))).run Tryd.prog w = .ok (a.getD i 0 == b.getD i 0) w := by
      have := run_equalIn_int (P := Tryd.prog) w d 5 .u8 .u8 ((a.getD i 0).toNat : Int) ((b.getD i 0).toNat : Int) Tryd.underlying5
      rw [ub_beq] at this
      exact this
    simp only [Op.eqItems, Sem.run_bind, ea, eb, ee, Result.andThen_ok, List.all_cons]
    cases a.getD i 0 == b.getD i 0
    · simp
    · simpa using ih (fun j hj => his j (by simp [hj]))

theorem all_range (a b : List UInt8) (hl : a.length = b.length) : ((List.range a.length).all fun i => a.getD i 0 == b.getD i 0) = (a == b) := by
  rw [Bool.eq_iff_iff]
  simp only [List.all_eq_true, List.mem_range, beq_iff_eq]
  refine ⟨fun h => List.ext_getElem hl (fun i h1 h2 => ?_), fun h => by subst h; intros; rfl⟩
  have := h i h1
  simpa [h1, h2] using this

/-- '==' of two hashes. -/
theorem run_eq25 (w : World) (a b : List UInt8) (ha : a.length = 32) (hb : b.length = 32) :
    (binOp .eql 25 (.agg (a.map ub).toArray) (.agg (b.map ub).toArray)).run Tryd.prog w = .ok (.bool (a == b)) w := by
  obtain ⟨i, hi⟩ := info5'
  have h1 := run_items w 9998 a b (by omega) (List.range 32) (fun j hj => by rw [ha]; simpa using hj)
  have h2 := all_range a b (by omega)
  rw [ha] at h2
  rw [h2] at h1
  have h3 := run_equalIn_array w 9999 (a.map ub).toArray (b.map ub).toArray Tryd.underlying25 hi
  rw [cells5] at h3
  have h4 := h3.trans h1
  rw [run_eql_struct]
  exact (congrArg (fun r => r.andThen fun b w' => Result.ok (Value.bool b) w') h4).trans rfl
theorem run_ne25 (w : World) (a b : List UInt8) (ha : a.length = 32) (hb : b.length = 32) :
    (binOp .neq 25 (.agg (a.map ub).toArray) (.agg (b.map ub).toArray)).run Tryd.prog w = .ok (.bool (!(a == b))) w := by
  obtain ⟨i, hi⟩ := info5'
  have h1 := run_items w 9998 a b (by omega) (List.range 32) (fun j hj => by rw [ha]; simpa using hj)
  have h2 := all_range a b (by omega)
  rw [ha] at h2
  rw [h2] at h1
  have h3 := run_equalIn_array w 9999 (a.map ub).toArray (b.map ub).toArray Tryd.underlying25 hi
  rw [cells5] at h3
  have h4 := h3.trans h1
  rw [run_neq_struct]
  exact (congrArg (fun r => r.andThen fun b w' => Result.ok (Value.bool (!b)) w') h4).trans rfl
end Go.Proofs.YtplhlhjakapaaaaDoor

/-
  roots.Hash's contract.
-/
namespace Go.Proofs.YtplhlhjakapaaaaDoor
open Go Go.RowKit

theorem SliceIs.gr {a b : World} {v : Value} {bs : List UInt8} (h : SliceIs a v bs) (hG : a.grownBy b none) : SliceIs b v bs := by
  obtain ⟨sp, cap, rfl, hc, hsp⟩ := h
  refine ⟨sp, cap, rfl, hc, fun h0 => ?_⟩
  obtain ⟨sb, so, h1, h2, h3⟩ := hsp h0
  exact ⟨sb, so, h1, Nat.lt_of_lt_of_le h2 hG.size, fun j hj => (gr_cell hG (p := ⟨sb, so + j, none⟩) h2).trans (h3 j hj)⟩

set_option maxHeartbeats 2000000 in
set_option maxRecDepth 100000 in
theorem hash_any (bs : List UInt8) (v : Value) (w : World) (hw : 1 < w.heap.size) (hT : Tab w) (hlen : bs.length < 1152921504606846000) (hv : SliceIs w v bs) :
    Calls Tryd.prog 15 #[v] w fun e w' => e = .returned (.agg ((sha bs).map ub).toArray) ∧ w.grownBy w' none := by
  have HT : Hid (Tab w) := hT
  have HV : Hid (SliceIs w v bs) := hv
  clear hT hv
  go_enter Tryd.func15, Tryd.ntmps15
  go_wp2_with fail
  have hA := gr_alloc w (Obj.cells (brow 32 []).toArray 25)
  refine (sum_any bs v _ (by have := hA.size; omega) (HT.out.gr hA hw) (HV.out.gr hA) hlen).mono ?_
  rintro e w4 ⟨rfl, hG4⟩
  have hG04 : w.grownBy w4 none := gr_trans hA hG4
  have hrow4 : w4.heap[w.heap.size]? = some (.cells (brow 32 []).toArray 25 (0, 0)) := (hG4.block _ (by simp) (by simp)).trans (heap_alloc_new _ _)
  have hl := length_sha bs
  have HI : Hid ((Tryd.prog.info? 25).map (·.size) = some ((sha bs).map ub).toArray.size) := info25 _ (by simp [hl])
  have HO : Hid ((brow 32 []).toArray.size = ((sha bs).map ub).toArray.size) := by
    show _ = _
    rw [List.size_toArray, List.size_toArray, length_brow _ _ (by simp)]; simp [hl]
  have HN : Hid (((sha bs).map ub).toArray.all (·.oneCell') = true) := by
    show _ = _
    rw [← brow_full _ _ hl]; exact brow_one _ _
  clear hl hlen hA hG4
  go_wp2_with (refine wpList_store_row rfl 25 _ _ rfl w.heap.size _ rfl rfl 25 _ hrow4 HI.out HO.out HN.out ?_)
  exact bodyPost_ret (v := .agg ((sha bs).map ub).toArray) (results_cell_row Tryd.results15 _ _ w.heap.size 25 _ (0, 0) _ rfl (setRow_heap w4 _ _ _ 25 _ hrow4) Tryd.underlying25 rfl HI.out) rfl ⟨rfl, gr_row hG04 _ _ (Nat.le_refl _)⟩
end Go.Proofs.YtplhlhjakapaaaaDoor

/-
  A row's post from my walks' relation: what stood before stands as it stood; what is new may be frozen.
-/
namespace Go.Proofs.YtplhlhjakapaaaaDoor
open Go Go.ChangeShapes Go.WideShapes Go.ChangeAt Go.RowKit

theorem gr_kept {W W' : World} (h : W.grownBy W' none) (may : MemPlace → Prop) : W.keptBut W' may := by
  refine ⟨h.os, h.output, fun i hi => ?_⟩
  have e := h.block i hi (by simp)
  rw [e]
  cases W.heap[i]? with
  | none => trivial
  | some o =>
    cases o with
    | cells c t fr => exact ⟨rfl, rfl, rfl, fun _ _ => rfl⟩
    | map es k => exact Or.inr ⟨rfl, rfl⟩
    | _ => first | rfl | trivial

section
variable {H : Type} {enc : TypeId × Value → H} {P : Program}
theorem post_of_gr {f : Func} {s : ChangeSpec} {apart fresh handsOn again : Bool} {W W' : World} {args : Array Value} {v : Value} {ds gs : List (DataW H)} {before pa pv : List MemPlace}
    (hW : DataW.Whole enc P f.params.toList s.vars apart W args.toList ds gs before)
    (hres : ∀ (b : Nat) (sp : Nat → Bool) (hd : Bool), DataW.TrodAll enc P W' b sp hd f.resultTypes.toList (v.resultList f.resultTypes.size) (s.fn H (ds ++ gs)).results [])
    (hargs : ∀ sp : Nat → Bool, (∀ p ∈ before, sp p.block = true) → DataW.TrodAll enc P W' 0 sp true f.params.toList args.toList (s.fn H (ds ++ gs)).args pa)
    (hvars : ∀ sp : Nat → Bool, (∀ p ∈ before, sp p.block = true) → DataW.TrodVars enc P W' sp s.vars (s.fn H (ds ++ gs)).vars pv)
    (hps : before = pa ++ pv) (hG : W.grownBy W' none)
    (hok : ∀ (j : Nat) (t : TypeId) (r : Value), f.resultTypes[j]? = some t → (v.resultList f.resultTypes.size)[j]? = some r → Value.okWide P W' .any 0 t r) :
    s.post enc P f apart fresh handsOn again W args v W' := by
  have hlt := hW.lt
  refine ⟨ds, gs, before, [], pa, pv, hW, hres _ _ _, hargs _ (fun p hp => by simpa using hlt p hp), hvars _ (fun p hp => by simpa using hlt p hp), gr_kept hG _, fun _ => ⟨hok, _, _, ([] ++ pa) ++ pv,
    ⟨[] ++ pa, pv, trodAll_append (hargs _ (fun _ _ => rfl)) (hres _ _ _), hvars _ (fun _ _ => rfl), rfl, ?_, ?_⟩, ?_⟩⟩
  · intro b off hp
    have hp' : MemPlace.cell b off ∈ before := by rw [hps]; simpa using hp
    rw [World.frozen?_of_block (hG.block b (hlt _ hp') (by simp))]
    obtain ⟨_, _, _, _, _, hz, _⟩ := hW
    exact hz b off hp'
  · intro ha
    obtain ⟨_, _, _, _, _, _, hn⟩ := hW
    have := hn ha
    rw [hps] at this
    simpa using this
  · intro p hp _
    rw [hps]
    simpa using hp
end
end Go.Proofs.YtplhlhjakapaaaaDoor
