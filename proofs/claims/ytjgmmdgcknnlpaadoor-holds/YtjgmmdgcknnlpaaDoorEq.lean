/-
  Two hashes compared: '==' on arrays of 32 bytes.
-/
import Derived.Test.YtjgmmdgcknnlpaaDoorNew
import Derived.ChangeKeysEq
namespace Go.Proofs.YtjgmmdgcknnlpaaDoor
open Go Go.RowKit

theorem plain5 : Tryd.prog.plainKey 5 = true := by kernel_rfl
theorem cells5 : Tryd.prog.cellsOf 5 = 1 := by kernel_rfl
theorem info5' : ∃ i, Tryd.prog.info? 5 = some i := by
  have h : (Tryd.prog.info? 5).isSome = true := by kernel_rfl
  exact Option.isSome_iff_exists.1 h

theorem ub_beq (a b : UInt8) : ((a.toNat : Int) == (b.toNat : Int)) = (a == b) := by
  rw [Bool.eq_iff_iff]
  simp only [beq_iff_eq, Int.natCast_inj]
  exact ⟨fun h => UInt8.toNat_inj.1 h, fun h => h ▸ rfl⟩

theorem run_items (w : World) (d : Nat) (a b : List UInt8) (hl : a.length = b.length) (is : List Nat) (his : ∀ i ∈ is, i < a.length) :
    (Op.eqItems (d + 1) 5 1 (a.map ub).toArray (b.map ub).toArray is).run Tryd.prog w = .ok (is.all fun i => a.getD i 0 == b.getD i 0) w := by
  induction is with
  | nil => simp [Op.eqItems]
  | cons i is ih =>
    have hi : i < a.length := his i (by simp)
    have hj : i < b.length := hl ▸ hi
    have ea : (part 5 (a.map ub).toArray (i * 1)).run Tryd.prog w = .ok (ub (a.getD i 0)) w := run_part_plain w plain5 (by simp [hi])
    have eb : (part 5 (b.map ub).toArray (i * 1)).run Tryd.prog w = .ok (ub (b.getD i 0)) w := run_part_plain w plain5 (by simp [hj])
    have ee : (Op.equalIn (d + 1) 5 (ub (a.getD i 0)) (ub (b.getD i 0))).run Tryd.prog w = .ok (a.getD i 0 == b.getD i 0) w := by
      have := run_equalIn_int (P := Tryd.prog) w d 5 .u8 .u8 ((a.getD i 0).toNat : Int) ((b.getD i 0).toNat : Int) Tryd.underlying5
      rw [ub_beq] at this
      exact this
    simp only [Op.eqItems, Sem.run_bind, ea, eb, ee, Result.andThen_ok, List.all_cons]
    cases a.getD i 0 == b.getD i 0
    · simp
    · simpa using ih (fun j hj => his j (by simp [hj]))

theorem all_range (a b : List UInt8) (hl : a.length = b.length) : ((List.range a.length).all fun i => a.getD i 0 == b.getD i 0) = (a == b) := by
  rw [Bool.eq_iff_iff]
  simp only [List.all_eq_true, List.mem_range, beq_iff_eq]
  refine ⟨fun h => List.ext_getElem hl (fun i h1 h2 => ?_), fun h => by subst h; intros; rfl⟩
  have := h i h1
  simpa [h1, h2] using this

/-- '==' of two hashes. -/
theorem run_eq25 (w : World) (a b : List UInt8) (ha : a.length = 32) (hb : b.length = 32) :
    (binOp .eql 25 (.agg (a.map ub).toArray) (.agg (b.map ub).toArray)).run Tryd.prog w = .ok (.bool (a == b)) w := by
  obtain ⟨i, hi⟩ := info5'
  have h1 := run_items w 9998 a b (by omega) (List.range 32) (fun j hj => by rw [ha]; simpa using hj)
  have h2 := all_range a b (by omega)
  rw [ha] at h2
  rw [h2] at h1
  have h3 := run_equalIn_array w 9999 (a.map ub).toArray (b.map ub).toArray Tryd.underlying25 hi
  rw [cells5] at h3
  have h4 := h3.trans h1
  rw [run_eql_struct]
  exact (congrArg (fun r => r.andThen fun b w' => Result.ok (Value.bool b) w') h4).trans rfl
theorem run_ne25 (w : World) (a b : List UInt8) (ha : a.length = 32) (hb : b.length = 32) :
    (binOp .neq 25 (.agg (a.map ub).toArray) (.agg (b.map ub).toArray)).run Tryd.prog w = .ok (.bool (!(a == b))) w := by
  obtain ⟨i, hi⟩ := info5'
  have h1 := run_items w 9998 a b (by omega) (List.range 32) (fun j hj => by rw [ha]; simpa using hj)
  have h2 := all_range a b (by omega)
  rw [ha] at h2
  rw [h2] at h1
  have h3 := run_equalIn_array w 9999 (a.map ub).toArray (b.map ub).toArray Tryd.underlying25 hi
  rw [cells5] at h3
  have h4 := h3.trans h1
  rw [run_neq_struct]
  exact (congrArg (fun r => r.andThen fun b w' => Result.ok (Value.bool (!b)) w') h4).trans rfl
end Go.Proofs.YtjgmmdgcknnlpaaDoor
