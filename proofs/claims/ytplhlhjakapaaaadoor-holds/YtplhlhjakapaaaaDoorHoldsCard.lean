/-
  rootslaw.Holds: the row and the card.
-/
import Derived.Test.YtplhlhjakapaaaaDoorHoldsL
import Derived.Test.YtplhlhjakapaaaaDoorArg
import Derived.Test.YtplhlhjakapaaaaDoorCards
import Derived.Test.YtplhlhjakapaaaaDoorTie
import Derived.OpenShut
import Derived.ChangeMaps5
import Derived.Deep.DeepHandedRow
import Derived.Deep.DeepCutAuto
namespace Go.Proofs.YtplhlhjakapaaaaDoor
namespace holds
open Go Go.ChangeShapes Go.WideShapes Go.ChangeAt Go.RowKit

theorem in64 {n : Int} (h : (Lit.int .i64 n).wf = true) : In64 n := by
  simp [Lit.wf, IntKind.min, IntKind.max, IntKind.bits, IntKind.signed] at h
  unfold In64
  omega

theorem mkS_data (s : ByteArray) : mkS s.data.toList = s := by
  apply ByteArray.ext; simp [mkS]

theorem short {H : Type} {ts : List TypeId} {ds : List (DataW H)} {j : Nat} {b : List UInt8} (hZ : (DataW.weightsEach Tryd.prog ts ds).all (· ≤ reachBytes) = true) (ht : ts[j]? = some 9) (hd : ds[j]? = some (.lit (.string b))) : b.length < 140737488355328 := by
  have h := List.all_eq_true.1 hZ b.length (DataW.weights_mem_each ht hd b.length (by simp [DataW.weights]))
  have hr : reachBytes < 140737488355328 := by decide
  have := of_decide_eq_true h
  omega

set_option maxRecDepth 100000 in
theorem contract (H : Type) (enc : TypeId × Value → H) (W : World) (base : Nat) (args : Array Value) (ds gs : List (DataW H)) (before : List MemPlace)
    (hval : ∀ (j : Nat) t v, Tryd.f13.params[j]? = some t → args[j]? = some v → Value.okWide Tryd.prog W .any base t v)
    (hW : DataW.Whole enc Tryd.prog Tryd.f13.params.toList Rows.holdsSpec.vars false W args.toList ds gs before)
    (hZ : (DataW.weightsEach Tryd.prog (Tryd.f13.params.toList ++ (OpenSpec.ofChange Rows.holdsSpec).bare.plain.varTypes Tryd.prog) (ds ++ gs)).all (· ≤ reachBytes) = true) (hL : laidMetH Tryd.prog Rows.holdsRow.laid W) :
    Calls Tryd.prog 13 args W fun e W' => ∃ v, e = .returned v ∧ Rows.holdsSpec.post enc Tryd.prog Tryd.f13 false true false false W args v W' := by
  have hW' := hW
  obtain ⟨p, q, hA0, hV, rfl, hfz, hnd⟩ := hW
  have hA : DataW.TrodAll enc Tryd.prog W 0 (fun _ => true) true Tryd.f13.params.toList args.toList ds p := hA0
  rw [Tryd.params13] at hA hval hZ
  obtain ⟨v0, vs0, d0, ds0, p0, q0, hargs, rfl, rfl, h0, r0⟩ := trodAll_cons hA
  obtain ⟨v1, vs1, d1, ds1, p1, q1, rfl, rfl, rfl, h1, r1⟩ := trodAll_cons r0
  obtain ⟨v2, vs2, d2, ds2, p2, q2, rfl, rfl, rfl, h2, r2⟩ := trodAll_cons r1
  obtain ⟨v3, vs3, d3, ds3, p3, q3, rfl, rfl, rfl, h3, r3⟩ := trodAll_cons r2
  obtain ⟨v4, vs4, d4, ds4, p4, q4, rfl, rfl, rfl, h4, r4⟩ := trodAll_cons r3
  obtain ⟨v5, vs5, d5, ds5, p5, q5, rfl, rfl, rfl, h5, r5⟩ := trodAll_cons r4
  obtain ⟨v6, vs6, d6, ds6, p6, q6, rfl, rfl, rfl, h6, r6⟩ := trodAll_cons r5
  obtain ⟨v7, vs7, d7, ds7, p7, q7, rfl, rfl, rfl, h7, r7⟩ := trodAll_cons r6
  obtain ⟨rfl, rfl, rfl⟩ := trodAll_nil r7
  obtain rfl : args = #[v0, v1, v2, v3, v4, v5, v6, v7] := by cases args; simp_all
  obtain ⟨rfl, rfl⟩ := trodVars_none hV
  obtain ⟨s1, rfl, rfl, rfl, g1⟩ := Go.ChangeMaps.open_string Tryd.underlying9 (hval 1 9 v1 rfl rfl) h1
  obtain ⟨s2, rfl, rfl, rfl, g2⟩ := Go.ChangeMaps.open_string Tryd.underlying9 (hval 2 9 v2 rfl rfl) h2
  obtain ⟨b3, rfl, rfl, rfl⟩ := open_bool Tryd.underlying4 (hval 3 4 v3 rfl rfl) h3
  obtain ⟨s4, rfl, rfl, rfl, g4⟩ := Go.ChangeMaps.open_string Tryd.underlying9 (hval 4 9 v4 rfl rfl) h4
  obtain ⟨n5, rfl, rfl, rfl, g5⟩ := open_int Tryd.underlying3 (hval 5 3 v5 rfl rfl) h5
  obtain ⟨n6, rfl, rfl, rfl, g6⟩ := open_int Tryd.underlying3 (hval 6 3 v6 rfl rfl) h6
  obtain ⟨n7, rfl, rfl, rfl, g7⟩ := open_int Tryd.underlying3 (hval 7 3 v7 rfl rfl) h7
  obtain ⟨hs, hagain, hwt⟩ := strs_arg (hval 0 30 v0 rfl rfl) h0
  have hz0 : (d0.weights Tryd.prog 30).all (· ≤ reachBytes) = true := List.all_eq_true.2 fun n hn => List.all_eq_true.1 hZ n (DataW.weights_mem_each (j := 0) rfl rfl n hn)
  obtain ⟨hb1, hb2⟩ := hwt hz0
  clear hA0 hA r0 r1 r2 r3 r4 r5 r6 r7
  simp only [List.append_nil] at hW'
  have hT : Tab W := tab_of_laid hL
  have l1 := short (j := 1) hZ rfl rfl
  have l2 := short (j := 2) hZ rfl rfl
  have l4 := short (j := 4) hZ rfl rfl
  have h := holds_any (textsOf d0) v0 s1.data.toList s2.data.toList b3 s4.data.toList n5 n6 n7 W (size_of_tab hT) hT hs hb1 hb2 l1 l2 l4 (in64 g5) (in64 g6) (in64 g7)
  rw [mkS_data, mkS_data, mkS_data] at h
  refine h.mono fun e W' ⟨he, hg⟩ => ?_
  subst he
  exact ⟨_, rfl, post_of_gr (pa := p0) (pv := []) hW' (fun _ _ _ => trodAll_cons_mk (shut_bool Tryd.underlying4 _) trodAll_mk0)
    (fun sp hsp => by
      have ha := hagain W' hg sp hsp
      have := trodAll_cons_mk ha (trodAll_cons_mk (Go.ChangeMaps.shut_string Tryd.underlying9 g1) (trodAll_cons_mk (Go.ChangeMaps.shut_string Tryd.underlying9 g2) (trodAll_cons_mk (shut_bool Tryd.underlying4 b3) (trodAll_cons_mk (Go.ChangeMaps.shut_string Tryd.underlying9 g4) (trodAll_cons_mk (shut_int Tryd.underlying3 g5) (trodAll_cons_mk (shut_int Tryd.underlying3 g6) (trodAll_cons_mk (shut_int Tryd.underlying3 g7) (trodAll_mk0 (enc := enc) (P := Tryd.prog) (w := W') (base := 0) (spare := sp) (held := true)))))))))
      simp only [List.append_nil] at this
      exact this) (fun _ _ => rfl) (by simp)
    hg (ok_one (by kernel_rfl) rfl (okWide_bool_mk Tryd.underlying4 _))⟩

noncomputable def wit : Array Value := #[.slice none 0 0, .string ⟨#[]⟩, .string ⟨#[]⟩, .bool false, .string ⟨#[]⟩, .int .i64 0, .int .i64 0, .int .i64 0]
theorem laid_met (os : Os) : laidMet Tryd.prog Rows.holdsRow.laid ((laidWorld os).forCall (fun _ _ => 0) ⟨#[], wit, []⟩).memory :=
  laidMet_of_run' 8 (by kernel_rfl) (by kernel_rfl)
theorem reads (os : Os) {H : Type} (enc : TypeId × Value → H) : ∃ places, DataW.whole enc Tryd.prog ((laidWorld os).forCall (fun _ _ => 0) ⟨#[], wit, []⟩).memory Tryd.f13.params.toList Rows.holdsSpec.vars false wit.toList 8 = some ([.nil, .lit (.string []), .lit (.string []), .lit (.bool false), .lit (.string []), .lit (.int .i64 0), .lit (.int .i64 0), .lit (.int .i64 0)], [], places) :=
  ⟨[], by kernel_rfl⟩

set_option maxRecDepth 100000 in
theorem lifted (os : Os) (started : os.Started) (H : Type) (enc : TypeId × Value → H) (F : Stop.Interp) :
    ReturnsInHanded {} Tryd.checked os 13 .any ((OpenSpec.ofChange Rows.holdsSpec).preRow enc Tryd.prog Tryd.f13 Rows.holdsRow.domain false Rows.holdsRow.laid) (((OpenSpec.ofChange Rows.holdsSpec).at F).post enc Tryd.prog Tryd.f13 false true false false) := by
  obtain ⟨places, hx⟩ := reads os enc
  refine returnsInHanded_of_row (C := Tryd.checked) (s := OpenSpec.ofChange Rows.holdsSpec) own started (by kernel_rfl) Tryd.func13
    (witness_row_at (enc := enc) (C := Tryd.checked) false (laidWorld os) wit rfl (by kernel_rfl) (by kernel_rfl) (by kernel_rfl)
      (OpenSpec.preRow_of_cond 8 hx (by kernel_rfl) (fun k hk => by cases hk) (by kernel_rfl) (laid_met os))) ?_
  intro W base args ds gs before hval hW _ _ hZ hL _ _
  exact contract H enc W base args ds gs before hval hW hZ hL

theorem said : Rows.HoldsSaid :=
  OpenClaim.holds_of_cond 13 Tryd.f13 rfl rfl rfl rfl rfl rfl rfl ⟨rfl, rfl, rfl, rfl, rfl⟩ rfl rfl rfl rfl rfl (by kernel_rfl) Tryd.func13 (by kernel_rfl)
    (of_decide_eq_true (by kernel_rfl)) (by unfold Func.isWrapper; first | (rw [if_pos (by decide +kernel)]; kernel_rfl) | (rw [if_neg (by decide +kernel)]; exact ⟨rfl, rfl⟩))
    (fun os started H enc _ F => by rw [OpenClaim.pre_eq_preRow]; exact lifted os started H enc F)

theorem plain (f : FuncId) (fn : Func) (hf : Tryd.pinned.checked.prog.funcNamed "roots/rootslaw.Holds" = some f) (hfn : Tryd.pinned.checked.prog.funcs[f]? = some fn) :
    true = Tryd.pinned.checked.prog.looks [] ∧ ∀ (j : Nat) t, fn.params[j]? = some t → Tryd.pinned.checked.prog.wantsStandIn t = false := by
  obtain rfl : f = 13 := Option.some.inj ((show Tryd.prog.funcNamed "roots/rootslaw.Holds" = some 13 by kernel_rfl).symm.trans hf) |>.symm
  obtain rfl : fn = Tryd.f13 := (Option.some.inj (Tryd.func13.symm.trans hfn)).symm
  refine ⟨by kernel_rfl, fun j t ht => ?_⟩
  rw [Tryd.params13] at ht
  have hm := Array.mem_of_getElem? ht
  simp only [List.mem_toArray, List.mem_cons, List.not_mem_nil, or_false] at hm
  have w30 : Tryd.prog.wantsStandIn 30 = false := by kernel_rfl
  have w9 : Tryd.prog.wantsStandIn 9 = false := by kernel_rfl
  have w4 : Tryd.prog.wantsStandIn 4 = false := by kernel_rfl
  have w3 : Tryd.prog.wantsStandIn 3 = false := by kernel_rfl
  rcases hm with rfl | rfl | rfl | rfl | rfl | rfl | rfl | rfl
  · exact w30
  · exact w9
  · exact w9
  · exact w4
  · exact w9
  · exact w3
  · exact w3
  · exact w3

end holds
/-- The card of rootslaw.Holds: as the builder of plain tied cards has it, of a row whose call can start goroutines by a function value (sync.Once). -/
theorem holds_card : Rows.HoldsCardSaid := by
  have h6 : Claim7.isSixth { stood := { row := Rows.holdsRow, standIns := [], harness := Rows.holdsCard.stood.harness, looks := true }, kinds := [] } = false := by kernel_rfl
  have h1 := Claim7.tied_new_at .later [.data] true (Claim7.new_of_sixth holds.said Rows.holdsCard.stood.harness true rfl ⟨rfl, rfl⟩ (by kernel_rfl) h6 holds.plain) (by kernel_rfl)
  have h2 : Claim7.holdsOne Tryd.pinned (.plain (OpenSpec.ofChange Rows.holdsSpec)) { stood := { row := Rows.holdsRow, standIns := [], harness := Rows.holdsCard.stood.harness, looks := true }, kinds := [], alts := [], laidByText := true, laidKinds := [.data], laidTests := true, laidLooks := .later } := h1
  have h3 : Claim7.holdsOne Tryd.pinned (.plain (OpenSpec.ofChange Rows.holdsSpec)) Rows.holdsCard := h2
  have hg : true = Rows.holdsCard.stood.row.goesBy Tryd.pinned.checked.prog := by kernel_rfl
  exact ⟨h3, (fun _ h => by cases h), holds_row_tie, (fun h => by cases h), hg⟩
end Go.Proofs.YtplhlhjakapaaaaDoor
