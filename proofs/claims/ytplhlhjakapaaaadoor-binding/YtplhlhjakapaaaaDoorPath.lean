/-
  rootsref's Path.
-/
import Derived.Test.YtplhlhjakapaaaaDoorOwn
namespace Go.Proofs.YtplhlhjakapaaaaDoor
open Go Go.RowKit

/-- Beside the way from leaf i to the root. -/
inductive PathIs : List (List UInt8) → Nat → List (List UInt8) → Prop
  | one (s : List UInt8) (i : Nat) : PathIs [s] i []
  | left (l : List (List UInt8)) (i : Nat) (p : List (List UInt8)) (r : List UInt8) : 2 ≤ l.length → i < spl l.length → PathIs (l.take (spl l.length)) i p → RootIs (l.drop (spl l.length)) r → PathIs l i (p ++ [r])
  | right (l : List (List UInt8)) (i : Nat) (p : List (List UInt8)) (r : List UInt8) : 2 ≤ l.length → ¬ i < spl l.length → PathIs (l.drop (spl l.length)) (i - spl l.length) p → RootIs (l.take (spl l.length)) r → PathIs l i (p ++ [r])

theorem PathIs.short {l : List (List UInt8)} {i : Nat} {p : List (List UInt8)} (h : PathIs l i p) : l.length < 9223372036854775808 → p.length < l.length := by
  induction h with
  | one => intro _; simp
  | left l i p r h2 hi _ _ ih =>
    intro hb
    obtain ⟨ha, hb', _, _⟩ := spl_spec l.length h2 hb
    have := spl_pos l.length
    have := ih (by rw [List.length_take]; omega)
    rw [List.length_take] at this
    simp; omega
  | right l i p r h2 hi _ _ ih =>
    intro hb
    obtain ⟨ha, hb', _, _⟩ := spl_spec l.length h2 hb
    have := spl_pos l.length
    have := ih (by rw [List.length_drop]; omega)
    rw [List.length_drop] at this
    simp; omega

set_option maxHeartbeats 4000000 in
set_option maxRecDepth 100000 in
theorem path_one (H : Nat) (s : List UInt8) (i : Int) (v : Value) (w : World) (hv : StrsIs w v [s]) :
    Calls Tryd.prog 23 #[.pointer (some ⟨H, 0, none⟩), v, .int .i64 i] w fun e w' => e = .returned (.slice none 0 0) ∧ w.grownBy w' none := by
  obtain ⟨sp, cap, rfl, _, _⟩ := hv
  go_enter Tryd.func23, Tryd.ntmps23
  go_wp2
  go_ret
  exact ⟨rfl, gr_refl _⟩

set_option maxHeartbeats 4000000 in
set_option maxRecDepth 100000 in
theorem path_any (H : Nat) (N : Nat) : ∀ (l : List (List UInt8)) (i : Nat) (v : Value) (w : World), l.length ≤ N → i < l.length → RefAt w H → H < w.heap.size → StrsIs w v l → (∀ s ∈ l, s.length < 999999999) → l.length < 1000000000 →
    Calls Tryd.prog 23 #[.pointer (some ⟨H, 0, none⟩), v, .int .i64 (i : Int)] w fun e w' => ∃ p v', PathIs l i p ∧ e = .returned v' ∧ SumsOwn w' w.heap.size v' p ∧ w.grownBy w' none := by
  induction N with
  | zero => intro l i v w h1 h2; omega
  | succ N ih =>
    intro l i v w hl hi hH hHs hv hs hb
    by_cases h1 : l.length = 1
    · obtain ⟨s, rfl⟩ := List.length_eq_one_iff.1 h1
      refine (path_one H s i v w hv).mono ?_
      rintro e w' ⟨rfl, hG⟩
      exact ⟨_, _, PathIs.one s i, rfl, ⟨by simp, fun _ => rfl, World.ownsRow_nil _ _ _ _⟩, hG⟩
    have hn2 : 2 ≤ l.length := by omega
    have hn63 : l.length < 9223372036854775808 := by omega
    obtain ⟨ha, hb', _, _⟩ := spl_spec l.length hn2 hn63
    have hk1 := spl_pos l.length
    have HH : Hid (RefAt w H) := hH
    have HIH : Hid _ := ih
    have HV : Hid (StrsIs w v l) := hv
    have HS : Hid _ := hs
    obtain ⟨sp, cap, rfl, hcap, hsp⟩ := hv
    obtain ⟨g, o, rfl, hg, _⟩ := hsp (by omega)
    clear hH ih hs hsp
    have d1 : ((l.length : Int) == 1) = false := by rw [beq_eq_false_iff_ne]; omega
    go_enter Tryd.func23, Tryd.ntmps23
    go_wp2_with fail
    refine (rsplit_any l.length w hn2 hn63).mono ?_
    rintro e w' ⟨rfl, hww⟩
    rw [hww]; clear hww w'
    have hS1 : (l.take (spl l.length)).length = spl l.length := by rw [List.length_take]; omega
    have hS2 : (l.drop (spl l.length)).length = l.length - spl l.length := by rw [List.length_drop]
    by_cases hik : i < spl l.length
    · have HP : Hid (∀ p r, PathIs (l.take (spl l.length)) i p → RootIs (l.drop (spl l.length)) r → PathIs l i (p ++ [r])) := fun p r => PathIs.left l i p r hn2 hik
      generalize hk : spl l.length = k at *
      generalize hn : l.length = n at *
      have d2 : decide ((i : Int) < (k : Int)) = true := by simp; omega
      have b0 : (0 : Int) ≤ (k : Int) := by omega
      have b1 : (k : Int) ≤ (n : Int) := by omega
      have b2 : (k : Int) ≤ (cap : Int) := by omega
      have b3 : (n : Int) ≤ (cap : Int) := by omega
      go_wp2_with fail
      have hv1 := HV.out.take k (by omega)
      refine (HIH.out (l.take k) i _ w (by omega) (by omega) HH.out hHs hv1 (fun s h => HS.out s (List.mem_of_mem_take h)) (by omega)).mono ?_
      rintro e w1 ⟨p, vp, hp, rfl, hown, hG1⟩
      have HPA : Hid _ := hp
      have HOWN : Hid (SumsOwn w1 w.heap.size vp p) := hown
      have hpl := hp.short (by omega)
      clear hp hown hv1 HIH
      go_wp2_with fail
      have hv2 := HV.out.drop k (by omega)
      refine (root_any H n (l.drop k) _ w1 (by omega) (RefAt.gr HH.out hHs hG1) (by have := hG1.size; omega) (hv2.gr hG1) (fun s h => HS.out s (List.mem_of_mem_drop h)) (by omega)).mono ?_
      rintro e w2 ⟨r, hr, hrl, rfl, hG2⟩
      have HR : Hid _ := hr
      have hG02 := gr_trans hG1 hG2
      have HOWN2 : Hid (SumsOwn w2 w.heap.size vp p) := HOWN.out.gr hG2
      obtain ⟨HI, HO, HN⟩ := sum25 r hrl
      clear hv2 hr hG1 hG2 HOWN HV HS HH
      generalize eR : (r.map ub).toArray = R at *
      go_wp2_with (first | (refine store_new rfl 25 _ _ rfl R _ _ rfl rfl HI.out HO.out HN.out ?_; intro W2 hW2 hs2 hG3) | refine wpList_load_row rfl 25 _ rfl w2.heap.size rfl 25 _ (0, 0) _ hW2 Tryd.underlying25 rfl HI.out ?_ | (refine wpList_append1 w.heap.size p r vp hrl (HOWN2.out.gr hG3) (by have := (gr_trans hG02 hG3).size; omega) (by omega) rfl rfl _ _ _ rfl rfl rfl (by rw [eR]; rfl) rfl (by simp [Act.put]) ?_; intro v' w' hown' hg'))
      go_ret
      exact ⟨_, _, HP.out p r HPA.out HR.out, rfl, hown', hg' w (gr_trans hG02 hG3) (Nat.le_refl _)⟩
    · have HP : Hid (∀ p r, PathIs (l.drop (spl l.length)) (i - spl l.length) p → RootIs (l.take (spl l.length)) r → PathIs l i (p ++ [r])) := fun p r => PathIs.right l i p r hn2 hik
      generalize hk : spl l.length = k at *
      generalize hn : l.length = n at *
      have d2 : decide ((i : Int) < (k : Int)) = false := by simp; omega
      have b0 : (0 : Int) ≤ (k : Int) := by omega
      have b1 : (k : Int) ≤ (n : Int) := by omega
      have b2 : (k : Int) ≤ (cap : Int) := by omega
      have b3 : (n : Int) ≤ (cap : Int) := by omega
      go_wp2_with fail
      have hv1 := HV.out.drop k (by omega)
      have hih := HIH.out (l.drop k) (i - k) _ w (by omega) (by omega) HH.out hHs hv1 (fun s h => HS.out s (List.mem_of_mem_drop h)) (by omega)
      rw [show ((i - k : Nat) : Int) = (i : Int) - (k : Int) by omega] at hih
      refine hih.mono ?_
      rintro e w1 ⟨p, vp, hp, rfl, hown, hG1⟩
      have HPA : Hid _ := hp
      have HOWN : Hid (SumsOwn w1 w.heap.size vp p) := hown
      have hpl := hp.short (by omega)
      clear hp hown hv1 HIH hih
      go_wp2_with fail
      have hv2 := HV.out.take k (by omega)
      refine (root_any H n (l.take k) _ w1 (by omega) (RefAt.gr HH.out hHs hG1) (by have := hG1.size; omega) (hv2.gr hG1) (fun s h => HS.out s (List.mem_of_mem_take h)) (by omega)).mono ?_
      rintro e w2 ⟨r, hr, hrl, rfl, hG2⟩
      have HR : Hid _ := hr
      have hG02 := gr_trans hG1 hG2
      have HOWN2 : Hid (SumsOwn w2 w.heap.size vp p) := HOWN.out.gr hG2
      obtain ⟨HI, HO, HN⟩ := sum25 r hrl
      clear hv2 hr hG1 hG2 HOWN HV HS HH
      generalize eR : (r.map ub).toArray = R at *
      go_wp2_with (first | (refine store_new rfl 25 _ _ rfl R _ _ rfl rfl HI.out HO.out HN.out ?_; intro W2 hW2 hs2 hG3) | refine wpList_load_row rfl 25 _ rfl w2.heap.size rfl 25 _ (0, 0) _ hW2 Tryd.underlying25 rfl HI.out ?_ | (refine wpList_append1 w.heap.size p r vp hrl (HOWN2.out.gr hG3) (by have := (gr_trans hG02 hG3).size; omega) (by omega) rfl rfl _ _ _ rfl rfl rfl (by rw [eR]; rfl) rfl (by simp [Act.put]) ?_; intro v' w' hown' hg'))
      go_ret
      exact ⟨_, _, HP.out p r HPA.out HR.out, rfl, hown', hg' w (gr_trans hG02 hG3) (Nat.le_refl _)⟩
end Go.Proofs.YtplhlhjakapaaaaDoor
