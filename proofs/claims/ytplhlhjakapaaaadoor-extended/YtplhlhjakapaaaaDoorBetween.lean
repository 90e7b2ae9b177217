/-
  rootsref's Between.
-/
import Derived.Test.YtplhlhjakapaaaaDoorPath
namespace Go.Proofs.YtplhlhjakapaaaaDoor
open Go Go.RowKit

/-- From the first m leaves to all. -/
inductive BetIs : List (List UInt8) → Nat → Bool → List (List UInt8) → Prop
  | whole (l : List (List UInt8)) : BetIs l l.length true []
  | part (l : List (List UInt8)) (r : List UInt8) : RootIs l r → BetIs l l.length false [r]
  | left (l : List (List UInt8)) (m : Nat) (f : Bool) (p : List (List UInt8)) (r : List UInt8) : m < l.length → m ≤ spl l.length → BetIs (l.take (spl l.length)) m f p → RootIs (l.drop (spl l.length)) r → BetIs l m f (p ++ [r])
  | right (l : List (List UInt8)) (m : Nat) (f : Bool) (p : List (List UInt8)) (r : List UInt8) : m < l.length → ¬ m ≤ spl l.length → BetIs (l.drop (spl l.length)) (m - spl l.length) false p → RootIs (l.take (spl l.length)) r → BetIs l m f (p ++ [r])

theorem BetIs.short {l : List (List UInt8)} {m : Nat} {f : Bool} {p : List (List UInt8)} (h : BetIs l m f p) : 1 ≤ m → l.length < 9223372036854775808 → p.length ≤ l.length := by
  induction h with
  | whole l => intro _ _; simp
  | part l r => intro _ _; simp; omega
  | left l m f p r h1 h2 _ _ ih =>
    intro hm hb
    obtain ⟨ha, hb', _, _⟩ := spl_spec l.length (by omega) hb
    have := spl_pos l.length
    have := ih hm (by rw [List.length_take]; omega)
    rw [List.length_take] at this
    simp; omega
  | right l m f p r h1 h2 _ _ ih =>
    intro hm hb
    obtain ⟨ha, hb', _, _⟩ := spl_spec l.length (by omega) hb
    have := spl_pos l.length
    have := ih (by omega) (by rw [List.length_drop]; omega)
    rw [List.length_drop] at this
    simp; omega

theorem wpList_build1 {ops : Array Oper} {rest : List Oper} {o : Oper} {a : Act} {w : World} {Q : Exit → Act → World → Prop} (s : List UInt8) (hs : s.length = 32) (hgd : o.guard = none) (x : Operand) (ho : o.op = .buildSlice 38 1 #[(0, x)]) (hx : a.eval x = .agg (s.map ub).toArray)
    (h : ∀ W : World, W.heap[w.heap.size]? = some (.cells (s.map ub).toArray 25 (0, 0)) → w.grownBy W none → wpList Tryd.prog ops Q rest (a.put o.dst (.slice (some ⟨w.heap.size, 0, none⟩) 1 1)) W) : wpList Tryd.prog ops Q (o :: rest) a w :=
  wpList_plain hgd fun _ hK => wp_build1 38 25 x ho Tryd.underlying38 _ hx (s.map ub).toArray (built_one s hs) (hK _ _ (h _ (heap_alloc_new w _) (gr_alloc w _)))

theorem sums_one {w : World} {base g : Nat} {s : List UInt8} (hs : s.length = 32) (hb : base ≤ g) (h : w.heap[g]? = some (.cells (s.map ub).toArray 25 (0, 0))) : SumsOwn w base (.slice (some ⟨g, 0, none⟩) 1 1) [s] :=
  ⟨fun x hx => by rw [List.mem_singleton.1 hx]; exact hs, fun h => absurd h (by simp), by simp [hs], Or.inr ⟨g, 1, (s.map ub).toArray, rfl, hb, h, by simp, by unfold maxLen; omega, by simp [hs], by simp [List.take_of_length_le, hs]⟩⟩

set_option maxHeartbeats 4000000 in
set_option maxRecDepth 100000 in
theorem bet_all (H : Nat) (l : List (List UInt8)) (f : Bool) (v : Value) (w : World) (hH : RefAt w H) (hHs : H < w.heap.size) (hv : StrsIs w v l) (hs : ∀ s ∈ l, s.length < 999999999) (hb : l.length < 1000000000) :
    Calls Tryd.prog 26 #[.pointer (some ⟨H, 0, none⟩), v, .int .i64 (l.length : Int), .bool f] w fun e w' => ∃ p v', BetIs l l.length f p ∧ e = .returned v' ∧ SumsOwn w' w.heap.size v' p ∧ w.grownBy w' none := by
  have HH : Hid (RefAt w H) := hH
  have HV : Hid (StrsIs w v l) := hv
  have HS : Hid (∀ s ∈ l, s.length < 999999999) := hs
  obtain ⟨sp, cap, rfl, _, _⟩ := hv
  clear hH hs
  have HW : Hid (BetIs l l.length true []) := BetIs.whole l
  have HP : Hid (∀ r, RootIs l r → BetIs l l.length false [r]) := fun r => BetIs.part l r
  cases f
  · clear HW
    generalize hn : l.length = n at *
    go_enter Tryd.func26, Tryd.ntmps26
    go_wp2_with fail
    refine (root_any H n l _ w (by omega) HH.out hHs HV.out HS.out (by omega)).mono ?_
    rintro e w2 ⟨r, hr, hrl, rfl, hG2⟩
    have HR : Hid _ := hr
    obtain ⟨HI, HO, HN⟩ := sum25 r hrl
    clear hr HV HS HH
    generalize eR : (r.map ub).toArray = R at *
    go_wp2_with (first | (refine store_new rfl 25 _ _ rfl R _ _ rfl rfl HI.out HO.out HN.out ?_; intro W2 hW2 hs2 hG3) | refine wpList_load_row rfl 25 _ rfl w2.heap.size rfl 25 _ (0, 0) _ hW2 Tryd.underlying25 rfl HI.out ?_ | (refine wpList_build1 r hrl rfl _ rfl (by rw [eR]; rfl) ?_; intro W4 hW4 hG4))
    go_ret
    exact ⟨_, _, HP.out r HR.out, rfl, sums_one hrl (by have := (gr_trans hG2 hG3).size; omega) (by rw [← hs2]; exact hW4), gr_trans hG2 (gr_trans hG3 hG4)⟩
  · clear HP
    generalize hn : l.length = n at *
    go_enter Tryd.func26, Tryd.ntmps26
    go_wp2
    go_ret
    exact ⟨_, _, HW.out, rfl, ⟨by simp, fun _ => rfl, World.ownsRow_nil _ _ _ _⟩, gr_refl _⟩

set_option maxHeartbeats 4000000 in
set_option maxRecDepth 100000 in
theorem bet_any (H : Nat) (N : Nat) : ∀ (l : List (List UInt8)) (m : Nat) (f : Bool) (v : Value) (w : World), l.length ≤ N → 1 ≤ m → m ≤ l.length → RefAt w H → H < w.heap.size → StrsIs w v l → (∀ s ∈ l, s.length < 999999999) → l.length < 1000000000 →
    Calls Tryd.prog 26 #[.pointer (some ⟨H, 0, none⟩), v, .int .i64 (m : Int), .bool f] w fun e w' => ∃ p v', BetIs l m f p ∧ e = .returned v' ∧ SumsOwn w' w.heap.size v' p ∧ w.grownBy w' none := by
  induction N with
  | zero => intro l m f v w h1 h2 h3; omega
  | succ N ih =>
    intro l m f v w hl hm1 hm hH hHs hv hs hb
    by_cases h1 : m = l.length
    · subst h1
      exact bet_all H l f v w hH hHs hv hs hb
    have hn2 : 2 ≤ l.length := by omega
    have hml : m < l.length := by omega
    have hn63 : l.length < 9223372036854775808 := by omega
    obtain ⟨ha, hb', _, _⟩ := spl_spec l.length hn2 hn63
    have hk1 := spl_pos l.length
    have HH : Hid (RefAt w H) := hH
    have HIH : Hid _ := ih
    have HV : Hid (StrsIs w v l) := hv
    have HS : Hid (∀ s ∈ l, s.length < 999999999) := hs
    obtain ⟨sp, cap, rfl, hcap, hsp⟩ := hv
    obtain ⟨g, o, rfl, hg, _⟩ := hsp (by omega)
    clear hH ih hs hsp
    have d1 : ((m : Int) == (l.length : Int)) = false := by rw [beq_eq_false_iff_ne]; omega
    have d1' : decide ((m : Int) = (l.length : Int)) = false := by simp; omega
    have d1'' : (m == l.length) = false := by rw [beq_eq_false_iff_ne]; omega
    go_enter Tryd.func26, Tryd.ntmps26
    go_wp2_with fail
    refine (rsplit_any l.length w hn2 hn63).mono ?_
    rintro e w' ⟨rfl, hww⟩
    rw [hww]; clear hww w'
    have hS1 : (l.take (spl l.length)).length = spl l.length := by rw [List.length_take]; omega
    have hS2 : (l.drop (spl l.length)).length = l.length - spl l.length := by rw [List.length_drop]
    by_cases hik : m ≤ spl l.length
    · have HP : Hid (∀ p r, BetIs (l.take (spl l.length)) m f p → RootIs (l.drop (spl l.length)) r → BetIs l m f (p ++ [r])) := fun p r => BetIs.left l m f p r hml hik
      generalize hk : spl l.length = k at *
      generalize hn : l.length = n at *
      have d2 : decide ((m : Int) ≤ (k : Int)) = true := by simp; omega
      have b0 : (0 : Int) ≤ (k : Int) := by omega
      have b1 : (k : Int) ≤ (n : Int) := by omega
      have b2 : (k : Int) ≤ (cap : Int) := by omega
      have b3 : (n : Int) ≤ (cap : Int) := by omega
      go_wp2_with fail
      have hv1 := HV.out.take k (by omega)
      refine (HIH.out (l.take k) m f _ w (by omega) hm1 (by omega) HH.out hHs hv1 (fun s h => HS.out s (List.mem_of_mem_take h)) (by omega)).mono ?_
      rintro e w1 ⟨p, vp, hp, rfl, hown, hG1⟩
      have HPA : Hid _ := hp
      have HOWN : Hid (SumsOwn w1 w.heap.size vp p) := hown
      have hpl := hp.short hm1 (by omega)
      clear hp hown hv1 HIH
      go_wp2_with fail
      have hv2 := HV.out.drop k (by omega)
      refine (root_any H n (l.drop k) _ w1 (by omega) (RefAt.gr HH.out hHs hG1) (by have := hG1.size; omega) (hv2.gr hG1) (fun s h => HS.out s (List.mem_of_mem_drop h)) (by omega)).mono ?_
      rintro e w2 ⟨r, hr, hrl, rfl, hG2⟩
      have HR : Hid _ := hr
      have hG02 := gr_trans hG1 hG2
      have HOWN2 : Hid (SumsOwn w2 w.heap.size vp p) := HOWN.out.gr hG2
      obtain ⟨HI, HO, HN⟩ := sum25 r hrl
      clear hv2 hr hG1 hG2 HOWN HV HS HH
      generalize eR : (r.map ub).toArray = R at *
      go_wp2_with (first | (refine store_new rfl 25 _ _ rfl R _ _ rfl rfl HI.out HO.out HN.out ?_; intro W2 hW2 hs2 hG3) | refine wpList_load_row rfl 25 _ rfl w2.heap.size rfl 25 _ (0, 0) _ hW2 Tryd.underlying25 rfl HI.out ?_ | (refine wpList_append1 w.heap.size p r vp hrl (HOWN2.out.gr hG3) (by have := (gr_trans hG02 hG3).size; omega) (by omega) rfl rfl _ _ _ rfl rfl rfl (by rw [eR]; rfl) rfl (by simp [Act.put]) ?_; intro v' w' hown' hg'))
      go_ret
      exact ⟨_, _, HP.out p r HPA.out HR.out, rfl, hown', hg' w (gr_trans hG02 hG3) (Nat.le_refl _)⟩
    · have HP : Hid (∀ p r, BetIs (l.drop (spl l.length)) (m - spl l.length) false p → RootIs (l.take (spl l.length)) r → BetIs l m f (p ++ [r])) := fun p r => BetIs.right l m f p r hml hik
      generalize hk : spl l.length = k at *
      generalize hn : l.length = n at *
      have d2 : decide ((m : Int) ≤ (k : Int)) = false := by simp; omega
      have b0 : (0 : Int) ≤ (k : Int) := by omega
      have b1 : (k : Int) ≤ (n : Int) := by omega
      have b2 : (k : Int) ≤ (cap : Int) := by omega
      have b3 : (n : Int) ≤ (cap : Int) := by omega
      go_wp2_with fail
      have hv1 := HV.out.drop k (by omega)
      have hih := HIH.out (l.drop k) (m - k) false _ w (by omega) (by omega) (by omega) HH.out hHs hv1 (fun s h => HS.out s (List.mem_of_mem_drop h)) (by omega)
      rw [show ((m - k : Nat) : Int) = (m : Int) - (k : Int) by omega] at hih
      refine hih.mono ?_
      rintro e w1 ⟨p, vp, hp, rfl, hown, hG1⟩
      have HPA : Hid _ := hp
      have HOWN : Hid (SumsOwn w1 w.heap.size vp p) := hown
      have hpl := hp.short (by omega) (by omega)
      clear hp hown hv1 HIH hih
      go_wp2_with fail
      have hv2 := HV.out.take k (by omega)
      refine (root_any H n (l.take k) _ w1 (by omega) (RefAt.gr HH.out hHs hG1) (by have := hG1.size; omega) (hv2.gr hG1) (fun s h => HS.out s (List.mem_of_mem_take h)) (by omega)).mono ?_
      rintro e w2 ⟨r, hr, hrl, rfl, hG2⟩
      have HR : Hid _ := hr
      have hG02 := gr_trans hG1 hG2
      have HOWN2 : Hid (SumsOwn w2 w.heap.size vp p) := HOWN.out.gr hG2
      obtain ⟨HI, HO, HN⟩ := sum25 r hrl
      clear hv2 hr hG1 hG2 HOWN HV HS HH
      generalize eR : (r.map ub).toArray = R at *
      go_wp2_with (first | (refine store_new rfl 25 _ _ rfl R _ _ rfl rfl HI.out HO.out HN.out ?_; intro W2 hW2 hs2 hG3) | refine wpList_load_row rfl 25 _ rfl w2.heap.size rfl 25 _ (0, 0) _ hW2 Tryd.underlying25 rfl HI.out ?_ | (refine wpList_append1 w.heap.size p r vp hrl (HOWN2.out.gr hG3) (by have := (gr_trans hG02 hG3).size; omega) (by omega) rfl rfl _ _ _ rfl rfl rfl (by rw [eR]; rfl) rfl (by simp [Act.put]) ?_; intro v' w' hown' hg'))
      go_ret
      exact ⟨_, _, HP.out p r HPA.out HR.out, rfl, hown', hg' w (gr_trans hG02 hG3) (Nat.le_refl _)⟩
end Go.Proofs.YtplhlhjakapaaaaDoor
