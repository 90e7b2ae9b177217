import Derived.Test.YtjgmmdgcknnlpaaDoorHolA
import Derived.Test.YtjgmmdgcknnlpaaDoorOf
import Derived.Test.YtjgmmdgcknnlpaaDoorHolD
import Derived.Test.YtjgmmdgcknnlpaaDoorIncl3

/-
  rootslaw's pick and size.
-/
namespace Go.Proofs.YtjgmmdgcknnlpaaDoor
open Go Go.RowKit

set_option maxHeartbeats 1000000 in
set_option maxRecDepth 100000 in
theorem pick_any (c n : Int) (h0 : 0 < n) (hn : n < 9223372036854775808) (hc : -9223372036854775808 ≤ c) (hc' : c < 9223372036854775808) (w : World) :
    Calls Tryd.prog 28 #[.int .i64 c, .int .i64 n] w fun e w' => ∃ p : Nat, e = .returned (.int .i64 (p : Int)) ∧ (p : Int) < n ∧ w' = w := by
  have hz : (n == 0) = false := by simp; omega
  go_enter Tryd.func28, Tryd.ntmps28
  by_cases hneg : c < 0
  · have d1 : decide (c < 0) = true := by simp; omega
    have e1 : -(c + 1).tmod n = -(c + 1) % n := by rw [← Int.neg_tmod, Int.tmod_eq_emod_of_nonneg (by omega)]
    have e2 : 0 ≤ -(c + 1) % n := Int.emod_nonneg _ (by omega)
    have e3 : -(c + 1) % n < n := Int.emod_lt_of_pos _ h0
    go_wp2
    go_ret
    exact ⟨(-(c + 1) % n).toNat, by rw [Int.toNat_of_nonneg e2]; rfl, by rw [Int.toNat_of_nonneg e2]; exact e3, rfl⟩
  · have d1 : decide (c < 0) = false := by simp; omega
    have e2 : 0 ≤ c % n := Int.emod_nonneg _ (by omega)
    have e3 : c % n < n := Int.emod_lt_of_pos _ h0
    go_wp2
    go_ret
    exact ⟨(c % n).toNat, by rw [Int.toNat_of_nonneg e2]; rfl, by rw [Int.toNat_of_nonneg e2]; exact e3, rfl⟩

/-- Texts that a slice holds. -/
def StrsIs (w : World) (v : Value) (l : List (List UInt8)) : Prop :=
  ∃ sp cap, v = .slice sp l.length cap ∧ l.length ≤ cap ∧ (0 < l.length → ∃ g o, sp = some ⟨g, o, none⟩ ∧ g < w.heap.size ∧ ∀ k s, l[k]? = some s → w.cell? ⟨g, o + k, none⟩ = some (.string (mkS s)))

theorem StrsIs.gr {a b : World} {v : Value} {l : List (List UInt8)} (h : StrsIs a v l) (hG : a.grownBy b none) : StrsIs b v l := by
  obtain ⟨sp, cap, rfl, hc, hsp⟩ := h
  refine ⟨sp, cap, rfl, hc, fun h0 => ?_⟩
  obtain ⟨g, o, h1, h2, h3⟩ := hsp h0
  exact ⟨g, o, h1, Nat.lt_of_lt_of_le h2 hG.size, fun k s hk => (gr_cell hG (p := ⟨g, o + k, none⟩) h2).trans (h3 k s hk)⟩

/-- The bytes of texts, and how many they are. -/
def bulkL (l : List (List UInt8)) : Nat := l.length + (l.map List.length).sum

set_option maxHeartbeats 1000000 in
set_option maxRecDepth 100000 in
theorem size_any (l : List (List UInt8)) (v : Value) (w : World) (hv : StrsIs w v l) (hl : l.length < 140737488355328) (hs : ∀ s ∈ l, s.length < 140737488355328) :
    Calls Tryd.prog 17 #[v] w fun e w' => ∃ z : Nat, e = .returned (.int .i64 (z : Int)) ∧ (z ≤ 16384 → bulkL l ≤ 16384) ∧ w' = w := by
  obtain ⟨sp, cap, rfl, hcap, hsp⟩ := hv
  have HS : Hid _ := hs
  have HSP : Hid _ := hsp
  clear hs hsp
  have hsz := size_mkS
  go_enter Tryd.func17, Tryd.ntmps17
  go_wp2
  go_loopw [3, 4] (fun n i wr => ∃ k N : Nat, k ≤ l.length ∧ i = .int .i64 (k : Int) ∧ n = .int .i64 (N : Int) ∧ N = l.length + ((l.take k).map List.length).sum ∧ N < 140737488371713 ∧ wr = w)
    (fun n i _ => l.length - (intOf i).toNat)
  case atStart => exact ⟨0, l.length, by omega, rfl, rfl, by simp, by omega, rfl⟩
  case round =>
    obtain ⟨k, N, hk, rfl, rfl, hN, hb, rfl⟩ := hrel
    by_cases h1 : k < l.length
    · have d1 : decide ((k : Int) < (l.length : Int)) = true := by simp; omega
      by_cases h2 : N ≤ 16384
      · have d2 : decide ((N : Int) ≤ 16384) = true := by simp; omega
        obtain ⟨g, o, rfl, hg, hc⟩ := HSP.out (by omega)
        have c1 := hc k l[k] (by simp)
        have hx : l[k].length < 140737488355328 := HS.out _ (by simp)
        have hN' : N + l[k].length = l.length + ((l.take (k + 1)).map List.length).sum := by
          rw [List.take_succ_eq_append_getElem h1, List.map_append, List.sum_append, ← Nat.add_assoc, ← hN]; simp
        clear hN hc
        generalize l[k] = x at *
        go_wp2
        exact ⟨⟨k + 1, N + x.length, by omega, by go_num, by go_num, hN', by omega, trivial⟩, by simp [intOf]; omega⟩
      · have d2 : decide ((N : Int) ≤ 16384) = false := by simp; omega
        clear hN
        go_wp2
        go_ret
        exact ⟨N, rfl, by omega, rfl⟩
    · have d1 : decide ((k : Int) < (l.length : Int)) = false := by simp; omega
      obtain rfl : k = l.length := by omega
      rw [List.take_length] at hN
      have hN' : Hid (N = bulkL l) := hN
      clear hN
      go_wp2
      go_ret
      exact ⟨N, rfl, fun h => by rw [← hN'.out]; exact h, rfl⟩
end Go.Proofs.YtjgmmdgcknnlpaaDoor

/-
  rootslaw's mark.
-/
namespace Go.Proofs.YtjgmmdgcknnlpaaDoor
open Go Go.RowKit

theorem wpList_alloc25 {ops : Array Oper} {rest : List Oper} {o : Oper} {a : Act} {w : World} {Q : Exit → Act → World → Prop} (hgd : o.guard = none) (ho : o.op = .alloc 25)
    (h : ∀ W : World, W.heap[w.heap.size]? = some (.cells (brow 32 []).toArray 25 (0, 0)) → W.heap.size = w.heap.size + 1 → w.grownBy W none → wpList Tryd.prog ops Q rest (a.put o.dst (.pointer (some ⟨w.heap.size, 0, none⟩))) W) :
    wpList Tryd.prog ops Q (o :: rest) a w :=
  wpList_plain hgd fun _ hK => wp_alloc25 ho (hK _ _ (h _ (heap_alloc_new _ _) (by simp) (gr_alloc _ _)))

theorem wpList_store5 {ops : Array Oper} {rest : List Oper} {o : Oper} {a : Act} {w : World} {Q : Exit → Act → World → Prop} (hgd : o.guard = none) (x y : Operand) (ho : o.op = .store 5 x y) (B j : Nat) (b : Int) (l : List UInt8)
    (hx : a.eval x = .pointer (some ⟨B, j, none⟩)) (hy : a.eval y = .int .u8 b) (hb0 : 0 ≤ b) (hb : b < 256) (hg : w.heap[B]? = some (.cells (l.map ub).toArray 25 (0, 0))) (hj : j < l.length)
    (h : ∀ (W : World) (l' : List UInt8), l'.length = l.length → W.heap[B]? = some (.cells (l'.map ub).toArray 25 (0, 0)) → W.heap.size = w.heap.size → (∀ k, k ≠ B → W.heap[k]? = w.heap[k]?) → (∀ w0 : World, w0.grownBy w none → w0.heap.size ≤ B → w0.grownBy W none) → wpList Tryd.prog ops Q rest (a.put o.dst undef) W) :
    wpList Tryd.prog ops Q (o :: rest) a w := by
  refine wpList_plain hgd fun K hK => ?_
  have c := byte_at hg j hj
  have f : w.frozen? ⟨B, j, none⟩ = false := frozen_of_row w _ _ _ _ hg
  have eb : ub (UInt8.ofNat b.toNat) = .int .u8 b := by
    have : ((UInt8.ofNat b.toNat).toNat : Int) = b := by
      rw [UInt8.toNat_ofNat']; omega
    show Value.int .u8 _ = _
    rw [this]
  have hW : (w.setCell ⟨B, j, none⟩ (.int .u8 b)).heap[B]? = some (.cells ((l.set j (UInt8.ofNat b.toNat)).map ub).toArray 25 (0, 0)) := by
    rw [heap_setCell_same w B j _ 25 _ hg, ← eb]
    simp [List.map_set]
  have h' := hK _ _ (h (w.setCell ⟨B, j, none⟩ (.int .u8 b)) (l.set j (UInt8.ofNat b.toNat)) (by simp) hW (by simp) (fun k hk => heap_setCell_other _ _ _ _ (by simpa using hk)) (fun w0 hG hB => gr_at hG hB j _))
  unfold Oper.wp execOp
  simp only [ho, hx, hy]
  clear hK h hW eb
  go_simp
  exact h'

set_option maxHeartbeats 1000000 in
set_option maxRecDepth 100000 in
theorem mark_any (c : Int) (w : World) :
    Calls Tryd.prog 29 #[.int .i64 c] w fun e w' => ∃ s : List UInt8, s.length = 32 ∧ e = .returned (.agg (s.map ub).toArray) ∧ w.grownBy w' none := by
  have b1 : 0 ≤ c % 256 := by omega
  have b2 : c % 256 < 256 := by omega
  have b3 : 0 ≤ c / 256 % 256 := by omega
  have b4 : c / 256 % 256 < 256 := by omega
  go_enter Tryd.func29, Tryd.ntmps29
  refine wp_seq (wp_region_lit (wpList_alloc25 rfl rfl fun W1 hW1 hs1 hG1 => ?_))
  change Code.wp _ _ _ _ _
  refine wp_seq (wp_region_lit (wpList_alloc25 rfl rfl fun W2 hW2 hs2 hG2 => ?_))
  change Code.wp _ _ _ _ _
  simp only [Act.put, List.setIfInBounds_toArray, List.set_cons_zero, List.set_cons_succ]
  have hR2 : W2.heap[w.heap.size]? = some (.cells (brow 32 []).toArray 25 (0, 0)) := (hG2.block _ (by omega) (by simp)).trans hW1
  have hG02 := gr_trans hG1 hG2
  rw [brow_z] at hW2
  have hl0 : (List.replicate 32 (0 : UInt8)).length = 32 := rfl
  generalize List.replicate 32 (0 : UInt8) = l0 at hW2 hl0
  clear hW1 hG2 hG1
  generalize W1.heap.size = B at *
  have hB : w.heap.size < B := by omega
  clear hs1 hs2
  go_wp2_with (first | (refine wpList_store5 rfl _ _ rfl B 0 _ l0 rfl rfl (by omega) (by omega) hW2 (by omega) ?_; intro W3 l3 hl3 hW3 hs3 ho3 hg3) | (refine wpList_store5 rfl _ _ rfl B 1 _ l3 rfl rfl (by omega) (by omega) hW3 (by omega) ?_; intro W4 l4 hl4 hW4 hs4 ho4 hg4) | (refine wpList_store5 rfl _ _ rfl B 2 _ l4 rfl rfl (by omega) (by omega) hW4 (by omega) ?_; intro W5 l5 hl5 hW5 hs5 ho5 hg5; have hR5 := (ho5 _ (Nat.ne_of_lt hB)).trans ((ho4 _ (Nat.ne_of_lt hB)).trans ((ho3 _ (Nat.ne_of_lt hB)).trans hR2)); obtain ⟨HI, HO, HN⟩ := sum25 l5 (by omega)) | refine wpList_load_row rfl 25 _ rfl B rfl 25 _ (0, 0) _ hW5 Tryd.underlying25 rfl HI.out ?_ | refine wpList_store_row rfl 25 _ _ rfl w.heap.size (l5.map ub).toArray rfl rfl 25 _ hR5 HI.out HO.out HN.out ?_)
  have hG05 := hg5 w (hg4 w (hg3 w hG02 (by omega)) (by omega)) (by omega)
  exact bodyPost_ret (results_cell_row Tryd.results29 _ _ w.heap.size 25 _ (0, 0) _ rfl (setRow_heap _ _ _ _ 25 _ hR5) Tryd.underlying25 rfl HI.out) rfl ⟨l5, by omega, rfl, gr_row hG05 _ _ (Nat.le_refl _)⟩
end Go.Proofs.YtjgmmdgcknnlpaaDoor

/-
  rootsref's Root.
-/
namespace Go.Proofs.YtjgmmdgcknnlpaaDoor
open Go Go.RowKit

/-- The root of a list. -/
inductive RootIs : List (List UInt8) → List UInt8 → Prop
  | nil : RootIs [] (sha [])
  | one (s : List UInt8) : RootIs [s] (sha (0 :: s))
  | node (l : List (List UInt8)) (a b : List UInt8) : 2 ≤ l.length → RootIs (l.take (spl l.length)) a → RootIs (l.drop (spl l.length)) b → RootIs l (sha (nodeL 1 a b))

theorem StrsIs.take {w : World} {sp : Option Addr} {n cap : Nat} {l : List (List UInt8)} (h : StrsIs w (.slice sp n cap) l) (k : Nat) (hk : k ≤ l.length) : StrsIs w (.slice sp k cap) (l.take k) := by
  obtain ⟨sp', cap', e, hc, hsp⟩ := h
  cases e
  have hl : (l.take k).length = k := by rw [List.length_take]; omega
  refine ⟨sp, cap, by rw [hl], by omega, fun h0 => ?_⟩
  obtain ⟨g, o, h1, h2, h3⟩ := hsp (by omega)
  exact ⟨g, o, h1, h2, fun j s hj => h3 j s (by rw [List.getElem?_take] at hj; split at hj <;> simp_all)⟩
theorem StrsIs.drop {w : World} {g o n cap : Nat} {l : List (List UInt8)} (h : StrsIs w (.slice (some ⟨g, o, none⟩) n cap) l) (k : Nat) (hk : k ≤ l.length) : StrsIs w (.slice (some ⟨g, o + k, none⟩) (n - k) (cap - k)) (l.drop k) := by
  obtain ⟨sp', cap', e, hc, hsp⟩ := h
  cases e
  refine ⟨_, _, by rw [List.length_drop], by rw [List.length_drop]; omega, fun h0 => ?_⟩
  rw [List.length_drop] at h0
  obtain ⟨g', o', h1, h2, h3⟩ := hsp (by omega)
  cases h1
  exact ⟨_, _, rfl, h2, fun j s hj => by rw [List.getElem?_drop] at hj; have := h3 (k + j) s hj; rwa [← Nat.add_assoc] at this⟩

set_option maxHeartbeats 4000000 in
set_option maxRecDepth 100000 in
theorem root_nil (H : Nat) (v : Value) (w : World) (hH : RefAt w H) (hHs : H < w.heap.size) (hv : StrsIs w v []) :
    Calls Tryd.prog 20 #[.pointer (some ⟨H, 0, none⟩), v] w fun e w' => e = .returned (.agg ((sha []).map ub).toArray) ∧ w.grownBy w' none := by
  obtain ⟨sp, cap, rfl, _, _⟩ := hv
  have HH : Hid (RefAt w H) := hH
  clear hH
  have h00 : (⟨#[]⟩ : ByteArray) = mkS [] := rfl
  go_enter Tryd.func20, Tryd.ntmps20
  go_wp2_with fail
  have hA := gr_alloc w (Obj.cells (brow 32 []).toArray 25)
  refine (of_any H [] (w.alloc (Obj.cells (brow 32 []).toArray 25)) (RefAt.gr HH.out hHs hA) (by have := hA.size; omega) (by simp)).mono ?_
  rintro e w4 ⟨rfl, hG4⟩
  have hG04 := gr_trans hA hG4
  have hrow4 : w4.heap[w.heap.size]? = some (.cells (brow 32 []).toArray 25 (0, 0)) := (hG4.block _ (by simp) (by simp)).trans (heap_alloc_new _ _)
  obtain ⟨HI, HO, HN⟩ := sum25 _ (length_sha [])
  clear hA hG4 HH
  generalize eX : ((sha []).map ub).toArray = X at *
  go_wp2_with (refine wpList_store_row rfl 25 _ _ rfl w.heap.size _ rfl rfl 25 _ hrow4 HI.out HO.out HN.out ?_)
  exact bodyPost_ret (v := .agg X) (results_cell_row Tryd.results20 _ _ w.heap.size 25 _ (0, 0) _ rfl (setRow_heap w4 _ _ _ 25 _ hrow4) Tryd.underlying25 rfl HI.out) rfl ⟨by rw [eX], gr_row hG04 _ _ (Nat.le_refl _)⟩

set_option maxHeartbeats 4000000 in
set_option maxRecDepth 100000 in
theorem root_one (H : Nat) (s : List UInt8) (v : Value) (w : World) (hH : RefAt w H) (hHs : H < w.heap.size) (hv : StrsIs w v [s]) (hs : s.length < 999999999) :
    Calls Tryd.prog 20 #[.pointer (some ⟨H, 0, none⟩), v] w fun e w' => e = .returned (.agg ((sha (0 :: s)).map ub).toArray) ∧ w.grownBy w' none := by
  obtain ⟨sp, cap, rfl, _, hsp⟩ := hv
  obtain ⟨g, o, rfl, hg, hc⟩ := hsp (by simp)
  have c0 := hc 0 s rfl
  rw [Nat.add_zero] at c0
  have HH : Hid (RefAt w H) := hH
  clear hH hc hsp
  have h00 : (⟨#[0]⟩ : ByteArray) = mkS [0] := rfl
  have hcat := mkS_append
  have hsz := size_mkS
  have hA := gr_alloc w (Obj.cells (brow 32 []).toArray 25)
  have c1 : (w.alloc (Obj.cells (brow 32 []).toArray 25)).cell? ⟨g, o, none⟩ = some (.string (mkS s)) := (gr_cell hA (p := ⟨g, o, none⟩) hg).trans c0
  go_enter Tryd.func20, Tryd.ntmps20
  go_wp2_with fail
  refine (of_any H (0 :: s) (w.alloc (Obj.cells (brow 32 []).toArray 25)) (RefAt.gr HH.out hHs hA) (by have := hA.size; omega) (by simp; omega)).mono ?_
  rintro e w4 ⟨rfl, hG4⟩
  have hG04 := gr_trans hA hG4
  have hrow4 : w4.heap[w.heap.size]? = some (.cells (brow 32 []).toArray 25 (0, 0)) := (hG4.block _ (by simp) (by simp)).trans (heap_alloc_new _ _)
  obtain ⟨HI, HO, HN⟩ := sum25 _ (length_sha (0 :: s))
  clear hA hG4 HH c1 c0 h00 hcat hsz
  generalize eX : ((sha (0 :: s)).map ub).toArray = X at *
  go_wp2_with (refine wpList_store_row rfl 25 _ _ rfl w.heap.size _ rfl rfl 25 _ hrow4 HI.out HO.out HN.out ?_)
  exact bodyPost_ret (v := .agg X) (results_cell_row Tryd.results20 _ _ w.heap.size 25 _ (0, 0) _ rfl (setRow_heap w4 _ _ _ 25 _ hrow4) Tryd.underlying25 rfl HI.out) rfl ⟨by rw [eX], gr_row hG04 _ _ (Nat.le_refl _)⟩

set_option maxHeartbeats 4000000 in
set_option maxRecDepth 100000 in
theorem root_any (H : Nat) (N : Nat) : ∀ (l : List (List UInt8)) (v : Value) (w : World), l.length ≤ N → RefAt w H → H < w.heap.size → StrsIs w v l → (∀ s ∈ l, s.length < 999999999) → l.length < 1000000000 →
    Calls Tryd.prog 20 #[.pointer (some ⟨H, 0, none⟩), v] w fun e w' => ∃ R, RootIs l R ∧ R.length = 32 ∧ e = .returned (.agg (R.map ub).toArray) ∧ w.grownBy w' none := by
  induction N with
  | zero =>
    intro l v w hl hH hHs hv _ _
    obtain rfl : l = [] := List.length_eq_zero_iff.1 (by omega)
    refine (root_nil H v w hH hHs hv).mono ?_
    rintro e w' ⟨rfl, hG⟩
    exact ⟨_, RootIs.nil, length_sha _, rfl, hG⟩
  | succ N ih =>
    intro l v w hl hH hHs hv hs hb
    by_cases h0 : l.length = 0
    · obtain rfl : l = [] := List.length_eq_zero_iff.1 h0
      refine (root_nil H v w hH hHs hv).mono ?_
      rintro e w' ⟨rfl, hG⟩
      exact ⟨_, RootIs.nil, length_sha _, rfl, hG⟩
    by_cases h1 : l.length = 1
    · obtain ⟨s, rfl⟩ := List.length_eq_one_iff.1 h1
      refine (root_one H s v w hH hHs hv (hs s (by simp))).mono ?_
      rintro e w' ⟨rfl, hG⟩
      exact ⟨_, RootIs.one s, length_sha _, rfl, hG⟩
    have hn2 : 2 ≤ l.length := by omega
    have hn63 : l.length < 9223372036854775808 := by omega
    obtain ⟨ha, hb', _, _⟩ := spl_spec l.length hn2 hn63
    have hk1 := spl_pos l.length
    have HH : Hid (RefAt w H) := hH
    have HIH : Hid _ := ih
    have HV : Hid (StrsIs w v l) := hv
    have HS : Hid _ := hs
    have HND : Hid (∀ a b, RootIs (l.take (spl l.length)) a → RootIs (l.drop (spl l.length)) b → RootIs l (sha (nodeL 1 a b))) := fun a b => RootIs.node l a b hn2
    obtain ⟨sp, cap, rfl, hcap, hsp⟩ := hv
    obtain ⟨g, o, rfl, hg, _⟩ := hsp (by omega)
    clear hH ih hs hsp
    have d0 : ((l.length : Int) == 0) = false := by rw [beq_eq_false_iff_ne]; omega
    have d1 : ((l.length : Int) == 1) = false := by rw [beq_eq_false_iff_ne]; omega
    go_enter Tryd.func20, Tryd.ntmps20
    go_wp2_with fail
    have hA := gr_alloc w (Obj.cells (brow 32 []).toArray 25)
    have hB0 : (w.alloc (Obj.cells (brow 32 []).toArray 25)).heap[w.heap.size]? = some (.cells (brow 32 []).toArray 25 (0, 0)) := heap_alloc_new _ _
    refine (rsplit_any l.length (w.alloc (Obj.cells (brow 32 []).toArray 25)) hn2 hn63).mono ?_
    rintro e w' ⟨rfl, hww⟩
    rw [hww]; clear hww w'
    generalize w.alloc (Obj.cells (brow 32 []).toArray 25) = W at hA hB0 ⊢
    generalize hk : spl l.length = k at *
    generalize hn : l.length = n at *
    have b0 : (0 : Int) ≤ (k : Int) := by omega
    have b1 : (k : Int) ≤ (n : Int) := by omega
    have b2 : (k : Int) ≤ (cap : Int) := by omega
    have b3 : (n : Int) ≤ (cap : Int) := by omega
    go_wp2_with fail
    have hv1 := HV.out.take k (by omega)
    have hl1 : (l.take k).length ≤ N := by rw [List.length_take]; omega
    refine (HIH.out (l.take k) _ W hl1 (RefAt.gr HH.out hHs hA) (by have := hA.size; omega) (hv1.gr hA) (fun s h => HS.out s (List.mem_of_mem_take h)) (by rw [List.length_take]; omega)).mono ?_
    rintro e w1 ⟨a, hRa, hal, rfl, hG1⟩
    have hG01 := gr_trans hA hG1
    have hB1 : w1.heap[w.heap.size]? = some (.cells (brow 32 []).toArray 25 (0, 0)) := (hG1.block _ (Array.getElem?_eq_some_iff.1 hB0).1 (by simp)).trans hB0
    have HRA : Hid _ := hRa
    obtain ⟨HIa, HOa, HNa⟩ := sum25 a hal
    clear hv1 hl1 hA hB0 hG1 hRa
    generalize eA : (a.map ub).toArray = A at *
    go_wp2_with (first | (refine store_new rfl 25 _ _ rfl A _ _ rfl rfl HIa.out HOa.out HNa.out ?_; intro W2 hW2 hs2 hG2))
    have hG02 := gr_trans hG01 hG2
    have hB2 : W2.heap[w.heap.size]? = some (.cells (brow 32 []).toArray 25 (0, 0)) := (hG2.block _ (Array.getElem?_eq_some_iff.1 hB1).1 (by simp)).trans hB1
    have hv2 := HV.out.drop k (by omega)
    have hl2 : (l.drop k).length ≤ N := by rw [List.length_drop]; omega
    have hl3 : (l.drop k).length < 1000000000 := by rw [List.length_drop]; omega
    refine (HIH.out (l.drop k) _ W2 hl2 (RefAt.gr HH.out hHs hG02) (by have := hG02.size; omega) (hv2.gr hG02) (fun s h => HS.out s (List.mem_of_mem_drop h)) hl3).mono ?_
    rintro e w3 ⟨b, hRb, hbl, rfl, hG3⟩
    have hG03 := gr_trans hG02 hG3
    have hB3 : w3.heap[w.heap.size]? = some (.cells (brow 32 []).toArray 25 (0, 0)) := (hG3.block _ (Array.getElem?_eq_some_iff.1 hB2).1 (by simp)).trans hB2
    have hW3 : w3.heap[w1.heap.size]? = some (.cells A 25 (0, 0)) := (hG3.block _ (by omega) (by simp)).trans hW2
    have HRB : Hid _ := hRb
    have hs13 : w1.heap.size < w3.heap.size := (Array.getElem?_eq_some_iff.1 hW3).1
    have hs03 : w.heap.size < w3.heap.size := (Array.getElem?_eq_some_iff.1 hB3).1
    obtain ⟨HIb, HOb, HNb⟩ := sum25 b hbl
    clear hv2 hl2 hl3 hB1 hB2 hG2 hW2 hG01 hG02 hG3 hRb HIH HV HS hs2
    generalize w1.heap.size = P1 at *
    generalize eB : (b.map ub).toArray = B at *
    go_wp2_with (first | (refine store_new rfl 25 _ _ rfl B _ _ rfl rfl HIb.out HOb.out HNb.out ?_; intro W4 hW4 hs4 hG4; have hP4 := (hG4.block _ hs13 (by simp)).trans hW3; have hB4 := (hG4.block _ hs03 (by simp)).trans hB3) | refine wpList_load_row rfl 25 _ rfl P1 rfl 25 _ (0, 0) _ hP4 Tryd.underlying25 rfl HIa.out ?_ | refine wpList_load_row rfl 25 _ rfl w3.heap.size rfl 25 _ (0, 0) _ hW4 Tryd.underlying25 rfl HIb.out ?_)
    have hG04 := gr_trans hG03 hG4
    have hnd := node_any H 1 a b hal hbl W4 (RefAt.gr HH.out hHs hG04) (by have := hG04.size; omega)
    rw [eA, eB] at hnd
    refine hnd.mono ?_
    clear hnd
    rintro e w5 ⟨rfl, hG5⟩
    have hG05 := gr_trans hG04 hG5
    have hB5 : w5.heap[w.heap.size]? = some (.cells (brow 32 []).toArray 25 (0, 0)) := (hG5.block _ (by omega) (by simp)).trans hB4
    clear hW3 hW4 hP4 hB4 hB3 hG03 hG04 hG4 hG5 HH HIa HOa HNa HIb HOb HNb
    obtain ⟨HI, HO, HN⟩ := sum25 _ (length_sha (nodeL 1 a b))
    generalize eX : ((sha (nodeL 1 a b)).map ub).toArray = X at *
    go_wp2_with (refine wpList_store_row rfl 25 _ _ rfl w.heap.size _ rfl rfl 25 _ hB5 HI.out HO.out HN.out ?_)
    exact bodyPost_ret (v := .agg X) (results_cell_row Tryd.results20 _ _ w.heap.size 25 _ (0, 0) _ rfl (setRow_heap w5 _ _ _ 25 _ hB5) Tryd.underlying25 rfl HI.out) rfl ⟨_, HND.out a b HRA.out HRB.out, length_sha _, by rw [eX], gr_row hG05 _ _ (Nat.le_refl _)⟩
end Go.Proofs.YtjgmmdgcknnlpaaDoor

/-
  Lists of hashes that are one's own; a hash appended.
-/
namespace Go.Proofs.YtjgmmdgcknnlpaaDoor
open Go Go.RowKit

def SumsOwn (w : World) (base : Nat) (v : Value) (ps : List (List UInt8)) : Prop :=
  (∀ s ∈ ps, s.length = 32) ∧ (ps = [] → v = .slice none 0 0) ∧ w.ownsRow base 25 32 v ps.length (ps.flatten.map ub)

theorem flat_length : ∀ (ps : List (List UInt8)), (∀ s ∈ ps, s.length = 32) → ps.flatten.length = ps.length * 32
  | [], _ => rfl
  | s :: ps, h => by
    rw [List.flatten_cons, List.length_append, flat_length ps (fun x hx => h x (by simp [hx])), h s (by simp), List.length_cons]; omega
theorem flat_at : ∀ (ps : List (List UInt8)), (∀ s ∈ ps, s.length = 32) → ∀ (k : Nat) (s : List UInt8), ps[k]? = some s → ∀ j, j < 32 → ps.flatten[k * 32 + j]? = s[j]?
  | [], _, k, s, hk, _, _ => by simp at hk
  | t :: ps, h, 0, s, hk, j, hj => by
    obtain rfl : t = s := by simpa using hk
    rw [List.flatten_cons, Nat.zero_mul, Nat.zero_add, List.getElem?_append_left (by rw [h t (by simp)]; exact hj)]
  | t :: ps, h, k + 1, s, hk, j, hj => by
    have ht := h t (by simp)
    rw [List.flatten_cons, List.getElem?_append_right (by omega), show (k + 1) * 32 + j - t.length = k * 32 + j by omega]
    exact flat_at ps (fun x hx => h x (by simp [hx])) k s (by simpa using hk) j hj

theorem SumsOwn.is {w : World} {base : Nat} {v : Value} {ps : List (List UInt8)} (h : SumsOwn w base v ps) : SumsIs w v ps := by
  obtain ⟨h32, _, hl, h0 | ⟨g, cap, cur, hv, hb, hh, h1, h2, h3, h4⟩⟩ := h
  · have : ps = [] := List.length_eq_zero_iff.1 h0.2
    subst this
    exact ⟨h32, _, _, h0.1, by simp, fun h => absurd h (by simp)⟩
  · refine ⟨h32, _, _, hv, h1, fun _ => ⟨g, 0, rfl, (Array.getElem?_eq_some_iff.1 hh).1, fun k s hk j u hj => ?_⟩⟩
    have hkl : k < ps.length := (List.getElem?_eq_some_iff.1 hk).1
    have hs : s.length = 32 := h32 s (List.mem_of_getElem? hk)
    have hj32 : j < 32 := by have := (List.getElem?_eq_some_iff.1 hj).1; simpa [hs] using this
    have hin : k * 32 + j < ps.length * 32 := by have : (k + 1) * 32 ≤ ps.length * 32 := Nat.mul_le_mul_right _ hkl; omega
    have e : cur[k * 32 + j]? = (cur.toList.take (ps.length * 32))[k * 32 + j]? := by
      rw [List.getElem?_take, if_pos hin, Array.getElem?_toList]
    rw [Nat.zero_add, cell_of_row w _ _ _ _ _ hh, e, h4, List.getElem?_map, flat_at ps h32 k s hk j hj32, ← List.getElem?_map, hj]

theorem SumsOwn.gr {a b : World} {base : Nat} {v : Value} {ps : List (List UInt8)} (h : SumsOwn a base v ps) (hG : a.grownBy b none) : SumsOwn b base v ps := by
  refine ⟨h.1, h.2.1, h.2.2.kept hG ?_⟩
  cases hv : v.ownBlock
  · exact Or.inl rfl
  · exact Or.inr (by simp)
theorem SumsOwn.lower {w : World} {base base' : Nat} {v : Value} {ps : List (List UInt8)} (h : SumsOwn w base v ps) (hb : base' ≤ base) : SumsOwn w base' v ps := by
  obtain ⟨h32, hn, hl, h0 | ⟨g, cap, cur, hv, hb', rest⟩⟩ := h
  · exact ⟨h32, hn, hl, Or.inl h0⟩
  · exact ⟨h32, hn, hl, Or.inr ⟨g, cap, cur, hv, by omega, rest⟩⟩

/-- What a walk that writes only into rows of its own keeps. -/
theorem gr_own {w0 w w' : World} {base : Nat} {v : Value} {e : TypeId} {n : Nat} {xs : List Value} (h : w.ownsRow base e 32 v n xs) (hG : w.grownBy w' v.ownBlock) (h0 : w0.grownBy w none) (hb : w0.heap.size ≤ base) : w0.grownBy w' none := by
  refine ⟨hG.os.trans h0.os, hG.tape.trans h0.tape, hG.output.trans h0.output, Nat.le_trans h0.size hG.size, fun i hi _ => ?_⟩
  refine (hG.block i (Nat.lt_of_lt_of_le hi h0.size) ?_).trans (h0.block i hi (by simp))
  obtain ⟨_, h1 | ⟨g, cap, cur, hv, hb', _⟩⟩ := h
  · rw [h1.1]; simp [Value.ownBlock]
  · rw [hv]; simp [Value.ownBlock]; omega

theorem wpList_append1 {ops : Array Oper} {rest : List Oper} {o1 o2 : Oper} {a : Act} {w : World} {Q : Exit → Act → World → Prop} (base : Nat) (ps : List (List UInt8)) (s : List UInt8) (v : Value) (hs : s.length = 32) (hown : SumsOwn w base v ps) (hbase : base ≤ w.heap.size) (hlen : ps.length < 1000000000)
    (g1 : o1.guard = none) (g2 : o2.guard = none) (x y : Operand) (d : Tmp) (ho1 : o1.op = .buildSlice 38 1 #[(0, x)]) (hd1 : o1.dst = some d) (ho2 : o2.op = .call { callee := .builtin .append, args := #[y, .tmp d], argTypes := #[38, 38] })
    (hx : a.eval x = .agg (s.map ub).toArray) (hy : (a.put (some d) (.slice (some ⟨w.heap.size, 0, none⟩) 1 1)).eval y = v) (hds : d < a.tmps.size)
    (h : ∀ v' w', SumsOwn w' base v' (ps ++ [s]) → (∀ w0 : World, w0.grownBy w none → w0.heap.size ≤ base → w0.grownBy w' none) → wpList Tryd.prog ops Q rest ((a.put (some d) (.slice (some ⟨w.heap.size, 0, none⟩) 1 1)).put o2.dst v') w') :
    wpList Tryd.prog ops Q (o1 :: o2 :: rest) a w := by
  obtain ⟨i0, z0, hi0, hz0, hz1, hz2, hz3⟩ := info25z
  refine wpList_plain g1 fun K hK => ?_
  refine wp_build1 38 25 x ho1 Tryd.underlying38 _ hx (s.map ub).toArray (built_one s hs) ?_
  rw [hd1]
  refine hK _ _ ?_
  have hG := gr_alloc w (Obj.cells (s.map ub).toArray 25)
  have hrb : (w.alloc (Obj.cells (s.map ub).toArray 25)).heap[w.heap.size]? = some (.cells (s.map ub).toArray 25 (0, 0)) := heap_alloc_new w _
  have hown1 := hown.gr hG
  refine wpList_append_own _ g2 _ _ 38 ho2 base 25 i0 z0 32 32 Tryd.underlying38 hi0 hz0 hz1 hz2 hz3 (by decide) v ps.length (ps.flatten.map ub) hy hown1.2.2 ⟨w.heap.size, 0, none⟩ 1 1 (s.map ub) ?_ (by simp [hs]) ?_ ?_ (by unfold maxLen; omega) (by omega) (by have := hG.size; omega) ?_
  · simp [Act.eval, Act.put, hds]
  · intro j u hj
    have e : (⟨w.heap.size, 0, none⟩ : Addr).add j = ⟨w.heap.size, j, none⟩ := by unfold Addr.add; split <;> simp_all
    rw [e, cell_of_row _ _ _ _ _ _ hrb]; simpa using hj
  · intro u hu; obtain ⟨x, _, rfl⟩ := List.mem_map.1 hu; rfl
  · intro v' w' hown' hG' _
    refine h v' w' ⟨fun x hx => ?_, fun h => absurd h (by simp), ?_⟩ (fun w0 h0 hb => gr_own hown1.2.2 hG' (gr_trans h0 hG) hb)
    · rcases List.mem_append.1 hx with h1 | h1
      · exact hown.1 x h1
      · rw [List.mem_singleton.1 h1]; exact hs
    · rw [List.flatten_append, List.map_append, List.length_append]
      simpa using hown'
end Go.Proofs.YtjgmmdgcknnlpaaDoor

/-
  rootsref's Path.
-/
namespace Go.Proofs.YtjgmmdgcknnlpaaDoor
open Go Go.RowKit

/-- Beside the way from leaf i to the root. -/
inductive PathIs : List (List UInt8) → Nat → List (List UInt8) → Prop
  | one (s : List UInt8) (i : Nat) : PathIs [s] i []
  | left (l : List (List UInt8)) (i : Nat) (p : List (List UInt8)) (r : List UInt8) : 2 ≤ l.length → i < spl l.length → PathIs (l.take (spl l.length)) i p → RootIs (l.drop (spl l.length)) r → PathIs l i (p ++ [r])
  | right (l : List (List UInt8)) (i : Nat) (p : List (List UInt8)) (r : List UInt8) : 2 ≤ l.length → ¬ i < spl l.length → PathIs (l.drop (spl l.length)) (i - spl l.length) p → RootIs (l.take (spl l.length)) r → PathIs l i (p ++ [r])

theorem PathIs.short {l : List (List UInt8)} {i : Nat} {p : List (List UInt8)} (h : PathIs l i p) : l.length < 9223372036854775808 → p.length < l.length := by
  induction h with
  | one => intro _; simp
  | left l i p r h2 hi _ _ ih =>
    intro hb
    obtain ⟨ha, hb', _, _⟩ := spl_spec l.length h2 hb
    have := spl_pos l.length
    have := ih (by rw [List.length_take]; omega)
    rw [List.length_take] at this
    simp; omega
  | right l i p r h2 hi _ _ ih =>
    intro hb
    obtain ⟨ha, hb', _, _⟩ := spl_spec l.length h2 hb
    have := spl_pos l.length
    have := ih (by rw [List.length_drop]; omega)
    rw [List.length_drop] at this
    simp; omega

set_option maxHeartbeats 4000000 in
set_option maxRecDepth 100000 in
theorem path_one (H : Nat) (s : List UInt8) (i : Int) (v : Value) (w : World) (hv : StrsIs w v [s]) :
    Calls Tryd.prog 23 #[.pointer (some ⟨H, 0, none⟩), v, .int .i64 i] w fun e w' => e = .returned (.slice none 0 0) ∧ w.grownBy w' none := by
  obtain ⟨sp, cap, rfl, _, _⟩ := hv
  go_enter Tryd.func23, Tryd.ntmps23
  go_wp2
  go_ret
  exact ⟨rfl, gr_refl _⟩

set_option maxHeartbeats 4000000 in
set_option maxRecDepth 100000 in
theorem path_any (H : Nat) (N : Nat) : ∀ (l : List (List UInt8)) (i : Nat) (v : Value) (w : World), l.length ≤ N → i < l.length → RefAt w H → H < w.heap.size → StrsIs w v l → (∀ s ∈ l, s.length < 999999999) → l.length < 1000000000 →
    Calls Tryd.prog 23 #[.pointer (some ⟨H, 0, none⟩), v, .int .i64 (i : Int)] w fun e w' => ∃ p v', PathIs l i p ∧ e = .returned v' ∧ SumsOwn w' w.heap.size v' p ∧ w.grownBy w' none := by
  induction N with
  | zero => intro l i v w h1 h2; omega
  | succ N ih =>
    intro l i v w hl hi hH hHs hv hs hb
    by_cases h1 : l.length = 1
    · obtain ⟨s, rfl⟩ := List.length_eq_one_iff.1 h1
      refine (path_one H s i v w hv).mono ?_
      rintro e w' ⟨rfl, hG⟩
      exact ⟨_, _, PathIs.one s i, rfl, ⟨by simp, fun _ => rfl, World.ownsRow_nil _ _ _ _⟩, hG⟩
    have hn2 : 2 ≤ l.length := by omega
    have hn63 : l.length < 9223372036854775808 := by omega
    obtain ⟨ha, hb', _, _⟩ := spl_spec l.length hn2 hn63
    have hk1 := spl_pos l.length
    have HH : Hid (RefAt w H) := hH
    have HIH : Hid _ := ih
    have HV : Hid (StrsIs w v l) := hv
    have HS : Hid _ := hs
    obtain ⟨sp, cap, rfl, hcap, hsp⟩ := hv
    obtain ⟨g, o, rfl, hg, _⟩ := hsp (by omega)
    clear hH ih hs hsp
    have d1 : ((l.length : Int) == 1) = false := by rw [beq_eq_false_iff_ne]; omega
    go_enter Tryd.func23, Tryd.ntmps23
    go_wp2_with fail
    refine (rsplit_any l.length w hn2 hn63).mono ?_
    rintro e w' ⟨rfl, hww⟩
    rw [hww]; clear hww w'
    have hS1 : (l.take (spl l.length)).length = spl l.length := by rw [List.length_take]; omega
    have hS2 : (l.drop (spl l.length)).length = l.length - spl l.length := by rw [List.length_drop]
    by_cases hik : i < spl l.length
    · have HP : Hid (∀ p r, PathIs (l.take (spl l.length)) i p → RootIs (l.drop (spl l.length)) r → PathIs l i (p ++ [r])) := fun p r => PathIs.left l i p r hn2 hik
      generalize hk : spl l.length = k at *
      generalize hn : l.length = n at *
      have d2 : decide ((i : Int) < (k : Int)) = true := by simp; omega
      have b0 : (0 : Int) ≤ (k : Int) := by omega
      have b1 : (k : Int) ≤ (n : Int) := by omega
      have b2 : (k : Int) ≤ (cap : Int) := by omega
      have b3 : (n : Int) ≤ (cap : Int) := by omega
      go_wp2_with fail
      have hv1 := HV.out.take k (by omega)
      refine (HIH.out (l.take k) i _ w (by omega) (by omega) HH.out hHs hv1 (fun s h => HS.out s (List.mem_of_mem_take h)) (by omega)).mono ?_
      rintro e w1 ⟨p, vp, hp, rfl, hown, hG1⟩
      have HPA : Hid _ := hp
      have HOWN : Hid (SumsOwn w1 w.heap.size vp p) := hown
      have hpl := hp.short (by omega)
      clear hp hown hv1 HIH
      go_wp2_with fail
      have hv2 := HV.out.drop k (by omega)
      refine (root_any H n (l.drop k) _ w1 (by omega) (RefAt.gr HH.out hHs hG1) (by have := hG1.size; omega) (hv2.gr hG1) (fun s h => HS.out s (List.mem_of_mem_drop h)) (by omega)).mono ?_
      rintro e w2 ⟨r, hr, hrl, rfl, hG2⟩
      have HR : Hid _ := hr
      have hG02 := gr_trans hG1 hG2
      have HOWN2 : Hid (SumsOwn w2 w.heap.size vp p) := HOWN.out.gr hG2
      obtain ⟨HI, HO, HN⟩ := sum25 r hrl
      clear hv2 hr hG1 hG2 HOWN HV HS HH
      generalize eR : (r.map ub).toArray = R at *
      go_wp2_with (first | (refine store_new rfl 25 _ _ rfl R _ _ rfl rfl HI.out HO.out HN.out ?_; intro W2 hW2 hs2 hG3) | refine wpList_load_row rfl 25 _ rfl w2.heap.size rfl 25 _ (0, 0) _ hW2 Tryd.underlying25 rfl HI.out ?_ | (refine wpList_append1 w.heap.size p r vp hrl (HOWN2.out.gr hG3) (by have := (gr_trans hG02 hG3).size; omega) (by omega) rfl rfl _ _ _ rfl rfl rfl (by rw [eR]; rfl) rfl (by simp [Act.put]) ?_; intro v' w' hown' hg'))
      go_ret
      exact ⟨_, _, HP.out p r HPA.out HR.out, rfl, hown', hg' w (gr_trans hG02 hG3) (Nat.le_refl _)⟩
    · have HP : Hid (∀ p r, PathIs (l.drop (spl l.length)) (i - spl l.length) p → RootIs (l.take (spl l.length)) r → PathIs l i (p ++ [r])) := fun p r => PathIs.right l i p r hn2 hik
      generalize hk : spl l.length = k at *
      generalize hn : l.length = n at *
      have d2 : decide ((i : Int) < (k : Int)) = false := by simp; omega
      have b0 : (0 : Int) ≤ (k : Int) := by omega
      have b1 : (k : Int) ≤ (n : Int) := by omega
      have b2 : (k : Int) ≤ (cap : Int) := by omega
      have b3 : (n : Int) ≤ (cap : Int) := by omega
      go_wp2_with fail
      have hv1 := HV.out.drop k (by omega)
      have hih := HIH.out (l.drop k) (i - k) _ w (by omega) (by omega) HH.out hHs hv1 (fun s h => HS.out s (List.mem_of_mem_drop h)) (by omega)
      rw [show ((i - k : Nat) : Int) = (i : Int) - (k : Int) by omega] at hih
      refine hih.mono ?_
      rintro e w1 ⟨p, vp, hp, rfl, hown, hG1⟩
      have HPA : Hid _ := hp
      have HOWN : Hid (SumsOwn w1 w.heap.size vp p) := hown
      have hpl := hp.short (by omega)
      clear hp hown hv1 HIH hih
      go_wp2_with fail
      have hv2 := HV.out.take k (by omega)
      refine (root_any H n (l.take k) _ w1 (by omega) (RefAt.gr HH.out hHs hG1) (by have := hG1.size; omega) (hv2.gr hG1) (fun s h => HS.out s (List.mem_of_mem_take h)) (by omega)).mono ?_
      rintro e w2 ⟨r, hr, hrl, rfl, hG2⟩
      have HR : Hid _ := hr
      have hG02 := gr_trans hG1 hG2
      have HOWN2 : Hid (SumsOwn w2 w.heap.size vp p) := HOWN.out.gr hG2
      obtain ⟨HI, HO, HN⟩ := sum25 r hrl
      clear hv2 hr hG1 hG2 HOWN HV HS HH
      generalize eR : (r.map ub).toArray = R at *
      go_wp2_with (first | (refine store_new rfl 25 _ _ rfl R _ _ rfl rfl HI.out HO.out HN.out ?_; intro W2 hW2 hs2 hG3) | refine wpList_load_row rfl 25 _ rfl w2.heap.size rfl 25 _ (0, 0) _ hW2 Tryd.underlying25 rfl HI.out ?_ | (refine wpList_append1 w.heap.size p r vp hrl (HOWN2.out.gr hG3) (by have := (gr_trans hG02 hG3).size; omega) (by omega) rfl rfl _ _ _ rfl rfl rfl (by rw [eR]; rfl) rfl (by simp [Act.put]) ?_; intro v' w' hown' hg'))
      go_ret
      exact ⟨_, _, HP.out p r HPA.out HR.out, rfl, hown', hg' w (gr_trans hG02 hG3) (Nat.le_refl _)⟩
end Go.Proofs.YtjgmmdgcknnlpaaDoor
