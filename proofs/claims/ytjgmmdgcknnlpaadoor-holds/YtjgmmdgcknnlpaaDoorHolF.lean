import Derived.Test.YtjgmmdgcknnlpaaDoorPlaceR
import Derived.Laws.Bits64b
import Derived.Test.YtjgmmdgcknnlpaaDoorHolE

/-
  places.place: the place of a key's hash.
-/
namespace Go.Proofs.YtjgmmdgcknnlpaaDoor
open Go Go.RowKit

theorem or_byte (p x : Nat) (hp : p < 72057594037927936) (hx : x < 256) : bits BinOp.or IntKind.u64 ((p : Int) * 256) (x : Int) = ((p * 256 + x : Nat) : Int) := by
  rw [show (p : Int) * 256 = ((p * 256 : Nat) : Int) by omega, bits_or_u64_nat _ _ (by omega) (by omega)]
  have := Nat.shiftLeft_add_eq_or_of_lt (i := 8) (b := x) (by simpa using hx) p
  rw [Nat.shiftLeft_eq, show (2 : Nat) ^ 8 = 256 from rfl] at this
  rw [← this]

set_option maxHeartbeats 2000000 in
set_option maxRecDepth 100000 in
theorem place_any (l : List UInt8) (hl : l.length = 32) (w : World) :
    Calls Tryd.prog 100 #[.agg (l.map ub).toArray] w fun e w' => e = .returned (.int .u64 (numL (l.take 8) : Int)) ∧ w.grownBy w' none := by
  have HL : Hid _ := hl
  generalize eL : (l.map ub).toArray = L at *
  clear hl
  go_enter Tryd.func100, Tryd.ntmps100
  go_wp2
  have hB : (w.alloc (Obj.cells L 25)).heap[w.heap.size]? = some (.cells L 25 (0, 0)) := heap_alloc_new _ _
  have hG := gr_alloc w (Obj.cells L 25)
  go_loopw [3, 8] (fun t i wr => ∃ k : Nat, k ≤ 8 ∧ i = .int .i64 (k : Int) ∧ t = .int .u64 (numL (l.take k) : Int) ∧ wr.heap[w.heap.size]? = some (.cells L 25 (0, 0)) ∧ w.grownBy wr none)
    (fun _ i _ => 8 - (intOf i).toNat)
  case atStart => exact ⟨0, by omega, rfl, rfl, hB, hG⟩
  case round =>
    clear hB hG
    obtain ⟨k, hk, rfl, rfl, hB, hG⟩ := hrel
    by_cases hlt : k < 8
    · have d0 : (k : Int) < 8 := by omega
      have hB' := hB
      rw [← eL] at hB'
      have c1 := byte_at hB' k (by rw [HL.out]; omega)
      have htk : numL (l.take (k + 1)) = numL (l.take k) * 256 + (l.getD k 0).toNat := by
        rw [take_snocB l k (by rw [HL.out]; omega), numL_snoc]
      have hnb : numL (l.take k) < 72057594037927936 := by
        have h1 := numL_lt (l.take k)
        have h2 : (l.take k).length ≤ 7 := by rw [List.length_take]; omega
        have h3 : 256 ^ (l.take k).length ≤ 256 ^ 7 := Nat.pow_le_pow_right (by omega) h2
        have h4 : (256 : Nat) ^ 7 = 72057594037927936 := by decide
        omega
      have hx1 : (l.getD k 0).toNat < 256 := (l.getD k 0).toNat_lt
      generalize l.getD k 0 = x at c1 hx1 htk
      generalize numL (l.take k) = p at hnb htk ⊢
      have HTK : Hid _ := htk
      have eO := or_byte p x.toNat hnb hx1
      clear htk hB'
      go_wp2
      exact ⟨⟨k + 1, by omega, by go_num, by rw [HTK.out]; go_num, hB, hG⟩, by simp [intOf]; omega⟩
    · obtain rfl : k = 8 := by omega
      have hge : decide (((8 : Nat) : Int) < 8) = false := by simp
      go_wp2
      go_ret
      exact ⟨rfl, hG⟩
end Go.Proofs.YtjgmmdgcknnlpaaDoor

/-
  Two hashes in a struct; tree.extend's small cases.
-/
namespace Go.Proofs.YtjgmmdgcknnlpaaDoor
open Go Go.RowKit

def pairC (f a : List UInt8) : Array Value := ((f ++ a).map ub).toArray

set_option maxRecDepth 100000 in
theorem built_pair (F A : List UInt8) (hF : F.length = 32) (hA : A.length = 32) : Tryd.prog.built 144 [(0, .agg (F.map ub).toArray), (1, .agg (A.map ub).toArray)] = some (pairC F A) := by
  match F, hF, A, hA with
  | [a0, a1, a2, a3, a4, a5, a6, a7, a8, a9, a10, a11, a12, a13, a14, a15, a16, a17, a18, a19, a20, a21, a22, a23, a24, a25, a26, a27, a28, a29, a30, a31], _, [b0, b1, b2, b3, b4, b5, b6, b7, b8, b9, b10, b11, b12, b13, b14, b15, b16, b17, b18, b19, b20, b21, b22, b23, b24, b25, b26, b27, b28, b29, b30, b31], _ =>
    show _ = _
    kernel_rfl
def z32 : List UInt8 := List.replicate 32 0
theorem built_zero : Tryd.prog.built 144 [] = some (pairC z32 z32) := by
  show _ = _
  kernel_rfl
theorem info126 : (Tryd.prog.info? 144).map (·.size) = some 64 := by kernel_rfl
theorem und126 : ∃ fs, Tryd.prog.underlying 144 = some (.struct fs) := ⟨_, Tryd.underlying144⟩
theorem sum126 (F A : List UInt8) (hF : F.length = 32) (hA : A.length = 32) : Hid ((Tryd.prog.info? 144).map (·.size) = some (pairC F A).size) ∧ Hid ((brow 64 []).toArray.size = (pairC F A).size) ∧ Hid ((pairC F A).all (·.oneCell') = true) := by
  have hl : (F ++ A).length = 64 := by simp [hF, hA]
  have hs : (pairC F A).size = 64 := by unfold pairC; simp [hF, hA]
  refine ⟨?_, ?_, ?_⟩
  · show _ = _
    rw [hs, info126]
  · show _ = _
    rw [hs, List.size_toArray, length_brow _ _ (by simp)]
  · show _ = _
    unfold pairC
    rw [← brow_full _ _ hl]; exact brow_one _ _

theorem wpList_pair {ops : Array Oper} {rest : List Oper} {o : Oper} {a : Act} {w : World} {Q : Exit → Act → World → Prop} (hg : o.guard = none) (x y : Operand) (ho : o.op = .build 144 #[(0, x), (1, y)]) (F A : Value) (hx : a.eval x = F) (hy : a.eval y = A) (P : Array Value) (hP : Tryd.prog.built 144 [(0, F), (1, A)] = some P)
    (h : wpList Tryd.prog ops Q rest (a.put o.dst (.agg P)) w) : wpList Tryd.prog ops Q (o :: rest) a w :=
  wpList_buildTo hg 144 _ ho _ rfl P (by simpa [hx, hy] using hP) h
theorem wpList_pair0 {ops : Array Oper} {rest : List Oper} {o : Oper} {a : Act} {w : World} {Q : Exit → Act → World → Prop} (hg : o.guard = none) (ho : o.op = .build 144 #[]) (P : Array Value) (hP : Tryd.prog.built 144 [] = some P)
    (h : wpList Tryd.prog ops Q rest (a.put o.dst (.agg P)) w) : wpList Tryd.prog ops Q (o :: rest) a w :=
  wpList_buildTo hg 144 _ ho _ rfl P (by simpa using hP) h
end Go.Proofs.YtjgmmdgcknnlpaaDoor

/-
  tree.extend's small cases.
-/
namespace Go.Proofs.YtjgmmdgcknnlpaaDoor
open Go Go.RowKit

/-- Where hashes (the last first) lead from the first m of n leaves: their root, and that of all. -/
def extR : List (List UInt8) → Nat → Nat → List UInt8 → Bool → Option (List UInt8 × List UInt8)
  | [], m, n, a, known => if m = n ∧ known = true then some (a, a) else none
  | s :: rest, m, n, a, known => if m = n then (if known = true then none else if rest = [] then some (s, s) else none) else
    if m ≤ spl n then (extR rest m (spl n) a known).map (fun p => (p.1, sha (nodeL 1 p.2 s))) else (extR rest (m - spl n) (n - spl n) a false).map fun p => (sha (nodeL 1 s p.1), sha (nodeL 1 s p.2))

set_option maxHeartbeats 4000000 in
set_option maxRecDepth 100000 in
theorem ext_known (rs : List (List UInt8)) (n : Nat) (a : List UInt8) (v : Value) (w : World) (hl : a.length = 32) (hv : SumsIs w v rs.reverse) (hr : rs.length < 1000000000) :
    Calls Tryd.prog 96 #[.int .i64 (n : Int), .int .i64 (n : Int), v, .agg (a.map ub).toArray, .bool true] w fun e w' => e = .returned (.tuple #[.agg (pairC a a), .bool rs.isEmpty]) ∧ w.grownBy w' none := by
  obtain ⟨HI, HO, HN⟩ := sum25 a hl
  obtain ⟨HI2, HO2, HN2⟩ := sum126 a a hl hl
  have HB2 : Hid _ := built_pair a a hl hl
  obtain ⟨_, sp, cap, rfl, _, _⟩ := hv
  clear hl
  rw [List.length_reverse]
  have hb : decide ((rs.length : Int) = 0) = rs.isEmpty := by cases rs <;> simp <;> omega
  have HB : Hid (decide ((rs.length : Int) = 0) = rs.isEmpty) := hb
  clear hb
  generalize eP : pairC a a = P at *
  generalize eR : (a.map ub).toArray = R at *
  go_enter Tryd.func96, Tryd.ntmps96
  go_wp2_with (first | refine wpList_load_row rfl 25 _ rfl w.heap.size rfl 25 _ (0, 0) _ (heap_alloc2_old _ _ _) Tryd.underlying25 rfl HI.out ?_ | refine wpList_pair rfl _ _ rfl _ _ rfl rfl P HB2.out ?_ | refine wpList_store_row rfl 144 _ _ rfl (w.heap.size + 1) P rfl rfl 144 _ (heap_alloc2_new _ _ _) HI2.out HO2.out HN2.out ?_)
  have hGF := gr_row (gr_trans (gr_alloc w (Obj.cells R 25)) (gr_alloc _ (Obj.cells (brow 64 []).toArray 144))) (w.heap.size + 1) P (by omega)
  refine bodyPost_ret (results_ct Tryd.results96 _ _ (w.heap.size + 1) 144 _ (0, 0) _ _ rfl rfl (setRow_heap _ _ _ _ 144 _ (heap_alloc2_new _ _ _)) Tryd.underlying144 rfl HI2.out) rfl ⟨?_, hGF⟩
  rw [← HB.out]
  rfl

set_option maxHeartbeats 4000000 in
set_option maxRecDepth 100000 in
theorem ext_nil (m n : Nat) (a : List UInt8) (known : Bool) (v : Value) (w : World) (hv : SumsIs w v []) (hmn : m ≠ n ∨ known = false) :
    Calls Tryd.prog 96 #[.int .i64 (m : Int), .int .i64 (n : Int), v, .agg (a.map ub).toArray, .bool known] w fun e w' => e = .returned (.tuple #[.agg (pairC z32 z32), .bool false]) ∧ w.grownBy w' none := by
  obtain ⟨HI, HO, HN⟩ := sum25 z32 rfl
  obtain ⟨HI2, HO2, HN2⟩ := sum126 z32 z32 rfl rfl
  have HB2 : Hid _ := built_zero
  have HV : Hid (SumsIs w v []) := hv
  obtain ⟨_, sp, cap, rfl, _, _⟩ := hv
  generalize eP : pairC z32 z32 = P at *
  generalize eR : (a.map ub).toArray = R at *
  have key : ∀ W : World, w.grownBy W none → W.heap[w.heap.size + 1]? = some (.cells (brow 64 []).toArray 144 (0, 0)) → Calls Tryd.prog 128 #[.slice sp ([] : List (List UInt8)).length cap] W fun e w1 => e = .returned (.tuple #[.slice none 0 0, .agg (z32.map ub).toArray, .bool false]) ∧ w.grownBy w1 none ∧ w1.heap[w.heap.size + 1]? = some (.cells (brow 64 []).toArray 144 (0, 0)) := fun W hA hB =>
    (take_none _ W (HV.out.gr hA)).mono (by
      rintro e w1 ⟨rfl, hG1⟩
      exact ⟨rfl, gr_trans hA hG1, (hG1.block _ (Array.getElem?_eq_some_iff.1 hB).1 (by simp)).trans hB⟩)
  have HKEY : Hid _ := key
  clear key HV
  have hA := gr_trans (gr_alloc w (Obj.cells R 25)) (gr_alloc _ (Obj.cells (brow 64 []).toArray 144))
  have hB : ((w.alloc (Obj.cells R 25)).alloc (Obj.cells (brow 64 []).toArray 144)).heap[w.heap.size + 1]? = some (.cells (brow 64 []).toArray 144 (0, 0)) := heap_alloc2_new _ _ _
  have HK2 := HKEY.out _ hA hB
  clear HKEY hA hB
  go_enter Tryd.func96, Tryd.ntmps96
  by_cases hm : m = n
  · subst hm
    obtain rfl : known = false := by simpa using hmn
    go_wp2_with fail
    refine HK2.mono ?_
    rintro e w1 ⟨rfl, hG1, hB1⟩
    clear HK2
    go_wp2_with (first | (refine store_new rfl 25 _ _ rfl (z32.map ub).toArray _ _ rfl rfl HI.out HO.out HN.out ?_; intro W2 hW2 hs2 hG2; have hB2 := (hG2.block _ (Array.getElem?_eq_some_iff.1 hB1).1 (by simp)).trans hB1) | refine wpList_pair0 rfl rfl P HB2.out ?_ | refine wpList_store_row rfl 144 _ _ rfl (w.heap.size + 1) P rfl rfl 144 _ hB2 HI2.out HO2.out HN2.out ?_)
    exact bodyPost_ret (results_ct Tryd.results96 _ _ (w.heap.size + 1) 144 _ (0, 0) _ _ rfl rfl (setRow_heap _ _ _ _ 144 _ hB2) Tryd.underlying144 rfl HI2.out) rfl ⟨rfl, gr_row (gr_trans hG1 hG2) _ _ (by omega)⟩
  · have d1 : ((m : Int) == (n : Int)) = false := by rw [beq_eq_false_iff_ne]; omega
    have d1' : (m == n) = false := by rw [beq_eq_false_iff_ne]; omega
    clear hmn hm
    go_wp2_with fail
    refine HK2.mono ?_
    rintro e w1 ⟨rfl, hG1, hB1⟩
    clear HK2
    go_wp2_with (first | (refine store_new rfl 25 _ _ rfl (z32.map ub).toArray _ _ rfl rfl HI.out HO.out HN.out ?_; intro W2 hW2 hs2 hG2; have hB2 := (hG2.block _ (Array.getElem?_eq_some_iff.1 hB1).1 (by simp)).trans hB1) | refine wpList_pair0 rfl rfl P HB2.out ?_ | refine wpList_store_row rfl 144 _ _ rfl (w.heap.size + 1) P rfl rfl 144 _ hB2 HI2.out HO2.out HN2.out ?_)
    exact bodyPost_ret (results_ct Tryd.results96 _ _ (w.heap.size + 1) 144 _ (0, 0) _ _ rfl rfl (setRow_heap _ _ _ _ 144 _ hB2) Tryd.underlying144 rfl HI2.out) rfl ⟨rfl, gr_row (gr_trans hG1 hG2) _ _ (by omega)⟩

set_option maxHeartbeats 4000000 in
set_option maxRecDepth 100000 in
theorem ext_last (s : List UInt8) (rest : List (List UInt8)) (n : Nat) (a : List UInt8) (v : Value) (w : World) (hv : SumsIs w v (rest.reverse ++ [s])) (hr : rest.length < 1000000000) :
    Calls Tryd.prog 96 #[.int .i64 (n : Int), .int .i64 (n : Int), v, .agg (a.map ub).toArray, .bool false] w fun e w' => e = .returned (.tuple #[.agg (pairC s s), .bool rest.isEmpty]) ∧ w.grownBy w' none := by
  have hs : s.length = 32 := hv.1 s (by simp)
  obtain ⟨HI, HO, HN⟩ := sum25 s hs
  obtain ⟨HI2, HO2, HN2⟩ := sum126 s s hs hs
  have HB2 : Hid _ := built_pair s s hs hs
  have HV : Hid (SumsIs w v (rest.reverse ++ [s])) := hv
  obtain ⟨_, sp, cap, rfl, _, _⟩ := hv
  simp only [List.length_append, List.length_reverse, List.length_singleton] at HV ⊢
  have hb : decide ((rest.length : Int) = 0) = rest.isEmpty := by cases rest <;> simp <;> omega
  have HB : Hid (decide ((rest.length : Int) = 0) = rest.isEmpty) := hb
  clear hb
  generalize eP : pairC s s = P at *
  generalize eR : (a.map ub).toArray = R at *
  go_enter Tryd.func96, Tryd.ntmps96
  go_wp2_with fail
  have hA := gr_trans (gr_alloc w (Obj.cells R 25)) (gr_alloc _ (Obj.cells (brow 64 []).toArray 144))
  have hB0 : ((w.alloc (Obj.cells R 25)).alloc (Obj.cells (brow 64 []).toArray 144)).heap[w.heap.size + 1]? = some (.cells (brow 64 []).toArray 144 (0, 0)) := heap_alloc2_new _ _ _
  refine (take_some rest.reverse s (.slice sp (rest.length + 1) cap) ((w.alloc (Obj.cells R 25)).alloc (Obj.cells (brow 64 []).toArray 144)) (HV.out.gr hA) (by rw [List.length_reverse]; omega)).mono ?_
  rintro e w1 ⟨v', rfl, hv', hG1⟩
  obtain ⟨_, sp', cap', rfl, _, _⟩ := hv'
  rw [List.length_reverse]
  have hG01 := gr_trans hA hG1
  have hB1 : w1.heap[w.heap.size + 1]? = some (.cells (brow 64 []).toArray 144 (0, 0)) := (hG1.block _ (by simp) (by simp)).trans hB0
  clear hA hB0 hG1 HV
  generalize eS : (s.map ub).toArray = S at *
  go_wp2_with (first | (refine store_new rfl 25 _ _ rfl S _ _ rfl rfl HI.out HO.out HN.out ?_; intro W2 hW2 hs2 hG2; have hB2 := (hG2.block _ (Array.getElem?_eq_some_iff.1 hB1).1 (by simp)).trans hB1) | refine wpList_load_row rfl 25 _ rfl w1.heap.size rfl 25 _ (0, 0) _ hW2 Tryd.underlying25 rfl HI.out ?_ | refine wpList_pair rfl _ _ rfl _ _ rfl rfl P HB2.out ?_ | refine wpList_store_row rfl 144 _ _ rfl (w.heap.size + 1) P rfl rfl 144 _ hB2 HI2.out HO2.out HN2.out ?_)
  refine bodyPost_ret (results_ct Tryd.results96 _ _ (w.heap.size + 1) 144 _ (0, 0) _ _ rfl rfl (setRow_heap _ _ _ _ 144 _ hB2) Tryd.underlying144 rfl HI2.out) rfl ⟨?_, gr_row (gr_trans hG01 hG2) _ _ (by omega)⟩
  rw [← HB.out]
  rfl
end Go.Proofs.YtjgmmdgcknnlpaaDoor
