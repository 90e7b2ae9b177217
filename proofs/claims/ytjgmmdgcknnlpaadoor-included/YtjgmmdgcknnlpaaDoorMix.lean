import Derived.Test.YtjgmmdgcknnlpaaDoorWords
namespace Go.Proofs.YtjgmmdgcknnlpaaDoor
open Go Go.RowKit

/-- The table lies where the program has it. -/
def Tab (w : World) : Prop := ∀ j, j < 64 → w.cell? ⟨1, j, none⟩ = some (uw (KS.getD j 0))

theorem hrow_word (s : Eight) (blk : List UInt8) (n : Int) (j : Nat) (hj : j < 8) : (hrow s blk n)[j]? = some (uw (s.list.getD j 0)) := by
  rw [hrow, List.getElem?_append_left (by simp [Eight.list]; omega), List.getElem?_map, List.getElem?_eq_getElem (by simp [Eight.list]; omega)]
  simp [Eight.list, hj]
theorem cell_word {w : World} {g : Nat} {t : TypeId} {s : Eight} {blk : List UInt8} {n : Int} (hg : w.heap[g]? = some (.cells (hrow s blk n).toArray t (0, 0))) (j : Nat) (hj : j < 8) :
    w.cell? ⟨g, j, none⟩ = some (uw (s.list.getD j 0)) := by
  rw [cell_of_row w g _ _ t _ hg, List.getElem?_toArray, hrow_word _ _ _ _ hj]

theorem cells8 {w : World} {g : Nat} {t : TypeId} {s : Eight} {blk : List UInt8} {n : Int} (hg : w.heap[g]? = some (.cells (hrow s blk n).toArray t (0, 0))) :
    w.cell? ⟨g, 0, none⟩ = some (uw s.a) ∧ w.cell? ⟨g, 1, none⟩ = some (uw s.b) ∧ w.cell? ⟨g, 2, none⟩ = some (uw s.c) ∧ w.cell? ⟨g, 3, none⟩ = some (uw s.d) ∧
    w.cell? ⟨g, 4, none⟩ = some (uw s.e) ∧ w.cell? ⟨g, 5, none⟩ = some (uw s.f) ∧ w.cell? ⟨g, 6, none⟩ = some (uw s.g) ∧ w.cell? ⟨g, 7, none⟩ = some (uw s.h) :=
  ⟨cell_word hg 0 (by decide), cell_word hg 1 (by decide), cell_word hg 2 (by decide), cell_word hg 3 (by decide), cell_word hg 4 (by decide), cell_word hg 5 (by decide), cell_word hg 6 (by decide), cell_word hg 7 (by decide)⟩
theorem not_bits (x : BitVec 32) : bits .xor .u32 4294967295 (x.toNat : Int) = ((~~~x).toNat : Int) := by
  have h : (4294967295 : Int) = ((BitVec.allOnes 32).toNat : Int) := by decide
  rw [h, bv_xor, BitVec.allOnes_xor]
def nt (x : BitVec 32) : BitVec 32 := ~~~x
theorem unary_not32 (x : BitVec 32) : Op.unary .xor (.int .u32 (x.toNat : Int)) = pure (.int .u32 ((nt x).toNat : Int)) := by
  rw [unary_xor, intBits_xor, nt, ← not_bits]
  rfl
theorem bg1_bits (x : BitVec 32) : bits BinOp.xor IntKind.u32 (bits BinOp.xor IntKind.u32 ((rr 6 x).toNat : Int) ((rr 11 x).toNat : Int)) ((rr 25 x).toNat : Int) = ((bg1 x).toNat : Int) := by
  rw [bv_xor, bv_xor, bg1]
theorem bg0_bits (x : BitVec 32) : bits BinOp.xor IntKind.u32 (bits BinOp.xor IntKind.u32 ((rr 2 x).toNat : Int) ((rr 13 x).toNat : Int)) ((rr 22 x).toNat : Int) = ((bg0 x).toNat : Int) := by
  rw [bv_xor, bv_xor, bg0]
theorem cho_bits (e f g : BitVec 32) : bits BinOp.xor IntKind.u32 (bits BinOp.and IntKind.u32 (e.toNat : Int) (f.toNat : Int)) (bits BinOp.and IntKind.u32 ((nt e).toNat : Int) (g.toNat : Int)) = ((cho e f g).toNat : Int) := by
  rw [bv_and, bv_and, bv_xor, cho, nt]
theorem mst_bits (a b c : BitVec 32) : bits BinOp.xor IntKind.u32 (bits BinOp.xor IntKind.u32 (bits BinOp.and IntKind.u32 (a.toNat : Int) (b.toNat : Int)) (bits BinOp.and IntKind.u32 (a.toNat : Int) (c.toNat : Int))) (bits BinOp.and IntKind.u32 (b.toNat : Int) (c.toNat : Int)) = ((mst a b c).toNat : Int) := by
  rw [bv_and, bv_and, bv_and, bv_xor, bv_xor, mst]
theorem step_a_bits (T : Eight) (k v : BitVec 32) : Value.int IntKind.u32 ((((T.h.toNat : Int) + (bg1 T.e).toNat + (cho T.e T.f T.g).toNat + k.toNat + v.toNat) % 4294967296 + ((bg0 T.a).toNat + (mst T.a T.b T.c).toNat : Int) % 4294967296) % 4294967296) = uw (T.step k v).a := by
  show Value.int _ _ = Value.int _ _
  congr 1
  simp only [Eight.step, Eight.one, Eight.two, BitVec.toNat_add]
  omega
theorem step_e_bits (T : Eight) (k v : BitVec 32) : Value.int IntKind.u32 (((T.d.toNat : Int) + ((T.h.toNat : Int) + (bg1 T.e).toNat + (cho T.e T.f T.g).toNat + k.toNat + v.toNat) % 4294967296) % 4294967296) = uw (T.step k v).e := by
  show Value.int _ _ = Value.int _ _
  congr 1
  simp only [Eight.step, Eight.one, BitVec.toNat_add]
  omega
/-- The words when the first k have been added up. -/
def plusTo (s T : Eight) (k : Nat) : List (BitVec 32) := (s.plus T).list.take k ++ s.list.drop k
def hrowL (l : List (BitVec 32)) (blk : List UInt8) (n : Int) : List Value := l.map uw ++ (blk.map ub ++ [.int .u64 n])
theorem plusTo_at (s T : Eight) (k : Nat) (hk : k < 8) (blk : List UInt8) (n : Int) : (hrowL (plusTo s T k) blk n)[k]? = some (uw (s.list.getD k 0)) := by
  match k, hk with
  | 0, _ | 1, _ | 2, _ | 3, _ | 4, _ | 5, _ | 6, _ | 7, _ => rfl
theorem plusTo_set (s T : Eight) (k : Nat) (hk : k < 8) (blk : List UInt8) (n : Int) : (hrowL (plusTo s T k) blk n).set k (uw (s.list.getD k 0 + T.list.getD k 0)) = hrowL (plusTo s T (k + 1)) blk n := by
  match k, hk with
  | 0, _ | 1, _ | 2, _ | 3, _ | 4, _ | 5, _ | 6, _ | 7, _ => rfl
theorem index8 (T : Eight) (k : Nat) (hk : k < 8) (W : World) :
    (Instr.index 119 (.agg #[uw T.a, uw T.b, uw T.c, uw T.d, uw T.e, uw T.f, uw T.g, uw T.h]) (.int .i64 (k : Int))).run Tryd.prog W = .ok (uw (T.list.getD k 0)) W := by
  obtain rfl | rfl | rfl | rfl | rfl | rfl | rfl | rfl : k = 0 ∨ k = 1 ∨ k = 2 ∨ k = 3 ∨ k = 4 ∨ k = 5 ∨ k = 6 ∨ k = 7 := by omega
  all_goals kernel_rfl
theorem row_plus {w : World} {g : Nat} {t : TypeId} {s T : Eight} {k : Nat} {blk : List UInt8} {n : Int} (hk : k < 8) (hg : w.heap[g]? = some (.cells (hrowL (plusTo s T k) blk n).toArray t (0, 0))) :
    (w.setCell ⟨g, k, none⟩ (uw (s.list.getD k 0 + T.list.getD k 0))).heap[g]? = some (.cells (hrowL (plusTo s T (k + 1)) blk n).toArray t (0, 0)) := by
  rw [heap_setCell_same _ _ _ _ _ _ hg, List.setIfInBounds_toArray, plusTo_set _ _ _ hk]
theorem sum2 (a b : BitVec 32) : ((a.toNat : Int) + b.toNat) % 4294967296 = ((a + b).toNat : Int) := by
  simp only [BitVec.toNat_add]; omega
theorem store_new {P : Program} {ops : Array Oper} {rest : List Oper} {o : Oper} {a : Act} {w : World} {Q : Exit → Act → World → Prop} (hgd : o.guard = none) (ty : TypeId) (x y : Operand) (ho : o.op = .store ty x y)
    (cells old : Array Value) (t : TypeId) (hx : a.eval x = .pointer (some ⟨w.heap.size, 0, none⟩)) (hy : a.eval y = .agg cells)
    (hi : (P.info? ty).map (·.size) = some cells.size) (hold : old.size = cells.size) (h1 : cells.all (·.oneCell') = true)
    (h : ∀ W, W.heap[w.heap.size]? = some (.cells cells t (0, 0)) → W.heap.size = w.heap.size + 1 → w.grownBy W none → wpList P ops Q rest (a.put o.dst undef) W) :
    wpList P ops Q (o :: rest) a (w.alloc (.cells old t)) := by
  refine wpList_store_row hgd ty x y ho w.heap.size cells hx hy t old (heap_alloc_new _ _) hi hold h1 (h _ ?_ ?_ ?_)
  · exact setRow_heap _ _ _ _ t _ (heap_alloc_new _ _)
  · simp
  · exact ⟨rfl, rfl, rfl, by simp, fun k hk _ => (setRow_other _ _ k _ (by omega)).trans (Below.heap_alloc _ _ _ hk)⟩

set_option maxHeartbeats 1600000 in
set_option maxRecDepth 100000 in
theorem mix_any (g : Nat) (t : TypeId) (s : Eight) (blk : List UInt8) (n : Int) (hblk : blk.length = 64) (w : World) (hg1 : 1 < g) (hT : Tab w)
    (hg : w.heap[g]? = some (.cells (hrow s blk n).toArray t (0, 0))) :
    Calls Tryd.prog 102 #[.pointer (some ⟨g, 0, none⟩)] w fun e w' => e = .returned (.tuple #[]) ∧ w'.heap[g]? = some (.cells (hrow (s.mix KS blk) blk n).toArray t (0, 0)) ∧ w.grownBy w' (some g) := by
  have hgs : g < w.heap.size := (Array.getElem?_eq_some_iff.1 hg).1
  have HT : Hid (Tab w) := hT
  clear hT
  go_enter Tryd.func102, Tryd.ntmps102
  go_wp2_with fail
  refine (words_any g t s blk n hblk w hg).mono ?_
  rintro e w1 ⟨rfl, hG1⟩
  have hl := length_allW blk
  have HW : Hid ((allW blk).length = 64) := hl
  generalize eW : allW blk = ws at hl HW ⊢
  have EW : Hid (allW blk = ws) := eW
  clear eW hl
  have hI : (Tryd.prog.info? 199).map (·.size) = some (ws.map uw).toArray.size := info166 _ (by simp [HW.out])
  have HI : Hid _ := hI
  have HO : ∀ A : Array Value, A.size = 64 → A.size = (ws.map uw).toArray.size := fun A h => by simp [HW.out, h]
  have HN : (ws.map uw).toArray.all (·.oneCell') = true := by
    rw [← wrow_full _ HW.out]; exact wrow_one _
  have HO' : Hid _ := HO
  have HN' : Hid _ := HN
  clear hI HO HN
  have hgw1 : w1.heap[g]? = some (.cells (hrow s blk n).toArray t (0, 0)) := (hG1.block g hgs (by simp)).trans hg
  have HG1 : Hid _ := hgw1
  have hgs1 : g < w1.heap.size := by have := hG1.size; omega
  clear hgw1
  go_wp2_with (first | (refine store_new rfl 199 _ _ rfl _ _ _ rfl rfl HI.out ?h2 HN'.out ?_; rotate_left; intro W2 hW2 hs2 hG2; have hgw2 := (hG2.block g hgs1 (by simp)).trans HG1.out; obtain ⟨c0, c1, c2, c3, c4, c5, c6, c7⟩ := cells8 hgw2))
  case h2 => exact HO'.out _ rfl
  clear c0 c1 c2 c3 c4 c5 c6 c7
  go_quiet (fail)
  have hG3 : w.grownBy (W2.alloc (Obj.cells #[uw s.a, uw s.b, uw s.c, uw s.d, uw s.e, uw s.f, uw s.g, uw s.h] 119)) none :=
    ⟨hG2.os.trans hG1.os, hG2.tape.trans hG1.tape, hG2.output.trans hG1.output, by have := hG1.size; simp; omega, fun k hk _ => by
      have := hG1.size
      rw [Below.heap_alloc _ _ _ (by omega), hG2.block k (by omega) (by simp), hG1.block k hk (by simp)]⟩
  have hgw3 : (W2.alloc (Obj.cells #[uw s.a, uw s.b, uw s.c, uw s.d, uw s.e, uw s.f, uw s.g, uw s.h] 119)).heap[g]? = some (.cells (hrow s blk n).toArray t (0, 0)) := (Below.heap_alloc _ _ _ (by omega)).trans hgw2
  have hW3 : (W2.alloc (Obj.cells #[uw s.a, uw s.b, uw s.c, uw s.d, uw s.e, uw s.f, uw s.g, uw s.h] 119)).heap[w1.heap.size]? = some (.cells (ws.map uw).toArray 199 (0, 0)) := (Below.heap_alloc _ _ _ (by omega)).trans hW2
  have hT3 : Hid (Tab (W2.alloc (Obj.cells #[uw s.a, uw s.b, uw s.c, uw s.d, uw s.e, uw s.f, uw s.g, uw s.h] 119))) := fun j hj =>
    (World.cell?_of_block (w := w) (hG3.block 1 (by omega) (by simp))).trans (HT.out j hj)
  clear hgw2 hW2 hG2
  generalize W2.alloc (Obj.cells #[uw s.a, uw s.b, uw s.c, uw s.d, uw s.e, uw s.f, uw s.g, uw s.h] 119) = W3 at hG3 hgw3 hW3 hT3 ⊢
  go_wp2
  go_loopw [4, 5, 6, 7, 8, 9, 10, 11, 42] (fun a b c d e f g h i wr => ∃ k : Nat, k ≤ 64 ∧ i = .int .i64 k ∧ (∃ q, wr = W3.drewN q) ∧
      ∃ T : Eight, Hid (s.steps KS ws k = T) ∧ a = uw T.a ∧ b = uw T.b ∧ c = uw T.c ∧ d = uw T.d ∧ e = uw T.e ∧ f = uw T.f ∧ g = uw T.g ∧ h = uw T.h)
    (fun _ _ _ _ _ _ _ _ i _ => 64 - (intOf i).toNat)
  case atStart => exact ⟨0, by omega, rfl, ⟨_, rfl⟩, s, rfl, rfl, rfl, rfl, rfl, rfl, rfl, rfl, rfl⟩
  case round =>
    obtain ⟨k, hk, rfl, ⟨q, rfl⟩, T, HTk, rfl, rfl, rfl, rfl, rfl, rfl, rfl, rfl⟩ := hrel
    by_cases hlt : k < 64
    · obtain ⟨ta, tb, tc, td, te, tf, tg, th⟩ := T
      have cT : W3.cell? ⟨1, k, none⟩ = some (uw (KS.getD k 0)) := hT3.out k hlt
      have cW : W3.cell? ⟨w1.heap.size, k, none⟩ = some (uw (ws.getD k 0)) := by
        rw [cell_of_row W3 _ _ _ _ _ hW3, List.getElem?_toArray, List.getElem?_map, List.getElem?_eq_getElem (by rw [HW.out]; omega)]
        have := HW.out
        simp [this, hlt]
      generalize eK : KS.getD k 0 = kk at cT
      generalize eV : ws.getD k 0 = vv at cW
      have EK : Hid (KS.getD k 0 = kk) := eK
      have EV : Hid (ws.getD k 0 = vv) := eV
      clear eK eV
      have d0 : (k : Int) < 64 := by omega
      have hnot := unary_not32 te
      have hb1 := bg1_bits te
      have hch := cho_bits te tf tg
      have hb0 := bg0_bits ta
      have hmst := mst_bits ta tb tc
      go_wp2_with fail
      refine (rot6 te _).mono ?_
      rintro e w' ⟨rfl, rfl⟩
      go_wp2_with fail
      refine (rot11 te _).mono ?_
      rintro e w' ⟨rfl, rfl⟩
      go_wp2_with fail
      refine (rot25 te _).mono ?_
      rintro e w' ⟨rfl, rfl⟩
      go_wp2_with fail
      go_quiet (fail)
      go_wp2_with fail
      refine (rot2 ta _).mono ?_
      rintro e w' ⟨rfl, rfl⟩
      go_wp2_with fail
      refine (rot13 ta _).mono ?_
      rintro e w' ⟨rfl, rfl⟩
      go_wp2_with fail
      refine (rot22 ta _).mono ?_
      rintro e w' ⟨rfl, rfl⟩
      go_wp2_with fail
      refine ⟨⟨k + 1, by omega, by go_num, ⟨_, rfl⟩, (Eight.mk ta tb tc td te tf tg th).step kk vv, ?_, step_a_bits ⟨ta, tb, tc, td, te, tf, tg, th⟩ kk vv, rfl, rfl, rfl, step_e_bits ⟨ta, tb, tc, td, te, tf, tg, th⟩ kk vv, rfl, rfl, rfl⟩, by simp [intOf]; omega⟩
      show s.steps KS ws (k + 1) = _
      rw [Eight.steps, HTk.out, EK.out, EV.out]
    · have hk64 : k = 64 := by omega
      rw [hk64] at HTk
      clear hk64
      have hge : decide ((k : Int) < 64) = false := by simp; omega
      clear hlt hk
      go_wp2
      go_loopw [118] (fun i wr => ∃ k : Nat, k ≤ 8 ∧ i = .int .i64 k ∧ wr.heap[g]? = some (.cells (hrowL (plusTo s T k) blk n).toArray t (0, 0)) ∧ w.grownBy wr (some g))
        (fun i _ => 8 - (intOf i).toNat)
      case atStart => exact ⟨0, by omega, rfl, hgw3, ⟨hG3.os, hG3.tape, hG3.output, hG3.size, fun j hj _ => hG3.block j hj (by simp)⟩⟩
      case round =>
        clear hgw3 hW3 hT3 hG3 hge
        obtain ⟨k, hk, rfl, hrow, hGr⟩ := hrel
        by_cases hlt : k < 8
        · have hix := index8 T k hlt
          have cg : wr.cell? ⟨g, k, none⟩ = some (uw (s.list.getD k 0)) := by rw [cell_of_row wr _ _ _ _ _ hrow, List.getElem?_toArray, plusTo_at _ _ _ hlt]
          have fg : wr.frozen? ⟨g, k, none⟩ = false := frozen_of_row wr _ _ _ _ hrow
          have hS := row_plus (w := wr) hlt hrow
          have HS : Hid _ := hS
          clear hS
          generalize eS : s.list.getD k 0 = sk at cg HS
          generalize eT : T.list.getD k 0 = tk at hix HS
          clear eS eT
          have d0 : (k : Int) < 8 := by omega
          go_wp2_with fail
          go_region
          rw [sum2]
          go_wp2
          go_roundw
          case rel => exact ⟨k + 1, by omega, by go_num, HS.out, ⟨hGr.os, hGr.tape, hGr.output, by simpa using hGr.size, fun j hj hne => (heap_setCell_other _ _ _ _ (by simpa using hne)).trans (hGr.block j hj hne)⟩⟩
          case measure => simp [intOf]; omega
        · have hk8 : k = 8 := by omega
          rw [hk8] at hrow
          clear hk8
          have hge : decide ((k : Int) < 8) = false := by simp; omega
          clear hlt hk
          go_wp2
          go_end0
          refine ⟨rfl, ?_, hGr⟩
          have hM : s.mix KS blk = s.plus T := by rw [Eight.mix, EW.out, HTk.out]
          rw [hM]
          exact hrow
end Go.Proofs.YtjgmmdgcknnlpaaDoor
