/-
  rootskeep's hex.
-/
import Derived.Test.YtplhlhjakapaaaaDoorKNode
import Derived.StillTailTactics
namespace Go.Proofs.YtplhlhjakapaaaaDoor
open Go Go.RowKit

def hxD : List UInt8 := [48, 49, 50, 51, 52, 53, 54, 55, 56, 57, 97, 98, 99, 100, 101, 102]
def hx (n : Nat) : UInt8 := hxD.getD n 0
def hexL (l : List UInt8) : List UInt8 := l.flatMap fun b => [hx (b.toNat / 16), hx (b.toNat % 16)]

theorem still_cat {ops : Array Oper} {w : World} {Q : Act → Prop} {a : Act} {o : Oper} {rest : List Oper} (hw : Region.wanted o (yielded ops a.tmps) = true) (x y : Operand) (ho : o.op = .binOp .add 9 x y 9)
    (s t : List UInt8) (hx : a.eval x = .string (mkS s)) (hy : a.eval y = .string (mkS t)) (hs : s.length < 1000) (ht : t.length < 1000)
    (h : wpStill Tryd.prog ops w Q rest (a.put o.dst (.string (mkS (s ++ t))))) : wpStill Tryd.prog ops w Q (o :: rest) a := by
  unfold wpStill
  rw [if_pos hw]
  unfold Oper.still execOp
  have hsz := size_mkS
  have e : mkS s ++ mkS t = mkS (s ++ t) := by
    apply ByteArray.ext; simp [mkS]
  have hlt : ¬ (9223372036854775807 < s.length + t.length) := by omega
  simp only [ho, hx, hy]
  go_simp
  exact h

theorem band15 (n : Nat) (h : n < 256) : bits BinOp.and IntKind.u8 (n : Int) 15 = (n : Int) % 16 := by
  have : ∀ n : Nat, n < 256 → bits BinOp.and IntKind.u8 (n : Int) 15 = (n : Int) % 16 := by decide +kernel
  exact this n h

theorem dig_slice (n : Nat) (h : n < 16) : (⟨#[48, 49, 50, 51, 52, 53, 54, 55, 56, 57, 97, 98, 99, 100, 101, 102]⟩ : ByteArray).extract n (n + 1) = mkS [hx n] := by
  have : ∀ n, n < 16 → ((⟨#[48, 49, 50, 51, 52, 53, 54, 55, 56, 57, 97, 98, 99, 100, 101, 102]⟩ : ByteArray).extract n (n + 1)) = mkS [hx n] := by decide +kernel
  exact this n h

theorem still_dig {ops : Array Oper} {w : World} {Q : Act → Prop} {a : Act} {o : Oper} {rest : List Oper} (hw : Region.wanted o (yielded ops a.tmps) = true) (x lo hi : Operand) (ho : o.op = .slice 9 x (some lo) (some hi) none)
    (n : Nat) (hX : a.eval x = .string ⟨#[48, 49, 50, 51, 52, 53, 54, 55, 56, 57, 97, 98, 99, 100, 101, 102]⟩) (hlo : a.eval lo = .int .u8 (n : Int)) (hhi : a.eval hi = .int .u8 ((n : Int) + 1)) (hn : n < 16)
    (h : wpStill Tryd.prog ops w Q rest (a.put o.dst (.string (mkS [hx n])))) : wpStill Tryd.prog ops w Q (o :: rest) a := by
  unfold wpStill
  rw [if_pos hw]
  unfold Oper.still execOp
  have e := dig_slice n hn
  have b1 : (0 : Int) ≤ (n : Int) := by omega
  have b2 : (n : Int) ≤ (n : Int) + 1 := by omega
  have b3 : (n : Int) + 1 ≤ 16 := by omega
  have b4 : ((n : Int) + 1).toNat = n + 1 := by omega
  simp only [ho, hX, Option.map_some, hlo, hhi]
  go_simp
  exact h

set_option maxHeartbeats 4000000 in
set_option maxRecDepth 100000 in
theorem hex_any (l : List UInt8) (hl : l.length = 32) (w : World) :
    Calls Tryd.prog 45 #[.agg (l.map ub).toArray] w fun e w' => e = .returned (.string (mkS (hexL (l.take 4)))) ∧ w.grownBy w' none := by
  have HL : Hid _ := hl
  generalize eL : (l.map ub).toArray = L at *
  clear hl
  go_enter Tryd.func45, Tryd.ntmps45
  go_wp2
  have hB : (w.alloc (Obj.cells L 25)).heap[w.heap.size]? = some (.cells L 25 (0, 0)) := heap_alloc_new _ _
  have hG := gr_alloc w (Obj.cells L 25)
  go_loopw [4, 5] (fun t i wr => ∃ k : Nat, k ≤ 4 ∧ i = .int .i64 (k : Int) ∧ t = .string (mkS (hexL (l.take k))) ∧ wr.heap[w.heap.size]? = some (.cells L 25 (0, 0)) ∧ w.grownBy wr none)
    (fun _ i _ => 4 - (intOf i).toNat)
  case atStart => exact ⟨0, by omega, rfl, rfl, hB, hG⟩
  case round =>
    clear hB hG
    obtain ⟨k, hk, rfl, rfl, hB, hG⟩ := hrel
    by_cases hlt : k < 4
    · have d0 : (k : Int) < 4 := by omega
      have d32 : (k : Int) < 32 := by omega
      have hB' := hB
      rw [← eL] at hB'
      have c1 := byte_at hB' k (by rw [HL.out]; omega)
      have hx1 : (l.getD k 0).toNat < 256 := (l.getD k 0).toNat_lt
      have htk : hexL (l.take (k + 1)) = hexL (l.take k) ++ [hx ((l.getD k 0).toNat / 16), hx ((l.getD k 0).toNat % 16)] := by
        rw [take_snocB l k (by rw [HL.out]; omega)]; simp [hexL]
      have hkl : (hexL (l.take k)).length < 999 := by
        have : ∀ m : List UInt8, (hexL m).length = 2 * m.length := fun m => by induction m with | nil => rfl | cons y m ih => simp [hexL] at ih ⊢; omega
        rw [this, List.length_take]; omega
      have HTK : Hid _ := htk
      generalize l.getD k 0 = x at c1 hx1 HTK
      clear htk hB'
      have q2 : IntKind.u8.wrap ((x.toNat : Int) / 16 + 1) = (x.toNat : Int) / 16 + 1 := by simp [IntKind.wrap, IntKind.bits, IntKind.signed]; omega
      have q4 : bits BinOp.and IntKind.u8 (x.toNat : Int) 15 = (x.toNat : Int) % 16 := band15 x.toNat hx1
      have q5 : IntKind.u8.wrap ((x.toNat : Int) % 16 + 1) = (x.toNat : Int) % 16 + 1 := by simp [IntKind.wrap, IntKind.bits, IntKind.signed]; omega
      go_wp2
      refine wp_region_still_tail 25 (by kernel_rfl) (by decide +kernel) ?_
      simp only [List.take_succ_cons, List.take_zero, List.drop_succ_cons, List.drop_zero]
      iterate 11 still_step
      refine still_dig (by rfl) _ _ _ rfl (x.toNat / 16) rfl rfl rfl (by omega) ?_
      refine still_cat (by rfl) _ _ rfl (hexL (l.take k)) _ rfl rfl (Nat.lt_of_lt_of_le hkl (by decide)) (by simp) ?_
      iterate 10 still_step
      refine still_dig (by rfl) _ _ _ rfl (x.toNat % 16) rfl rfl rfl (by omega) ?_
      refine still_cat (by rfl) _ _ rfl (hexL (l.take k) ++ [hx (x.toNat / 16)]) _ rfl rfl (by rw [List.length_append]; exact Nat.lt_of_lt_of_le (Nat.add_lt_add_right hkl 1) (by decide)) (by simp) ?_
      refine wpStill_nil ?_
      have eT : hexL (l.take k) ++ [hx (x.toNat / 16)] ++ [hx (x.toNat % 16)] = hexL (l.take (k + 1)) := by rw [HTK.out]; simp
      rw [eT]
      have hB2 : wr.drew.heap[w.heap.size]? = some (.cells L 25 (0, 0)) := hB
      have hG2 : w.grownBy wr.drew none := gr_drew hG
      clear hB hG c1 HTK eT q2 q4 q5 hkl
      go_wp2
      exact ⟨⟨k + 1, by omega, by go_num, rfl, hB2, hG2⟩, by simp [intOf]; omega⟩
    · obtain rfl : k = 4 := by omega
      have hge : decide (((4 : Nat) : Int) < 4) = false := by simp
      go_wp2
      go_ret
      exact ⟨rfl, hG⟩
end Go.Proofs.YtplhlhjakapaaaaDoor
