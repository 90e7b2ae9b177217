/-
  rootslaw.Holds: a proof and a root in memory; pieces of the law's text.
-/
import Derived.Test.YtplhlhjakapaaaaDoorSizeB
import Derived.Test.YtplhlhjakapaaaaDoorProve
import Derived.Test.YtplhlhjakapaaaaDoorBent2
import Derived.Test.YtplhlhjakapaaaaDoorPHolds
import Derived.Test.YtplhlhjakapaaaaDoorTakenR
import Derived.Deep.DeepCutAuto
namespace Go.Proofs.YtplhlhjakapaaaaDoor
open Go Go.RowKit

/-- A proof at B and a hash at R. -/
def PrfRoot (w1 V : World) (B R : Nat) : Prop := ∃ (mask : Nat) (qs : List (List UInt8)) (path : Value) (taken : Bool) (pk pv r : List UInt8), mask < 18446744073709551616 ∧ r.length = 32 ∧ PrfAt V B mask path taken pk pv ∧ V.heap[R]? = some (.cells (r.map ub).toArray 25 (0, 0)) ∧ SumsFar V (R + 1) path qs ∧ qs.length < 1000 ∧ w1.grownBy V none

theorem far_B {V V' : World} {B R : Nat} {path : Value} {qs : List (List UInt8)} {rc : Obj} (hBR : B < R) (hs : V'.heap.size = V.heap.size) (hoth : ∀ j, j ≠ B → V'.heap[j]? = V.heap[j]?) (hR : V.heap[R]? = some rc) (hF : SumsFar V (R + 1) path qs) :
    V'.heap[R]? = some rc ∧ SumsFar V' (R + 1) path qs :=
  ⟨(hoth R (by omega)).trans hR, hF.put (by omega : B < R + 1) (by omega) (fun j hj _ => hoth j hj)⟩
theorem byte_of {V : World} {B mask : Nat} {path : Value} {taken : Bool} {pk pv : List UInt8} (h : PrfAt V B mask path taken pk pv) (j : Nat) (hj : j < 32) : ∃ y, V.cell? ⟨B, 3 + j, none⟩ = some (ub y) :=
  ⟨pk[j]'(by rw [h.1]; exact hj), h.rangeK j _ (by rw [List.getElem?_map, List.getElem?_eq_getElem (by rw [h.1]; exact hj)]; rfl)⟩
theorem root_byte {w1 V : World} {B R mask : Nat} {qs : List (List UInt8)} {path : Value} {taken : Bool} {pk pv r : List UInt8} (hm : mask < 18446744073709551616) (hrl : r.length = 32) (hP : PrfAt V B mask path taken pk pv) (hR : V.heap[R]? = some (.cells (r.map ub).toArray 25 (0, 0))) (hF : SumsFar V (R + 1) path qs) (hql : qs.length < 1000) (hG : w1.grownBy V none) (hB1 : w1.heap.size ≤ B) (hB4 : B < R) (j : Nat) (hj : j < 32) (y : UInt8) : PrfRoot w1 (V.setCell ⟨B, 3 + j, none⟩ (ub y)) B R := by
  have hoth : ∀ i, i ≠ B → (V.setCell ⟨B, 3 + j, none⟩ (ub y)).heap[i]? = V.heap[i]? := fun i hi => heap_setCell_other _ _ _ _ (by simpa using hi)
  obtain ⟨q1, q2⟩ := far_B hB4 (by simp) hoth hR hF
  exact ⟨mask, qs, path, taken, _, pv, r, hm, hrl, hP.byte j hj y, q1, q2, hql, gr_at hG hB1 (3 + j) (ub y)⟩

/-- The piece of a text that opens with region n. -/
def fromRegion (n : Nat) : Code → Option Code
  | .seq (.region m o d) b => if m = n then some (.seq (.region m o d) b) else fromRegion n b
  | .seq a b => match fromRegion n a with
    | some c => some c
    | none => fromRegion n b
  | .block _ c => fromRegion n c
  | .scope c => fromRegion n c
  | .loop c => fromRegion n c
  | .cond _ a b => match fromRegion n a with
    | some c => some c
    | none => fromRegion n b
  | _ => none
noncomputable def code35 : Code := (Tryd.f13.body.bind (fromRegion 35)).getD .skip
noncomputable def code21 : Code := (Tryd.f13.body.bind (fromRegion 21)).getD .skip
end Go.Proofs.YtplhlhjakapaaaaDoor

/-
  rootslaw.Holds: the end of the law: both sides are asked twice.
-/
namespace Go.Proofs.YtplhlhjakapaaaaDoor
open Go Go.RowKit

set_option maxHeartbeats 8000000 in
set_option maxRecDepth 1000000 in
theorem holds_tail (key other value : List UInt8) (present : Bool) (how k b : Int) (w w1 wc : World) (H B R : Nat) (hw : 1 < w.heap.size) (HT : Hid (Tab w)) (hG1 : w.grownBy w1 none) (HR : Hid (RefAt w1 H)) (HE : Hid (EmptyAt w1 H)) (hH : H < w1.heap.size) (hk4 : key.length ≤ 16384) (ho4 : other.length ≤ 16384) (hv4 : value.length ≤ 16384) (hcut : PrfRoot w1 wc B R)
    (c0 c8 c9 c10 c11 c12 c13 c14 c15 c16 c17 c19 c20 c23 c24 c25 c26 c27 c28 c29 c30 c31 c32 c33 c34 c35 c36 c37 c38 c39 c40 c41 c42 c43 c44 c45 c46 c47 c48 c49 c50 c51 c52 c53 c54 c55 c56 c57 c58 c59 c60 c61 c62 c63 c64 c65 c66 c67 c68 c69 c70 c71 c72 c73 c74 c75 c76 c77 c78 c79 c80 c81 c82 c83 c84 c85 c86 c87 c88 c89 c90 c91 c92 c93 c94 c95 c96 c97 c98 c99 c100 c101 c102 c103 c104 c105 c106 c107 c108 c109 c110 c111 c112 c113 c114 c115 c116 c117 c118 c119 c120 c121 c122 c123 c124 c125 c126 c127 c128 c129 c130 c131 c132 c133 c134 c135 c136 c137 c138 c139 c140 c141 c142 c143 c144 c145 c146 c147 c148 c149 c150 c151 c152 c153 c154 c155 c156 c157 c158 c159 c160 c161 c162 c163 c164 c165 c166 c167 c168 c169 c170 c171 c172 c173 c174 c175 c176 c177 c178 c179 c180 c181 c182 c183 c184 c185 : Value) : Code.wp Tryd.prog code35 (bodyPost Tryd.prog Tryd.f13 fun e w' => e = .returned (.bool true) ∧ w.grownBy w' none) ⟨#[c0, .string (mkS key), .string (mkS other), .bool present, .string (mkS value), .int .i64 how, .int .i64 k, .int .i64 b, c8, c9, c10, c11, c12, c13, c14, c15, c16, c17, .pointer (some ⟨H, 0, none⟩), c19, c20, .pointer (some ⟨B, 0, none⟩), .pointer (some ⟨R, 0, none⟩), c23, c24, c25, c26, c27, c28, c29, c30, c31, c32, c33, c34, c35, c36, c37, c38, c39, c40, c41, c42, c43, c44, c45, c46, c47, c48, c49, c50, c51, c52, c53, c54, c55, c56, c57, c58, c59, c60, c61, c62, c63, c64, c65, c66, c67, c68, c69, c70, c71, c72, c73, c74, c75, c76, c77, c78, c79, c80, c81, c82, c83, c84, c85, c86, c87, c88, c89, c90, c91, c92, c93, c94, c95, c96, c97, c98, c99, c100, c101, c102, c103, c104, c105, c106, c107, c108, c109, c110, c111, c112, c113, c114, c115, c116, c117, c118, c119, c120, c121, c122, c123, c124, c125, c126, c127, c128, c129, c130, c131, c132, c133, c134, c135, c136, c137, c138, c139, c140, c141, c142, c143, c144, c145, c146, c147, c148, c149, c150, c151, c152, c153, c154, c155, c156, c157, c158, c159, c160, c161, c162, c163, c164, c165, c166, c167, c168, c169, c170, c171, c172, c173, c174, c175, c176, c177, c178, c179, c180, c181, c182, c183, c184, c185], []⟩ wc := by
  conv => arg 2; whnf
  have hsz := size_mkS
  obtain ⟨mask, qs, path, taken, pk, pv, r, hm, hrl, hP, hRr, hF, hql, hG⟩ := hcut
  have hG0 := gr_trans hG1 hG
  have HWT : Hid (∀ V : World, wc.grownBy V none → 1 < V.heap.size ∧ Tab V ∧ RefAt V H ∧ EmptyAt V H ∧ H < V.heap.size ∧ SumsIs V path qs) := fun V hV => by
    have h1 := gr_trans hG0 hV
    have h2 := gr_trans hG hV
    exact ⟨by have := h1.size; omega, HT.out.gr h1 hw, RefAt.gr HR.out hH h2, HE.out.gr h2, by have := h2.size; omega, hF.is.gr hV⟩
  have HA : Hid (∀ (kk : List UInt8) (V : World) (kv vv : Value), kk.length ≤ 16384 → wc.grownBy V none → SliceIs V kv kk → SliceIs V vv value → Calls Tryd.prog 53 #[kv, .bool present, vv, .agg (proofC mask path taken pk pv).toArray, .agg (r.map ub).toArray] V
      fun e w' => e = .returned (.bool (holdsB kk value present mask qs taken pk pv r)) ∧ V.grownBy w' none) := fun kk V kv vv hkk hV h1 h2 => by
    obtain ⟨a1, a2, _, _, _, a6⟩ := HWT.out V hV
    exact choldsA kk value kv vv present mask qs path taken pk pv r V a1 a2 h1 h2 (by omega) (by omega) hm hP.1 hP.2.1 hrl a6 (by omega)
  have HB : Hid (∀ (kk : List UInt8) (V : World), kk.length ≤ 16384 → wc.grownBy V none → Calls Tryd.prog 54 #[.pointer (some ⟨H, 0, none⟩), .string (mkS kk), .bool present, .string (mkS value), .agg (proofC mask path taken pk pv).toArray, .agg (r.map ub).toArray] V
      fun e w' => e = .returned (.bool (holdsB kk value present mask qs taken pk pv r)) ∧ V.grownBy w' none) := fun kk V hkk hV => by
    obtain ⟨_, _, a3, a4, a5, a6⟩ := HWT.out V hV
    exact rholds_any H kk value present mask qs path taken pk pv r V a3 a4 a5 (by omega) (by omega) hm hP.1 hP.2.1 hrl a6 (by omega)
  have HPR : Hid (∀ V : World, wc.grownBy V none → V.heap[B]? = some (.cells (proofC mask path taken pk pv).toArray 76 (0, 0)) ∧ V.heap[R]? = some (.cells (r.map ub).toArray 25 (0, 0))) := fun V hV =>
    ⟨(hP.gr hV).2.2, (hV.block R (Array.getElem?_eq_some_iff.1 hRr).1 (by simp)).trans hRr⟩
  have HI76 : Hid _ := info76p (mask := mask) (path := path) (taken := taken) hP.1 hP.2.1
  obtain ⟨HI25, _, _⟩ := sum25 r hrl
  have HA1 : Hid (∀ (V : World) (kv vv : Value), wc.grownBy V none → SliceIs V kv key → SliceIs V vv value → Calls Tryd.prog 53 #[kv, .bool present, vv, .agg (proofC mask path taken pk pv).toArray, .agg (r.map ub).toArray] V
      fun e w' => e = .returned (.bool (holdsB key value present mask qs taken pk pv r)) ∧ V.grownBy w' none) := fun V kv vv => HA.out key V kv vv hk4
  have HA2 : Hid (∀ (V : World) (kv vv : Value), wc.grownBy V none → SliceIs V kv other → SliceIs V vv value → Calls Tryd.prog 53 #[kv, .bool present, vv, .agg (proofC mask path taken pk pv).toArray, .agg (r.map ub).toArray] V
      fun e w' => e = .returned (.bool (holdsB other value present mask qs taken pk pv r)) ∧ V.grownBy w' none) := fun V kv vv => HA.out other V kv vv ho4
  have HB1 : Hid (∀ V : World, wc.grownBy V none → Calls Tryd.prog 54 #[.pointer (some ⟨H, 0, none⟩), .string (mkS key), .bool present, .string (mkS value), .agg (proofC mask path taken pk pv).toArray, .agg (r.map ub).toArray] V
      fun e w' => e = .returned (.bool (holdsB key value present mask qs taken pk pv r)) ∧ V.grownBy w' none) := fun V => HB.out key V hk4
  have HB2 : Hid (∀ V : World, wc.grownBy V none → Calls Tryd.prog 54 #[.pointer (some ⟨H, 0, none⟩), .string (mkS other), .bool present, .string (mkS value), .agg (proofC mask path taken pk pv).toArray, .agg (r.map ub).toArray] V
      fun e w' => e = .returned (.bool (holdsB other value present mask qs taken pk pv r)) ∧ V.grownBy w' none) := fun V => HB.out other V ho4
  clear HA HB HWT hm hP hRr hF hG hrl hql
  generalize holdsB key value present mask qs taken pk pv r = a1 at HA1 HB1
  generalize holdsB other value present mask qs taken pk pv r = a2 at HA2 HB2
  generalize (proofC mask path taken pk pv).toArray = C at HPR HI76 HA1 HA2 HB1 HB2
  generalize (r.map ub).toArray = RR at HPR HI25 HA1 HA2 HB1 HB2
  obtain ⟨ck, V1, hcv1, hGV1, hS1⟩ := conv_slice wc key
  obtain ⟨cv, V2, hcv2, hGV2, hS2⟩ := conv_slice V1 value
  have hG2 := gr_trans hGV1 hGV2
  obtain ⟨hP2, hR2⟩ := HPR.out V2 hG2
  have HS1 : Hid _ := hS1.gr hGV2
  have HS2 : Hid _ := hS2
  clear hS1 hS2 hGV1 hGV2
  go_wp2_with (first | (refine wpList_load_row rfl 76 _ rfl B rfl 76 _ (0, 0) _ hP2 Tryd.underlying76 rfl HI76.out ?_) | (refine wpList_load_row rfl 25 _ rfl R rfl 25 _ (0, 0) _ hR2 Tryd.underlying25 rfl HI25.out ?_))
  refine (HA1.out V2 _ _ hG2 HS1.out HS2.out).mono ?_
  rintro e w3 ⟨rfl, hG3⟩
  have hGw3 := gr_trans hG2 hG3
  clear hcv1 hcv2 hP2 hR2 HS1 HS2 HA1 hG3 hG2
  obtain ⟨hP3, hR3⟩ := HPR.out w3 hGw3
  go_wp2_with (first | (refine wpList_load_row rfl 76 _ rfl B rfl 76 _ (0, 0) _ hP3 Tryd.underlying76 rfl HI76.out ?_) | (refine wpList_load_row rfl 25 _ rfl R rfl 25 _ (0, 0) _ hR3 Tryd.underlying25 rfl HI25.out ?_))
  refine (HB1.out w3 hGw3).mono ?_
  rintro e w4 ⟨rfl, hG4⟩
  have hGw4 := gr_trans hGw3 hG4
  clear hP3 hR3 HB1 hG4 hGw3
  obtain ⟨co, V5, hcv5, hGV5, hS5⟩ := conv_slice w4 other
  obtain ⟨cw, V6, hcv6, hGV6, hS6⟩ := conv_slice V5 value
  have hG6 := gr_trans hGw4 (gr_trans hGV5 hGV6)
  obtain ⟨hP6, hR6⟩ := HPR.out V6 hG6
  have HS5 : Hid _ := hS5.gr hGV6
  have HS6 : Hid _ := hS6
  clear hS5 hS6 hGV5 hGV6
  go_wp2_with (first | (refine wpList_load_row rfl 76 _ rfl B rfl 76 _ (0, 0) _ hP6 Tryd.underlying76 rfl HI76.out ?_) | (refine wpList_load_row rfl 25 _ rfl R rfl 25 _ (0, 0) _ hR6 Tryd.underlying25 rfl HI25.out ?_))
  refine (HA2.out V6 _ _ hG6 HS5.out HS6.out).mono ?_
  rintro e w7 ⟨rfl, hG7⟩
  have hGw7 := gr_trans hG6 hG7
  clear hcv5 hcv6 hP6 hR6 HS5 HS6 HA2 hG7 hG6 hGw4
  obtain ⟨hP7, hR7⟩ := HPR.out w7 hGw7
  go_wp2_with (first | (refine wpList_load_row rfl 76 _ rfl B rfl 76 _ (0, 0) _ hP7 Tryd.underlying76 rfl HI76.out ?_) | (refine wpList_load_row rfl 25 _ rfl R rfl 25 _ (0, 0) _ hR7 Tryd.underlying25 rfl HI25.out ?_))
  refine (HB2.out w7 hGw7).mono ?_
  rintro e w8 ⟨rfl, hG8⟩
  have hGw8 := gr_trans hG0 (gr_trans hGw7 hG8)
  clear hP7 hR7 HB2 HPR hG8 hGw7
  go_wp2
  go_ret
  exact ⟨rfl, hGw8⟩
end Go.Proofs.YtplhlhjakapaaaaDoor

/-
  rootslaw.Holds: another key has the place, as the bent proof says.
-/
namespace Go.Proofs.YtplhlhjakapaaaaDoor
open Go Go.RowKit

set_option maxHeartbeats 8000000 in
set_option maxRecDepth 1000000 in
theorem holds_taken (key other value : List UInt8) (present : Bool) (how k b : Int) (w1 V0 : World) (H B R : Nat) (HR : Hid (RefAt w1 H)) (HE : Hid (EmptyAt w1 H)) (hH : H < w1.heap.size) (hk4 : key.length ≤ 16384) (hv4 : value.length ≤ 16384) (HK : Hid (In64 how ∧ In64 k ∧ In64 b)) (hB1 : w1.heap.size ≤ B) (hB4 : B < R) (HC : Hid (PrfRoot w1 V0 B R))
    (c0 c8 c9 c10 c11 c12 c13 c14 c15 c16 c17 c19 c20 c23 c24 c25 c26 c27 c28 c29 c30 c31 c32 c33 c34 c35 c36 c37 c38 c39 c40 c41 c42 c43 c44 c45 c46 c47 c48 c49 c50 c51 c52 c53 c54 c55 c56 c57 c58 c59 c60 c61 c62 c63 c64 c65 c66 c67 c68 c69 c70 c71 c72 c73 c74 c75 c76 c77 c78 c79 c80 c81 c82 c83 c84 c85 c86 c87 c88 c89 c90 c91 c92 c93 c94 c95 c96 c97 c98 c99 c100 c101 c102 c103 c104 c105 c106 c107 c108 c109 c110 c111 c112 c113 c114 c115 c116 c117 c118 c119 c120 c121 c122 c123 c124 c125 c126 c127 c128 c129 c130 c131 c132 c133 c134 c135 c136 c137 c138 c139 c140 c141 c142 c143 c144 c145 c146 c147 c148 c149 c150 c151 c152 c153 c154 c155 c156 c157 c158 c159 c160 c161 c162 c163 c164 c165 c166 c167 c168 c169 c170 c171 c172 c173 c174 c175 c176 c177 c178 c179 c180 c181 c182 c183 c184 c185 : Value) (Q0 : Exit → Act → World → Prop) (HQ : Hid (∀ (u23 u24 u98 u99 u100 u101 u102 u103 u104 u105 u106 u107 u108 u109 u110 u111 u112 u113 u114 u115 u116 u117 u118 u119 u120 u121 u122 u123 u124 u125 u126 u127 u128 u129 u130 u131 u132 u133 u134 u135 u136 u137 u138 u139 u140 u141 u142 u143 : Value) (V : World), PrfRoot w1 V B R → Q0 .normal ⟨#[c0, .string (mkS key), .string (mkS other), .bool present, .string (mkS value), .int .i64 how, .int .i64 k, .int .i64 b, c8, c9, c10, c11, c12, c13, c14, c15, c16, c17, .pointer (some ⟨H, 0, none⟩), c19, c20, .pointer (some ⟨B, 0, none⟩), .pointer (some ⟨R, 0, none⟩), u23, u24, c25, c26, c27, c28, c29, c30, c31, c32, c33, c34, c35, c36, c37, c38, c39, c40, c41, c42, c43, c44, c45, c46, c47, c48, c49, c50, c51, c52, c53, c54, c55, c56, c57, c58, c59, c60, c61, c62, c63, c64, c65, c66, c67, c68, c69, c70, c71, c72, c73, c74, c75, c76, c77, c78, c79, c80, c81, c82, c83, c84, c85, c86, c87, c88, c89, c90, c91, c92, c93, c94, c95, c96, c97, u98, u99, u100, u101, u102, u103, u104, u105, u106, u107, u108, u109, u110, u111, u112, u113, u114, u115, u116, u117, u118, u119, u120, u121, u122, u123, u124, u125, u126, u127, u128, u129, u130, u131, u132, u133, u134, u135, u136, u137, u138, u139, u140, u141, u142, u143, c144, c145, c146, c147, c148, c149, c150, c151, c152, c153, c154, c155, c156, c157, c158, c159, c160, c161, c162, c163, c164, c165, c166, c167, c168, c169, c170, c171, c172, c173, c174, c175, c176, c177, c178, c179, c180, c181, c182, c183, c184, c185], []⟩ V)) : Code.wp Tryd.prog code21 Q0 ⟨#[c0, .string (mkS key), .string (mkS other), .bool present, .string (mkS value), .int .i64 how, .int .i64 k, .int .i64 b, c8, c9, c10, c11, c12, c13, c14, c15, c16, c17, .pointer (some ⟨H, 0, none⟩), c19, c20, .pointer (some ⟨B, 0, none⟩), .pointer (some ⟨R, 0, none⟩), c23, c24, c25, c26, c27, c28, c29, c30, c31, c32, c33, c34, c35, c36, c37, c38, c39, c40, c41, c42, c43, c44, c45, c46, c47, c48, c49, c50, c51, c52, c53, c54, c55, c56, c57, c58, c59, c60, c61, c62, c63, c64, c65, c66, c67, c68, c69, c70, c71, c72, c73, c74, c75, c76, c77, c78, c79, c80, c81, c82, c83, c84, c85, c86, c87, c88, c89, c90, c91, c92, c93, c94, c95, c96, c97, c98, c99, c100, c101, c102, c103, c104, c105, c106, c107, c108, c109, c110, c111, c112, c113, c114, c115, c116, c117, c118, c119, c120, c121, c122, c123, c124, c125, c126, c127, c128, c129, c130, c131, c132, c133, c134, c135, c136, c137, c138, c139, c140, c141, c142, c143, c144, c145, c146, c147, c148, c149, c150, c151, c152, c153, c154, c155, c156, c157, c158, c159, c160, c161, c162, c163, c164, c165, c166, c167, c168, c169, c170, c171, c172, c173, c174, c175, c176, c177, c178, c179, c180, c181, c182, c183, c184, c185], []⟩ V0 := by
  conv => arg 2; whnf
  obtain ⟨mask, qs, path, taken, pk, pv, r, hm, hrl, hP, hRr, hF, hql, hG⟩ := HC.out
  have HMK : Hid (mask < 18446744073709551616) := hm
  have HP : Hid (PrfAt V0 B mask path taken pk pv) := hP
  have HRr : Hid (V0.heap[R]? = some (.cells (r.map ub).toArray 25 (0, 0))) := hRr
  have HF : Hid (SumsFar V0 (R + 1) path qs) := hF
  clear hm hP hRr hF
  have c2 := HP.out.c2
  have f2 := HP.out.fr 2
  have hoth : ∀ j, j ≠ B → (V0.setCell ⟨B, 2, none⟩ (.bool true)).heap[j]? = V0.heap[j]? := fun j hj => heap_setCell_other _ _ _ _ (by simpa using hj)
  obtain ⟨q1, q2⟩ := far_B hB4 (by simp) hoth HRr.out HF.out
  have HP1 : Hid (PrfAt (V0.setCell ⟨B, 2, none⟩ (.bool true)) B mask path true pk pv) := HP.out.taken true
  have HR1 : Hid ((V0.setCell ⟨B, 2, none⟩ (.bool true)).heap[R]? = some (.cells (r.map ub).toArray 25 (0, 0))) := q1
  have HF1 : Hid (SumsFar (V0.setCell ⟨B, 2, none⟩ (.bool true)) (R + 1) path qs) := q2
  have hGa := gr_at hG hB1 2 (.bool true)
  clear hoth q1 q2 HP HRr HF hG HC
  go_wp2_with fail
  generalize V0.setCell ⟨B, 2, none⟩ (.bool true) = V1 at HP1 HR1 HF1 hGa ⊢
  clear c2 f2
  refine (of_any H key V1 (RefAt.gr HR.out hH hGa) (by have := hGa.size; omega) (by omega)).mono ?_
  rintro e w2 ⟨rfl, hG2⟩
  have hxl := length_sha key
  generalize sha key = x at hxl ⊢
  obtain ⟨HIx, HOx, HNx⟩ := sum25 x hxl
  have HIx' : Hid ((Tryd.prog.info? 25).map (·.size) = some (x.map ub).length) := by show _ = _; rw [HIx.out]; simp
  have hG12 := gr_trans hGa hG2
  have HP2 : Hid (PrfAt w2 B mask path true pk pv) := HP1.out.gr hG2
  have HTH : Hid (w2.there B 3 (x.map ub).toArray.size) := by
    show World.there _ _ _ _
    have := HP2.out.there 3 (by omega)
    simpa [hxl] using this
  have hoth : ∀ j, j ≠ B → (w2.setCells B 3 (x.map ub)).heap[j]? = w2.heap[j]? := fun j hj => heap_setCells_other B _ _ _ j hj
  have hR2 : w2.heap[R]? = some (.cells (r.map ub).toArray 25 (0, 0)) := (hG2.block R (Array.getElem?_eq_some_iff.1 HR1.out).1 (by simp)).trans HR1.out
  obtain ⟨q1, q2⟩ := far_B hB4 (size_setCells B _ _ _) hoth hR2 (HF1.out.gr hG2)
  have HP3 : Hid (PrfAt (w2.setCells B 3 (x.map ub)) B mask path true x pv) := HP2.out.key x hxl
  have HR3 : Hid ((w2.setCells B 3 (x.map ub)).heap[R]? = some (.cells (r.map ub).toArray 25 (0, 0))) := q1
  have HF3 : Hid (SumsFar (w2.setCells B 3 (x.map ub)) (R + 1) path qs) := q2
  have hG3 : w1.grownBy (w2.setCells B 3 (x.map ub)) none := gr_sets (by omega) _ _ _ hG12
  have HRG : Hid ((w2.setCells B 3 (x.map ub)).rangeAt B 3 (x.map ub)) := HP3.out.rangeK
  clear hoth q1 q2 HP1 HR1 HF1 hGa hG2 hG12 hR2
  go_wp2_with (first | (refine wpList_load_mid rfl 25 _ rfl B 3 rfl (x.map ub) _ HRG.out Tryd.underlying25 rfl HIx'.out ?_) | (refine wpList_store_mid rfl 25 _ _ rfl B 3 (x.map ub).toArray rfl rfl HTH.out HIx.out HNx.out ?_))
  generalize w2.setCells B 3 (x.map ub) = V3 at HP3 HR3 HF3 hG3 HRG ⊢
  clear HTH HP2
  have hplb : numL (x.take 8) < 18446744073709551616 := by
    have h1 := numL_lt (x.take 8)
    rw [List.length_take, hxl] at h1
    simpa using h1
  have HPLB : Hid _ := hplb
  clear hplb
  refine (rplace_any x hxl V3).mono ?_
  rintro e w4 ⟨rfl, hG4⟩
  generalize numL (x.take 8) = pl at HPLB ⊢
  have HALL4 : Hid (PrfRoot w1 w4 B R) := ⟨mask, qs, path, true, x, pv, r, HMK.out, hrl, HP3.out.gr hG4, (hG4.block R (Array.getElem?_eq_some_iff.1 HR3.out).1 (by simp)).trans HR3.out, HF3.out.gr hG4, hql, gr_trans hG3 hG4⟩
  clear HP3 HR3 HF3 hG3 HRG hG4 HIx HOx HNx HIx' hxl HMK hrl hql
  go_upto_region 24 with fail
  try simp only [Act.put]
  go_cut [] from 98 to 143 (fun wc => PrfRoot w1 wc B R)
  case first =>
    obtain ⟨mask, qs, path, taken, pk, pv, r, hm, hrl, hP, hRr, hF, hql, hG⟩ := HALL4.out
    have HMK : Hid (mask < 18446744073709551616) := hm
    have HP : Hid (PrfAt w4 B mask path taken pk pv) := hP
    have HRr : Hid (w4.heap[R]? = some (.cells (r.map ub).toArray 25 (0, 0))) := hRr
    have HF : Hid (SumsFar w4 (R + 1) path qs) := hF
    clear hm hP hRr hF HALL4
    go_wp2_with fail
    refine (of_any H value w4 (RefAt.gr HR.out hH hG) (by have := hG.size; omega) (by omega)).mono ?_
    rintro e w5 ⟨rfl, hG5⟩
    have hyl := length_sha value
    generalize sha value = y at hyl ⊢
    obtain ⟨HIy, HOy, HNy⟩ := sum25 y hyl
    have hG15 := gr_trans hG hG5
    have HP5 : Hid (PrfAt w5 B mask path taken pk pv) := HP.out.gr hG5
    have HTH : Hid (w5.there B 35 (y.map ub).toArray.size) := by
      show World.there _ _ _ _
      have := HP5.out.there 35 (by omega)
      simpa [hyl] using this
    have hoth : ∀ j, j ≠ B → (w5.setCells B 35 (y.map ub)).heap[j]? = w5.heap[j]? := fun j hj => heap_setCells_other B _ _ _ j hj
    have hR5 : w5.heap[R]? = some (.cells (r.map ub).toArray 25 (0, 0)) := (hG5.block R (Array.getElem?_eq_some_iff.1 HRr.out).1 (by simp)).trans HRr.out
    obtain ⟨q1, q2⟩ := far_B hB4 (size_setCells B _ _ _) hoth hR5 (HF.out.gr hG5)
    have HALL : Hid (PrfRoot w1 (w5.setCells B 35 (y.map ub)) B R) := ⟨mask, qs, path, taken, pk, y, r, HMK.out, hrl, HP5.out.val y hyl, q1, q2, hql, gr_sets (by omega) _ _ _ hG15⟩
    clear hoth q1 q2 HP HRr HF hG hG5 hG15 hR5 HP5
    go_wp2_with (first | (refine wpList_store_mid rfl 25 _ _ rfl B 35 (y.map ub).toArray rfl rfl HTH.out HIy.out HNy.out ?_))
    go_meet
    exact HALL.out
  case rest =>
    have HC : Hid (PrfRoot w1 wc B R) := hcut
    clear hcut HALL4
    rename_i hKK
    refine hKK _ _ ?_
    clear hKK
    refine wp_seq_k fun K3 hK3 => ?_
    generalize wc = V5 at HC ⊢
    go_cut [] from 98 to 143 (fun wc => PrfRoot w1 wc B R)
    case first =>
      clear hK3 K3
      go_wp2_with fail
      refine (pick_any b 4 (by omega) (by omega) HK.out.2.2.1 HK.out.2.2.2 _).mono ?_
      rintro e w' ⟨p4, rfl, hp4, hww⟩
      rw [hww]; clear hww w'
      obtain ⟨mask, qs, path, taken, pk, pv, r, hm, hrl, hP, hRr, hF, hql, hG⟩ := HC.out
      have HBY : Hid (∀ (j : Nat) (_ : j < 32) (y : UInt8), PrfRoot w1 (V5.setCell ⟨B, 3 + j, none⟩ (ub y)) B R) := fun j hj y => root_byte hm hrl hP hRr hF hql hG hB1 hB4 j hj y
      have HP : Hid (PrfAt V5 B mask path taken pk pv) := hP
      clear hm hP hRr hF hG hrl hql
      have h4 : (p4 = 0 ∨ p4 = 1) ∨ p4 = 2 ∨ p4 = 3 := by omega
      rcases h4 with h4 | rfl | rfl
      · rcases h4 with rfl | rfl
        all_goals
          obtain ⟨y, hy⟩ := byte_of HP.out 31 (by omega)
          have c34 : V5.cell? ⟨B, 34, none⟩ = some (ub y) := hy
          have f34 : V5.frozen? ⟨B, 34, none⟩ = false := HP.out.fr 34
          obtain ⟨zz, hzz⟩ := ub_bits BinOp.xor (y.toNat : Int) 1
          have HALL : Hid (PrfRoot w1 (V5.setCell ⟨B, 34, none⟩ (ub zz)) B R) := HBY.out 31 (by omega) zz
          have HZZ : Hid _ := hzz
          clear hy hzz HBY HP HC
          go_wp2
          go_meet
          rw [HZZ.out]
          exact HALL.out
      · go_wp2_with fail
        refine (pick_any how 8 (by omega) (by omega) HK.out.1.1 HK.out.1.2 _).mono ?_
        rintro e w' ⟨pa, rfl, hpa, hww⟩
        rw [hww]; clear hww w'
        go_wp2_with fail
        refine (pick_any how 8 (by omega) (by omega) HK.out.1.1 HK.out.1.2 _).mono ?_
        rintro e w' ⟨pb, rfl, hpb, hww⟩
        rw [hww]; clear hww w'
        obtain ⟨y, hy⟩ := byte_of HP.out pb (by omega)
        have fa : V5.frozen? ⟨B, 3 + pa, none⟩ = false := HP.out.fr (3 + pa)
        obtain ⟨ya, hya⟩ := byte_of HP.out pa (by omega)
        obtain ⟨zz, hzz⟩ := ub_bits BinOp.xor (y.toNat : Int) 4
        have HALL : Hid (PrfRoot w1 (V5.setCell ⟨B, 3 + pa, none⟩ (ub zz)) B R) := HBY.out pa (by omega) zz
        have HZZ : Hid _ := hzz
        have ba : (pa : Int) < 32 := by omega
        have bb : (pb : Int) < 32 := by omega
        clear hzz HBY HP HC
        go_wp2
        go_meet
        rw [HZZ.out]
        exact HALL.out
      · go_wp2
        go_meet
        exact HC.out
    case rest =>
      refine hK3 _ _ ?_
      clear hK3 K3 HC V5
      obtain ⟨mask, qs, path, taken, pk, pv, r, hm, hrl, hP, hRr, hF, hql, hG⟩ := hcut
      have HMK : Hid (mask < 18446744073709551616) := hm
      have HP : Hid (PrfAt wc B mask path taken pk pv) := hP
      have HRr : Hid (wc.heap[R]? = some (.cells (r.map ub).toArray 25 (0, 0))) := hRr
      have HF : Hid (SumsFar wc (R + 1) path qs) := hF
      have HI76 : Hid _ := info76p (mask := mask) (path := path) (taken := taken) hP.1 hP.2.1
      have hPr := hP.2.2
      have HL : Hid (pk.length = 32 ∧ pv.length = 32) := ⟨hP.1, hP.2.1⟩
      clear hm hP hRr hF
      go_wp2_with (first | (refine wpList_load_row rfl 76 _ rfl B rfl 76 _ (0, 0) _ hPr Tryd.underlying76 rfl HI76.out ?_))
      refine (taken_any H mask path taken pk pv wc (RefAt.gr HR.out hH hG) (by have := hG.size; omega) HL.out.1 HL.out.2).mono ?_
      rintro e w6 ⟨rfl, hG6⟩
      have hsl := length_sha (nodeL 2 pk pv)
      generalize sha (nodeL 2 pk pv) = s at hsl ⊢
      obtain ⟨HIs, HOs, HNs⟩ := sum25 s hsl
      have hP6 := (HP.out.gr hG6).2.2
      have HF6 : Hid (∀ V : World, w6.grownBy V none → V.heap[B]? = some (.cells (proofC mask path taken pk pv).toArray 76 (0, 0)) ∧ V.heap[R]? = some (.cells (r.map ub).toArray 25 (0, 0)) ∧ SumsFar V (R + 1) path qs ∧ w1.grownBy V none ∧ PrfAt V B mask path taken pk pv) := fun V hV => by
        have h := gr_trans hG6 hV
        exact ⟨(HP.out.gr h).2.2, (h.block R (Array.getElem?_eq_some_iff.1 HRr.out).1 (by simp)).trans HRr.out, HF.out.gr h, gr_trans hG h, HP.out.gr h⟩
      clear HP HRr HF hPr hG hG6 hP6
      go_wp2_with (first | (refine wpList_load_row rfl 25 _ rfl w6.heap.size rfl 25 _ (0, 0) _ hW7 Tryd.underlying25 rfl HIs.out ?_) | (refine wpList_load_row rfl 76 _ rfl B rfl 76 _ (0, 0) _ hP7 Tryd.underlying76 rfl HI76.out ?_) | (refine store_new rfl 25 _ _ rfl (s.map ub).toArray _ _ rfl rfl HIs.out HOs.out HNs.out ?_; intro W7 hW7 hs7 hG7; clear hs7; obtain ⟨hP7, hR7, hF7, hG17, hA7⟩ := HF6.out W7 hG7; have HF7 : Hid (SumsFar W7 (R + 1) path qs) := hF7; have HA7 : Hid (PrfAt W7 B mask path taken pk pv) := hA7; have HR7 : Hid (W7.heap[R]? = some (.cells (r.map ub).toArray 25 (0, 0))) := hR7; clear hF7 hA7 hR7))
      refine (lead_any H pl mask s pk pv qs path taken W7 (RefAt.gr HR.out hH hG17) (HE.out.gr hG17) (by have := hG17.size; omega) HPLB.out HMK.out hsl HL.out.1 HL.out.2 HF7.out.is (by omega)).mono ?_
      rintro e w8 ⟨r2, hr2, rfl, _, hG8⟩
      obtain ⟨HIr, HOr, HNr⟩ := sum25 r2 hr2
      have hR8 : w8.heap[R]? = some (.cells (r.map ub).toArray 25 (0, 0)) := (hG8.block R (Array.getElem?_eq_some_iff.1 HR7.out).1 (by simp)).trans HR7.out
      have HZr : Hid ((r.map ub).toArray.size = (r2.map ub).toArray.size) := by show _ = _; simp [hrl, hr2]
      have HALL : Hid (PrfRoot w1 (w8.setRow R (r2.map ub).toArray) B R) := ⟨mask, qs, path, taken, pk, pv, r2, HMK.out, hr2, (HA7.out.gr hG8).put (setRow_other _ _ _ _ (by omega)), setRow_heap _ _ _ _ 25 _ hR8, (HF7.out.gr hG8).put (by omega : R < R + 1) (by simp) (fun j hj _ => setRow_other _ _ _ _ hj), hql, gr_row (gr_trans hG17 hG8) _ _ (by omega)⟩
      generalize (leadO pl mask 64 0 s qs).isSome = okk
      clear hG8 hG17 HA7 HF7 HR7 hP7 hW7 HF6 hG7
      go_wp2_with (first | (refine wpList_store_row rfl 25 _ _ rfl R (r2.map ub).toArray rfl rfl 25 _ hR8 HIr.out HZr.out HNr.out ?_))
      all_goals
        exact HQ.out _ _ _ _ _ _ _ _ _ _ _ _ _ _ _ _ _ _ _ _ _ _ _ _ _ _ _ _ _ _ _ _ _ _ _ _ _ _ _ _ _ _ _ _ _ _ _ _ _ HALL.out
end Go.Proofs.YtplhlhjakapaaaaDoor
