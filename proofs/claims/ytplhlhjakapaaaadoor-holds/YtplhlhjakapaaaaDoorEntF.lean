/-
  rootsref's half, Without and at: some entries of a list.
-/
import Derived.Test.YtplhlhjakapaaaaDoorEnts
import Derived.Test.YtplhlhjakapaaaaDoorLeadR
namespace Go.Proofs.YtplhlhjakapaaaaDoor
open Go Go.RowKit

theorem EntsIs.at {w : World} {sp : Option Addr} {n cap : Nat} {es : List Ent} (h : EntsIs w (.slice sp n cap) es) (k : Nat) (hk : k < es.length) :
    ∃ g o e, sp = some ⟨g, o, none⟩ ∧ es[k]? = some e ∧ EntOk e ∧ w.rangeAt g (o + k * 3) (entC e) ∧ w.cell? ⟨g, o + k * 3, none⟩ = some (.int .u64 (e.p : Int)) ∧ w.cell? ⟨g, o + k * 3 + 1, none⟩ = some (.string (mkS e.k)) ∧ w.cell? ⟨g, o + k * 3 + 2, none⟩ = some (.string (mkS e.v)) := by
  obtain ⟨hok, sp', cap', he, _, hq⟩ := h
  obtain ⟨rfl, rfl⟩ : sp = sp' ∧ cap = cap' := by cases he; exact ⟨rfl, rfl⟩
  obtain ⟨g, o, rfl, hg, hr⟩ := hq (by omega)
  have hek : es[k]? = some es[k] := List.getElem?_eq_getElem hk
  have hr1 := hr k es[k] hek
  exact ⟨g, o, es[k], rfl, hek, hok _ (List.getElem_mem hk), hr1, hr1 0 _ rfl, hr1 1 _ rfl, hr1 2 _ rfl⟩

theorem info112 (e : Ent) : (Tryd.prog.info? 112).map (·.size) = some (entC e).length := infoE

set_option maxHeartbeats 2000000 in
set_option maxRecDepth 100000 in
theorem half_any (es : List Ent) (v : Value) (bit b : Nat) (w : World) (hv : EntsIs w v es) (hbit : bit < 64) (hlen : es.length < 1000000) :
    Calls Tryd.prog 74 #[v, .int .u64 (bit : Int), .int .u64 (b : Int)] w fun e w' => ∃ v' es', e = .returned v' ∧ EntsOwn w' w.heap.size v' es' ∧ es'.length ≤ es.length ∧ w.grownBy w' none := by
  have HV : Hid (EntsIs w v es) := hv
  obtain ⟨_, sp, cap, rfl, _, _⟩ := hv
  go_enter Tryd.func74, Tryd.ntmps74
  go_wp2
  go_loopw [7, 8] (fun o i wr => ∃ (k : Nat) (fs : List Ent), k ≤ es.length ∧ i = .int .i64 (k : Int) ∧ Hid (EntsOwn wr w.heap.size o fs) ∧ fs.length ≤ k ∧ w.grownBy wr none)
    (fun _ i _ => es.length - (intOf i).toNat)
  case atStart => exact ⟨0, [], by omega, rfl, EntsOwn.nil w w.heap.size, by simp, gr_refl w⟩
  case round =>
    obtain ⟨k, fs, hk, rfl, HO, hfs, hG⟩ := hrel
    by_cases hlt : k < es.length
    · have d0 : (k : Int) < (es.length : Int) := by omega
      have db : (bit : Int) < 64 := by omega
      obtain ⟨g, o, e, rfl, hek, hok, hR, c0, _, _⟩ := (HV.out.gr hG).at k hlt
      have HR : Hid _ := hR
      have HOK : Hid _ := hok
      have eP := bit_eq e.p bit hok.1
      have hsz := hG.size
      have HI : Hid _ := info112 e
      clear hek hok hR
      generalize (e.p / 2 ^ bit % 2) = q at eP
      have eQ : ((q : Int) == (b : Int)) = (q == b) := by rw [Bool.eq_iff_iff]; simp; omega
      generalize (q == b) = r at eQ
      cases r with
      | true =>
        go_wp2_with (first | (refine wpList_load_mid rfl 112 _ rfl g (o + k * 3) rfl (entC e) _ HR.out Tryd.underlying112 rfl HI.out ?_) | (refine wpList_appendE w.heap.size fs e u7 HOK.out HO.out hsz (by omega) rfl rfl _ _ _ rfl rfl rfl rfl rfl (by simp [Act.put]) ?_; intro v' w' hown' hg'))
        exact ⟨⟨k + 1, fs ++ [e], by omega, by go_num, hown', by simp; omega, hg' w hG (Nat.le_refl _)⟩, by simp [intOf]; omega⟩
      | false =>
        go_wp2
        exact ⟨⟨k + 1, fs, by omega, by go_num, HO, by omega, hG⟩, by simp [intOf]; omega⟩
    · obtain rfl : k = es.length := by omega
      have hge : decide ((es.length : Int) < (es.length : Int)) = false := by simp
      go_wp2
      go_ret
      exact ⟨_, fs, rfl, HO.out, hfs, hG⟩
set_option maxHeartbeats 2000000 in
set_option maxRecDepth 100000 in
theorem without_any (es : List Ent) (v : Value) (p : Nat) (w : World) (hv : EntsIs w v es) (hlen : es.length < 1000000) :
    Calls Tryd.prog 71 #[v, .int .u64 (p : Int)] w fun e w' => ∃ v' es', e = .returned v' ∧ EntsOwn w' w.heap.size v' es' ∧ es'.length ≤ es.length ∧ w.grownBy w' none := by
  have HV : Hid (EntsIs w v es) := hv
  obtain ⟨_, sp, cap, rfl, _, _⟩ := hv
  go_enter Tryd.func71, Tryd.ntmps71
  go_wp2
  go_loopw [5, 6] (fun o i wr => ∃ (k : Nat) (fs : List Ent), k ≤ es.length ∧ i = .int .i64 (k : Int) ∧ Hid (EntsOwn wr w.heap.size o fs) ∧ fs.length ≤ k ∧ w.grownBy wr none)
    (fun _ i _ => es.length - (intOf i).toNat)
  case atStart => exact ⟨0, [], by omega, rfl, EntsOwn.nil w w.heap.size, by simp, gr_refl w⟩
  case round =>
    obtain ⟨k, fs, hk, rfl, HO, hfs, hG⟩ := hrel
    by_cases hlt : k < es.length
    · have d0 : (k : Int) < (es.length : Int) := by omega
      obtain ⟨g, o, e, rfl, hek, hok, hR, c0, _, _⟩ := (HV.out.gr hG).at k hlt
      have HR : Hid _ := hR
      have HOK : Hid _ := hok
      have hsz := hG.size
      have HI : Hid _ := info112 e
      clear hek hok hR
      have eQ : ((e.p : Int) != (p : Int)) = (e.p != p) := by rw [Bool.eq_iff_iff]; simp; omega
      generalize (e.p != p) = r at eQ
      cases r with
      | true =>
        go_wp2_with (first | (refine wpList_load_mid rfl 112 _ rfl g (o + k * 3) rfl (entC e) _ HR.out Tryd.underlying112 rfl HI.out ?_) | (refine wpList_appendE w.heap.size fs e u5 HOK.out HO.out hsz (by omega) rfl rfl _ _ _ rfl rfl rfl rfl rfl (by simp [Act.put]) ?_; intro v' w' hown' hg'))
        exact ⟨⟨k + 1, fs ++ [e], by omega, by go_num, hown', by simp; omega, hg' w hG (Nat.le_refl _)⟩, by simp [intOf]; omega⟩
      | false =>
        go_wp2
        exact ⟨⟨k + 1, fs, by omega, by go_num, HO, by omega, hG⟩, by simp [intOf]; omega⟩
    · obtain rfl : k = es.length := by omega
      have hge : decide ((es.length : Int) < (es.length : Int)) = false := by simp
      go_wp2
      go_ret
      exact ⟨_, fs, rfl, HO.out, hfs, hG⟩
set_option maxHeartbeats 2000000 in
set_option maxRecDepth 100000 in
theorem at_any (es : List Ent) (v : Value) (p : Nat) (w : World) (hv : EntsIs w v es) (hlen : es.length < 1000000) :
    Calls Tryd.prog 72 #[v, .int .u64 (p : Int)] w fun e w' => ∃ r : Int, e = .returned (.int .i64 r) ∧ (r = -1 ∨ ∃ k : Nat, k < es.length ∧ r = (k : Int)) ∧ w' = w := by
  have HV : Hid (EntsIs w v es) := hv
  obtain ⟨_, sp, cap, rfl, _, _⟩ := hv
  go_enter Tryd.func72, Tryd.ntmps72
  go_wp2
  go_loopw [5] (fun i wr => ∃ k : Nat, k ≤ es.length ∧ i = .int .i64 (k : Int) ∧ wr = w)
    (fun i _ => es.length - (intOf i).toNat)
  case atStart => exact ⟨0, by omega, rfl, rfl⟩
  case round =>
    obtain ⟨k, hk, rfl, hwr⟩ := hrel
    subst hwr
    by_cases hlt : k < es.length
    · have d0 : (k : Int) < (es.length : Int) := by omega
      obtain ⟨g, o, e, rfl, hek, hok, hR, c0, _, _⟩ := HV.out.at k hlt
      clear hek hok hR
      have eQ : ((e.p : Int) == (p : Int)) = (e.p == p) := by rw [Bool.eq_iff_iff]; simp; omega
      generalize (e.p == p) = r at eQ
      cases r with
      | true =>
        go_wp2
        go_ret
        exact ⟨_, rfl, Or.inr ⟨k, hlt, rfl⟩, rfl⟩
      | false =>
        go_wp2
        exact ⟨⟨k + 1, by omega, by go_num, trivial⟩, by simp [intOf]; omega⟩
    · obtain rfl : k = es.length := by omega
      have hge : decide ((es.length : Int) < (es.length : Int)) = false := by simp
      go_wp2
      go_ret
      exact ⟨_, rfl, Or.inl rfl, rfl⟩

set_option maxHeartbeats 2000000 in
set_option maxRecDepth 100000 in
theorem with_any (H : Nat) (es : List Ent) (v : Value) (key value : List UInt8) (w : World) (hH : RefAt w H) (hHs : H < w.heap.size) (hv : EntsIs w v es) (hlen : es.length < 100000) (hkl : key.length < 999999999) (hvl : value.length < 999999999) :
    Calls Tryd.prog 47 #[.pointer (some ⟨H, 0, none⟩), v, .string (mkS key), .string (mkS value)] w fun e w' => ∃ v' es', e = .returned v' ∧ EntsOwn w' w.heap.size v' es' ∧ es'.length ≤ es.length + 1 ∧ w.grownBy w' none := by
  have HV : Hid (EntsIs w v es) := hv
  have HH : Hid (RefAt w H) := hH
  clear hv hH
  go_enter Tryd.func47, Tryd.ntmps47
  go_wp2_with fail
  refine (of_any H key w HH.out hHs (by omega)).mono ?_
  rintro e w1 ⟨rfl, hG1⟩
  have hsl := length_sha key
  generalize sha key = s at hsl ⊢
  obtain ⟨HIs, HOs, HNs⟩ := sum25 s hsl
  have hplb : numL (s.take 8) < 18446744073709551616 := by
    have h1 := numL_lt (s.take 8)
    rw [List.length_take, hsl] at h1
    simpa using h1
  have HPLB : Hid _ := hplb
  clear hplb
  go_wp2_with (first | (refine wpList_load_row rfl 25 _ rfl w1.heap.size rfl 25 _ (0, 0) _ hW2 Tryd.underlying25 rfl HIs.out ?_) | (refine store_new rfl 25 _ _ rfl (s.map ub).toArray _ _ rfl rfl HIs.out HOs.out HNs.out ?_; intro W2 hW2 hs2 hG2; clear hs2))
  refine (rplace_any s hsl W2).mono ?_
  rintro e w3 ⟨rfl, hG3⟩
  generalize numL (s.take 8) = p at HPLB ⊢
  have hG03 := gr_trans hG1 (gr_trans hG2 hG3)
  clear hG1 hG2 hG3 hW2
  go_wp2_with fail
  refine (without_any es v p w3 (HV.out.gr hG03) (by omega)).mono ?_
  rintro e w4 ⟨v1, fs, rfl, hO, hfs, hG4⟩
  have HO4 : Hid (EntsOwn w4 w.heap.size v1 fs) := hO.lower hG03.size
  have hG04 := gr_trans hG03 hG4
  have hsz := hG04.size
  clear hO hG03 hG4
  go_wp2_with (first | (refine wpList_appendE w.heap.size fs ⟨p, key, value⟩ v1 ⟨HPLB.out, hkl, hvl⟩ HO4.out hsz (by omega) rfl rfl _ _ _ rfl rfl rfl rfl rfl (by simp) ?_; intro v' w' hown' hg'))
  go_ret
  exact ⟨v', fs ++ [⟨p, key, value⟩], rfl, hown', by simp; omega, hg' w hG04 (Nat.le_refl _)⟩

end Go.Proofs.YtplhlhjakapaaaaDoor
