/-
  rootsref's Prove: some proof.
-/
import Derived.Test.YtplhlhjakapaaaaDoorMRoot
import Derived.Test.YtplhlhjakapaaaaDoorPrf
import Derived.Test.YtplhlhjakapaaaaDoorMark
namespace Go.Proofs.YtplhlhjakapaaaaDoor
open Go Go.RowKit

theorem wp_alloc76 {o : Oper} {a : Act} {w : World} {K : Act → World → Prop} {Q : Exit → Act → World → Prop} (ho : o.op = .alloc 76) (h : K (a.put o.dst (.pointer (some ⟨w.heap.size, 0, none⟩))) (w.alloc (.cells (proofC 0 (.slice none 0 0) false (List.replicate 32 0) (List.replicate 32 0)).toArray 76))) : Oper.wp Tryd.prog o a w K Q := by
  rw [← zero76] at h
  unfold Oper.wp execOp
  simp only [ho]
  go_simp
  exact h
theorem wpList_alloc76 {ops : Array Oper} {rest : List Oper} {o : Oper} {a : Act} {w : World} {Q : Exit → Act → World → Prop} (hgd : o.guard = none) (ho : o.op = .alloc 76)
    (h : ∀ W : World, PrfAt W w.heap.size 0 (.slice none 0 0) false (List.replicate 32 0) (List.replicate 32 0) → W.heap.size = w.heap.size + 1 → w.grownBy W none → wpList Tryd.prog ops Q rest (a.put o.dst (.pointer (some ⟨w.heap.size, 0, none⟩))) W) :
    wpList Tryd.prog ops Q (o :: rest) a w :=
  wpList_plain hgd fun _ hK => wp_alloc76 ho (hK _ _ (h _ ⟨rfl, rfl, heap_alloc_new _ _⟩ (by simp) (gr_alloc _ _)))
theorem build76 : Tryd.prog.built 76 [] = some (proofC 0 (.slice none 0 0) false (List.replicate 32 0) (List.replicate 32 0)).toArray := by kernel_rfl

theorem wpList_append1g {ops : Array Oper} {rest : List Oper} {o1 o2 : Oper} {a : Act} {w : World} {Q : Exit → Act → World → Prop} (base : Nat) (ps : List (List UInt8)) (s : List UInt8) (v : Value) (hs : s.length = 32) (hown : SumsOwn w base v ps) (hbase : base ≤ w.heap.size) (hlen : ps.length < 1000000000)
    (g1 : o1.guard = none) (g2 : o2.guard = none) (x y : Operand) (d : Tmp) (ho1 : o1.op = .buildSlice 38 1 #[(0, x)]) (hd1 : o1.dst = some d) (ho2 : o2.op = .call { callee := .builtin .append, args := #[y, .tmp d], argTypes := #[38, 38] })
    (hx : a.eval x = .agg (s.map ub).toArray) (hy : (a.put (some d) (.slice (some ⟨w.heap.size, 0, none⟩) 1 1)).eval y = v) (hds : d < a.tmps.size)
    (h : ∀ v' w', SumsOwn w' base v' (ps ++ [s]) → (∀ w0 : World, w0.grownBy w none → w0.heap.size ≤ base → w0.grownBy w' none) → (∀ k, k < w.heap.size → some k ≠ v.ownBlock → w'.heap[k]? = w.heap[k]?) → wpList Tryd.prog ops Q rest ((a.put (some d) (.slice (some ⟨w.heap.size, 0, none⟩) 1 1)).put o2.dst v') w') :
    wpList Tryd.prog ops Q (o1 :: o2 :: rest) a w := by
  obtain ⟨i0, z0, hi0, hz0, hz1, hz2, hz3⟩ := info25z
  refine wpList_plain g1 fun K hK => ?_
  refine wp_build1 38 25 x ho1 Tryd.underlying38 _ hx (s.map ub).toArray (built_one s hs) ?_
  rw [hd1]
  refine hK _ _ ?_
  have hG := gr_alloc w (Obj.cells (s.map ub).toArray 25)
  have hrb : (w.alloc (Obj.cells (s.map ub).toArray 25)).heap[w.heap.size]? = some (.cells (s.map ub).toArray 25 (0, 0)) := heap_alloc_new w _
  have hown1 := hown.gr hG
  refine wpList_append_own _ g2 _ _ 38 ho2 base 25 i0 z0 32 32 Tryd.underlying38 hi0 hz0 hz1 hz2 hz3 (by decide) v ps.length (ps.flatten.map ub) hy hown1.2.2 ⟨w.heap.size, 0, none⟩ 1 1 (s.map ub) ?_ (by simp [hs]) ?_ ?_ (by unfold maxLen; omega) (by omega) (by have := hG.size; omega) ?_
  · simp [Act.eval, Act.put, hds]
  · intro j u hj
    have e : (⟨w.heap.size, 0, none⟩ : Addr).add j = ⟨w.heap.size, j, none⟩ := by unfold Addr.add; split <;> simp_all
    rw [e, cell_of_row _ _ _ _ _ _ hrb]; simpa using hj
  · intro u hu; obtain ⟨x, _, rfl⟩ := List.mem_map.1 hu; rfl
  · intro v' w' hown' hG' _
    refine h v' w' ⟨fun x hx => ?_, fun h => absurd h (by simp), ?_⟩ (fun w0 h0 hb => gr_own hown1.2.2 hG' (gr_trans h0 hG) hb) (fun k hk hne => (hG'.block k (by have := hG.size; omega) hne).trans (hG.block k hk (by simp)))
    · rcases List.mem_append.1 hx with h1 | h1
      · exact hown.1 x h1
      · rw [List.mem_singleton.1 h1]; exact hs
    · rw [List.flatten_append, List.map_append, List.length_append]
      simpa using hown'
theorem SumsOwn.apart {w : World} {base B : Nat} {v : Value} {ps : List (List UInt8)} {C : Array Value} (h : SumsOwn w base v ps) (hB : w.heap[B]? = some (.cells C 76 (0, 0))) : some B ≠ v.ownBlock := by
  obtain ⟨_, _, _, h0 | ⟨g, cap, cur, hv, _, hh, _⟩⟩ := h
  · rw [h0.1]; simp [Value.ownBlock]
  · rw [hv]
    intro e
    have e' : B = g := Option.some.inj e
    subst e'
    rw [hB] at hh
    have := Option.some.inj hh
    injection this with _ ht
    cases ht
theorem SumsOwn.shape {w : World} {base : Nat} {v : Value} {ps : List (List UInt8)} {r : List UInt8} (h : SumsOwn w base v (ps ++ [r])) : ∃ g c, v = .slice (some ⟨g, 0, none⟩) (ps.length + 1) c := by
  obtain ⟨_, _, _, h0 | ⟨g, cap, cur, hv, _⟩⟩ := h
  · simp at h0
  · exact ⟨g, cap, by rw [hv]; simp⟩
theorem SumsOwn.one {w : World} {base : Nat} {v : Value} {ps : List (List UInt8)} (h : SumsOwn w base v ps) : v.oneCell' = true := by
  obtain ⟨_, _, _, h0 | ⟨g, cap, cur, hv, _⟩⟩ := h
  · rw [h0.1]; rfl
  · rw [hv]; rfl
theorem prf_one (mask : Nat) (path : Value) (taken : Bool) (pk pv : List UInt8) (hp : path.oneCell' = true) : (proofC mask path taken pk pv).toArray.all (·.oneCell') = true := by
  refine all_oneCell_toArray fun v hv => ?_
  simp only [proofC, List.mem_cons, List.mem_append, List.mem_map] at hv
  rcases hv with rfl | rfl | rfl | ⟨x, _, rfl⟩ | ⟨x, _, rfl⟩
  · rfl
  · exact hp
  · rfl
  · rfl
  · rfl
theorem EntsOwn.put {w V : World} {base B : Nat} {v : Value} {es : List Ent} (h : EntsOwn w base v es) (hB : B < base) (hV : ∀ k, k ≠ B → V.heap[k]? = w.heap[k]?) : EntsOwn V base v es := by
  obtain ⟨h32, hn, hl, h0 | ⟨g, cap, cur, hv, hb, hh, rest⟩⟩ := h
  · exact ⟨h32, hn, hl, Or.inl h0⟩
  · exact ⟨h32, hn, hl, Or.inr ⟨g, cap, cur, hv, hb, (hV g (by omega)).trans hh, rest⟩⟩
theorem PrfAt.put {w V : World} {B mask : Nat} {path : Value} {taken : Bool} {pk pv : List UInt8} (h : PrfAt w B mask path taken pk pv) (hV : V.heap[B]? = w.heap[B]?) : PrfAt V B mask path taken pk pv := ⟨h.1, h.2.1, hV.trans h.2.2⟩

set_option maxHeartbeats 4000000 in
set_option maxRecDepth 100000 in
theorem prove_any (H : Nat) (es : List Ent) (v : Value) (key : List UInt8) (w : World) (hH : RefAt w H) (hE : EmptyAt w H) (hHs : H < w.heap.size) (hv : EntsIs w v es) (hlen : es.length < 100000) (hkl : key.length < 999999999) :
    Calls Tryd.prog 48 #[.pointer (some ⟨H, 0, none⟩), v, .string (mkS key)] w fun e w' => ∃ (mask : Nat) (ps : List (List UInt8)) (path : Value) (taken : Bool) (pk pv : List UInt8),
      mask < 18446744073709551616 ∧ pk.length = 32 ∧ pv.length = 32 ∧ e = .returned (.agg (proofC mask path taken pk pv).toArray) ∧ SumsOwn w' w.heap.size path ps ∧ ps.length ≤ 64 ∧ w.grownBy w' none := by
  have HV : Hid (EntsIs w v es) := hv
  have HH : Hid (RefAt w H) := hH
  have HE : Hid (EmptyAt w H) := hE
  obtain ⟨_, sp, cap, rfl, _, _⟩ := hv
  clear hH hE
  go_enter Tryd.func48, Tryd.ntmps48
  refine wp_seq (wp_region_lit (wpList_alloc76 rfl rfl fun W1 hP1 hs1 hG1 => ?_))
  change Code.wp _ _ _ _ _
  simp only [Act.put, List.setIfInBounds_toArray, List.set_cons_zero, List.set_cons_succ]
  have HP1 : Hid (PrfAt W1 w.heap.size 0 (.slice none 0 0) false (List.replicate 32 0) (List.replicate 32 0)) := hP1
  clear hP1 hs1
  go_wp2_with fail
  refine (of_any H key W1 (RefAt.gr HH.out hHs hG1) (by have := hG1.size; omega) (by omega)).mono ?_
  rintro e w2 ⟨rfl, hG2⟩
  have hsl := length_sha key
  generalize sha key = s at hsl ⊢
  obtain ⟨HIs, HOs, HNs⟩ := sum25 s hsl
  have hG02 := gr_trans hG1 hG2
  have HP2 : Hid (PrfAt w2 w.heap.size 0 (.slice none 0 0) false (List.replicate 32 0) (List.replicate 32 0)) := HP1.out.gr hG2
  clear hG1 hG2 HP1
  go_wp2_with (first | (refine wpList_load_row rfl 25 _ rfl w2.heap.size rfl 25 _ (0, 0) _ hW3 Tryd.underlying25 rfl HIs.out ?_) | (refine store_new rfl 25 _ _ rfl (s.map ub).toArray _ _ rfl rfl HIs.out HOs.out HNs.out ?_; intro W3 hW3 hs3 hG3; clear hs3))
  refine (rplace_any s hsl W3).mono ?_
  rintro e w4 ⟨rfl, hG4⟩
  have hG34 := gr_trans hG3 hG4
  have HP4 : Hid (PrfAt w4 w.heap.size 0 (.slice none 0 0) false (List.replicate 32 0) (List.replicate 32 0)) := HP2.out.gr hG34
  have hG04 := gr_trans hG02 hG34
  clear hG3 hG4 hG34 hG02 HP2 hW3
  generalize numL (s.take 8) = p
  have HI0 : Hid ((Tryd.prog.info? 76).map (·.size) = some Tryd.zeroCells76.size) := by show _ = _; kernel_rfl
  have HN0 : Hid (Tryd.zeroCells76.all (·.oneCell') = true) := by show _ = _; kernel_rfl
  go_wp2_with (first | (refine store_new rfl 76 _ _ rfl Tryd.zeroCells76 _ _ rfl rfl HI0.out rfl HN0.out ?_; intro W5 hW5 hs5 hG5; clear hs5))
  have HQ5 : Hid (PrfAt W5 w4.heap.size 0 (.slice none 0 0) false (List.replicate 32 0) (List.replicate 32 0)) := ⟨rfl, rfl, by rw [hW5, zero76]⟩
  have HP5 : Hid (PrfAt W5 w.heap.size 0 (.slice none 0 0) false (List.replicate 32 0) (List.replicate 32 0)) := HP4.out.gr hG5
  have hG05 := gr_trans hG04 hG5
  have hB0 : w.heap.size < w4.heap.size := HP4.out.lt
  clear hW5 hG5 hG04 HP4 HI0 HN0 HIs HOs HNs
  generalize w4.heap.size = B at *
  generalize List.replicate 32 (0 : UInt8) = z0 at *
  go_loopw [10] (fun i wr => ∃ (k mask : Nat) (path : Value) (ps : List (List UInt8)), k ≤ 64 ∧ i = .int .i64 (k : Int) ∧ Hid (mask < 18446744073709551616) ∧ Hid (PrfAt wr B mask path false z0 z0) ∧ Hid (PrfAt wr w.heap.size 0 (.slice none 0 0) false z0 z0) ∧ Hid (SumsOwn wr w.heap.size path ps) ∧ ps.length ≤ k ∧ w.grownBy wr none)
    (fun i _ => 64 - (intOf i).toNat)
  case atStart => exact ⟨0, 0, _, [], by omega, rfl, by show _ < _; omega, HQ5, HP5, ⟨by simp, fun _ => rfl, rfl, Or.inl ⟨rfl, rfl⟩⟩, by simp, hG05⟩
  case round =>
    clear HQ5 HP5 hG05
    obtain ⟨k, mask, path, ps, hk, rfl, HM, HQ, HR, HS, hps, hG⟩ := hrel
    by_cases hlt : k < 64
    · have d0 : (k : Int) < 64 := by omega
      generalize wr = V1 at *
      go_wp2
      go_loopw [11, 12] (fun o i wr => ∃ (n : Nat) (fs : List Ent), n ≤ es.length ∧ i = .int .i64 (n : Int) ∧ Hid (EntsOwn wr V1.heap.size o fs) ∧ fs.length ≤ n ∧ V1.grownBy wr none)
        (fun _ i _ => es.length - (intOf i).toNat)
      case atStart => exact ⟨0, [], by omega, rfl, EntsOwn.nil V1 V1.heap.size, by simp, gr_refl V1⟩
      case round =>
        obtain ⟨n, fs, hn, rfl, HO, hfs, hGr⟩ := hrel
        by_cases hlt2 : n < es.length
        · have d1 : (n : Int) < (es.length : Int) := by omega
          obtain ⟨g, o, e, rfl, hek, hok, hR, c0, _, _⟩ := (HV.out.gr (gr_trans hG hGr)).at n hlt2
          have HRR : Hid _ := hR
          have HOK : Hid _ := hok
          have hsz := hGr.size
          have HI : Hid _ := info112 e
          obtain ⟨z, _, hz⟩ := u64_bits .xor (e.p : Int) (p : Int)
          clear hek hok hR
          generalize eQ : ((z : Int) / 2 ^ k == 1) = r
          cases r with
          | true =>
            go_wp2_with (first | (refine wpList_load_mid rfl 112 _ rfl g (o + n * 3) rfl (entC e) _ HRR.out Tryd.underlying112 rfl HI.out ?_) | (refine wpList_appendE V1.heap.size fs e u11 HOK.out HO.out hsz (by omega) rfl rfl _ _ _ rfl rfl rfl rfl rfl (by simp [Act.put]) ?_; intro v' w' hown' hg'))
            exact ⟨⟨n + 1, fs ++ [e], by omega, by go_num, hown', by simp; omega, hg' V1 hGr (Nat.le_refl _)⟩, by simp [intOf]; omega⟩
          | false =>
            go_wp2
            exact ⟨⟨n + 1, fs, by omega, by go_num, HO, by omega, hGr⟩, by simp [intOf]; omega⟩
        · obtain rfl : n = es.length := by omega
          have hge : decide ((es.length : Int) < (es.length : Int)) = false := by simp
          have HOI : Hid (EntsIs wr u11 fs) := HO.out.is
          have HQ1 : Hid (PrfAt wr B mask path false z0 z0) := HQ.out.gr hGr
          have HR1 : Hid (PrfAt wr w.heap.size 0 (.slice none 0 0) false z0 z0) := HR.out.gr hGr
          have HS1 : Hid (SumsOwn wr w.heap.size path ps) := HS.out.gr hGr
          have hG1 := gr_trans hG hGr
          have hBV : B < V1.heap.size := HQ.out.lt
          clear HQ HR HS
          obtain ⟨_, sq, capq, rfl, _, _⟩ := HOI.out
          rcases Nat.eq_zero_or_pos fs.length with hf0 | hf0
          · have d2 : decide ((0 : Int) < (fs.length : Int)) = false := decide_eq_false (by omega)
            go_wp2
            exact ⟨⟨k + 1, mask, path, ps, by omega, by go_num, HM, HQ1, HR1, HS1, by omega, hG1⟩, by simp [intOf]; omega⟩
          · have d2 : (0 : Int) < (fs.length : Int) := by omega
            have c0 := HQ1.out.c0
            have f0 := HQ1.out.fr 0
            obtain ⟨m', hm', hmb⟩ := u64_bits .or (mask : Int) (IntKind.u64.wrap (2 ^ k))
            have HM' : Hid _ := hm'
            have hoth : ∀ j, j ≠ B → (wr.setCell ⟨B, 0, none⟩ (.int .u64 (m' : Int))).heap[j]? = wr.heap[j]? := fun j hj => heap_setCell_other _ _ _ _ (by simpa using hj)
            have HQ2 : Hid (PrfAt (wr.setCell ⟨B, 0, none⟩ (.int .u64 (m' : Int))) B m' path false z0 z0) := HQ1.out.mask m'
            have HR2 : Hid (PrfAt (wr.setCell ⟨B, 0, none⟩ (.int .u64 (m' : Int))) w.heap.size 0 (.slice none 0 0) false z0 z0) := HR1.out.put (hoth _ (by omega))
            have HS2 : Hid (SumsOwn (wr.setCell ⟨B, 0, none⟩ (.int .u64 (m' : Int))) w.heap.size path ps) := HS1.out.put HQ1.out.2.2 hoth
            have HO2 : Hid (EntsIs (wr.setCell ⟨B, 0, none⟩ (.int .u64 (m' : Int))) (.slice sq fs.length capq) fs) := (HO.out.put hBV hoth).is
            have hG2 := gr_at hG1 (by omega : w.heap.size ≤ B) 0 (.int .u64 (m' : Int))
            clear hm' hoth
            go_wp2_with fail
            generalize wr.setCell ⟨B, 0, none⟩ (.int .u64 (m' : Int)) = V2 at HQ2 HR2 HS2 HO2 hG2 ⊢
            clear c0 f0 HQ1 HR1 HS1 HO HOI
            refine (mroot_any H k (by omega) fs _ V2 (RefAt.gr HH.out hHs hG2) (HE.out.gr hG2) (by have := hG2.size; omega) HO2.out (by omega)).mono ?_
            rintro e w6 ⟨r, hrl, rfl, hG6⟩
            have hG06 := gr_trans hG2 hG6
            obtain ⟨HIr, HOr, HNr⟩ := sum25 r hrl
            have HF6 : Hid (∀ V : World, w6.grownBy V none → V.cell? ⟨B, 1, none⟩ = some path ∧ SumsOwn V w.heap.size path ps ∧ w.heap.size ≤ V.heap.size ∧ w.grownBy V none ∧ PrfAt V B m' path false z0 z0 ∧ PrfAt V w.heap.size 0 (.slice none 0 0) false z0 z0) := fun V hV => by
              have hVV := gr_trans hG6 hV
              exact ⟨(HQ2.out.gr hVV).c1, HS2.out.gr hVV, by have := (gr_trans hG06 hV).size; omega, gr_trans hG06 hV, HQ2.out.gr hVV, HR2.out.gr hVV⟩
            clear HQ2 HR2 HS2 HO2 hG6 hG2
            go_wp2_with (first | (refine wpList_load_row rfl 25 _ rfl w6.heap.size rfl 25 _ (0, 0) _ hW7 Tryd.underlying25 rfl HIr.out ?_) | (refine wpList_append1g w.heap.size ps r path hrl q2 q3 (by omega) rfl rfl _ _ _ rfl rfl rfl rfl rfl (by simp [Act.put]) ?_; intro v' w' hown' hg' hb'; obtain ⟨g9, c9, hv9⟩ := hown'.shape; subst hv9; have HQ8 : Hid (PrfAt w' B m' path false z0 z0) := q5.put (hb' B q5.lt (q2.apart q5.2.2)); have HR8 : Hid (PrfAt w' w.heap.size 0 (.slice none 0 0) false z0 z0) := q6.put (hb' w.heap.size q6.lt (q2.apart q6.2.2)); have c1 := HQ8.out.c1; have f1 := HQ8.out.fr 1; have HOW : Hid (SumsOwn w' w.heap.size (.slice (some ⟨g9, 0, none⟩) (ps.length + 1) c9) (ps ++ [r])) := hown'; clear hown' q1 q2 q5 q6) | (refine store_new rfl 25 _ _ rfl (r.map ub).toArray _ _ rfl rfl HIr.out HOr.out HNr.out ?_; intro W7 hW7 hs7 hG7; clear hs7; obtain ⟨q1, q2, q3, q4, q5, q6⟩ := HF6.out W7 hG7))
            have hG8 := hg' w q4 (Nat.le_refl _)
            have hoth : ∀ j, j ≠ B → (w'.setCell ⟨B, 1, none⟩ (.slice (some ⟨g9, 0, none⟩) (ps.length + 1) c9)).heap[j]? = w'.heap[j]? := fun j hj => heap_setCell_other _ _ _ _ (by simpa using hj)
            exact ⟨⟨k + 1, m', _, ps ++ [r], by omega, by go_num, HM', HQ8.out.path _, HR8.out.put (hoth _ (by omega)), HOW.out.put HQ8.out.2.2 hoth, by simp; omega, gr_at hG8 (by omega) 1 _⟩, by simp [intOf]; omega⟩
    · obtain rfl : k = 64 := by omega
      have d0 : decide (((64 : Nat) : Int) < 64) = false := by simp
      go_wp2_with fail
      refine (at_any es _ p wr (HV.out.gr hG) (by omega)).mono ?_
      rintro e w' ⟨r, rfl, hr, hw'⟩
      rw [hw']
      clear hw' w'
      have HIQ : Hid _ := info76p (mask := mask) (path := path) (taken := false) HQ.out.1 HQ.out.2.1
      rcases hr with rfl | ⟨n, hn, rfl⟩
      · have d1 : decide ((0 : Int) ≤ -1) = false := by simp
        have hRr := HR.out.2.2
        have hQr := HQ.out.2.2
        have HSZ : Hid ((proofC 0 (.slice none 0 0) false z0 z0).toArray.size = (proofC mask path false z0 z0).toArray.size) := by show _ = _; simp [proofC]
        have HNQ : Hid ((proofC mask path false z0 z0).toArray.all (·.oneCell') = true) := prf_one mask path false z0 z0 HS.out.one
        go_wp2_with (first | (refine wpList_load_row rfl 76 _ rfl B rfl 76 _ (0, 0) _ hQr Tryd.underlying76 rfl HIQ.out ?_) | (refine wpList_store_row rfl 76 _ _ rfl w.heap.size (proofC mask path false z0 z0).toArray rfl rfl 76 _ hRr HIQ.out HSZ.out HNQ.out ?_))
        refine bodyPost_ret (results_cell_row Tryd.results48 _ _ w.heap.size 76 _ (0, 0) _ rfl (setRow_heap _ _ _ _ 76 _ hRr) Tryd.underlying76 rfl HIQ.out) rfl ⟨mask, ps, path, false, z0, z0, HM.out, HQ.out.1, HQ.out.2.1, rfl, ?_, hps, gr_row hG _ _ (Nat.le_refl _)⟩
        exact HS.out.put hRr (fun j hj => setRow_other _ _ _ _ hj)
      · have d1 : (0 : Int) ≤ (n : Int) := by omega
        have d2 : (n : Int) < (es.length : Int) := by omega
        have HEN : Hid (∃ g o e, sp = some ⟨g, o, none⟩ ∧ EntOk e ∧ ∀ V : World, w.grownBy V none → V.cell? ⟨g, o + n * 3 + 1, none⟩ = some (.string (mkS e.k)) ∧ V.cell? ⟨g, o + n * 3 + 2, none⟩ = some (.string (mkS e.v))) := by
          obtain ⟨g, o, e, hsp, hek, hok, _, _, _, _⟩ := HV.out.at n hn
          refine ⟨g, o, e, hsp, hok, fun V hV => ?_⟩
          obtain ⟨g', o', e', hsp', hek', _, _, _, c1, c2⟩ := (HV.out.gr hV).at n hn
          obtain rfl : e = e' := Option.some.inj (hek.symm.trans hek')
          rw [hsp] at hsp'
          cases hsp'
          exact ⟨c1, c2⟩
        obtain ⟨g, o, e, rfl, hok, hcs⟩ := HEN.out
        have HCS : Hid (∀ V : World, w.grownBy V none → V.cell? ⟨g, o + n * 3 + 1, none⟩ = some (.string (mkS e.k)) ∧ V.cell? ⟨g, o + n * 3 + 2, none⟩ = some (.string (mkS e.v))) := hcs
        have ck := (HCS.out wr hG).1
        clear hcs HEN
        generalize eN : ((mkS e.k).toList == (mkS key).toList) = b
        cases b with
        | true =>
          have hRr := HR.out.2.2
          have hQr := HQ.out.2.2
          have HSZ : Hid ((proofC 0 (.slice none 0 0) false z0 z0).toArray.size = (proofC mask path false z0 z0).toArray.size) := by show _ = _; simp [proofC]
          have HNQ : Hid ((proofC mask path false z0 z0).toArray.all (·.oneCell') = true) := prf_one mask path false z0 z0 HS.out.one
          go_wp2_with (first | (refine wpList_load_row rfl 76 _ rfl B rfl 76 _ (0, 0) _ hQr Tryd.underlying76 rfl HIQ.out ?_) | (refine wpList_store_row rfl 76 _ _ rfl w.heap.size (proofC mask path false z0 z0).toArray rfl rfl 76 _ hRr HIQ.out HSZ.out HNQ.out ?_))
          refine bodyPost_ret (results_cell_row Tryd.results48 _ _ w.heap.size 76 _ (0, 0) _ rfl (setRow_heap _ _ _ _ 76 _ hRr) Tryd.underlying76 rfl HIQ.out) rfl ⟨mask, ps, path, false, z0, z0, HM.out, HQ.out.1, HQ.out.2.1, rfl, ?_, hps, gr_row hG _ _ (Nat.le_refl _)⟩
          exact HS.out.put hRr (fun j hj => setRow_other _ _ _ _ hj)
        | false =>
          have c2 := HQ.out.c2
          have f2 := HQ.out.fr 2
          have hoth : ∀ j, j ≠ B → (wr.setCell ⟨B, 2, none⟩ (.bool true)).heap[j]? = wr.heap[j]? := fun j hj => heap_setCell_other _ _ _ _ (by simpa using hj)
          have HQ2 : Hid (PrfAt (wr.setCell ⟨B, 2, none⟩ (.bool true)) B mask path true z0 z0) := HQ.out.taken true
          have HR2 : Hid (PrfAt (wr.setCell ⟨B, 2, none⟩ (.bool true)) w.heap.size 0 (.slice none 0 0) false z0 z0) := HR.out.put (hoth _ (by omega))
          have HS2 : Hid (SumsOwn (wr.setCell ⟨B, 2, none⟩ (.bool true)) w.heap.size path ps) := HS.out.put HQ.out.2.2 hoth
          have hG2 := gr_at hG (by omega : w.heap.size ≤ B) 2 (.bool true)
          have ck2 := (HCS.out _ hG2).1
          clear hoth HIQ
          go_wp2_with fail
          generalize wr.setCell ⟨B, 2, none⟩ (.bool true) = V2 at HQ2 HR2 HS2 hG2 ck2 ⊢
          clear c2 f2 HQ HR HS ck hG
          refine (of_any H e.k V2 (RefAt.gr HH.out hHs hG2) (by have := hG2.size; omega) (by have := hok.2.1; omega)).mono ?_
          rintro e' w3 ⟨rfl, hG3⟩
          have hxl := length_sha e.k
          generalize sha e.k = x at hxl ⊢
          obtain ⟨HIx, HOx, HNx⟩ := sum25 x hxl
          have hG03 := gr_trans hG2 hG3
          have HQ3 : Hid (PrfAt w3 B mask path true z0 z0) := HQ2.out.gr hG3
          have HTH : Hid (w3.there B 3 (x.map ub).toArray.size) := by
            show World.there _ _ _ _
            have := HQ3.out.there 3 (by omega)
            simpa [hxl] using this
          have hoth : ∀ j, j ≠ B → (w3.setCells B 3 (x.map ub)).heap[j]? = w3.heap[j]? := fun j hj => heap_setCells_other B _ _ _ j hj
          have HQ4 : Hid (PrfAt (w3.setCells B 3 (x.map ub)) B mask path true x z0) := HQ3.out.key x hxl
          have HR4 : Hid (PrfAt (w3.setCells B 3 (x.map ub)) w.heap.size 0 (.slice none 0 0) false z0 z0) := (HR2.out.gr hG3).put (hoth _ (by omega))
          have HS4 : Hid (SumsOwn (w3.setCells B 3 (x.map ub)) w.heap.size path ps) := (HS2.out.gr hG3).put HQ3.out.2.2 hoth
          have hG4 : w.grownBy (w3.setCells B 3 (x.map ub)) none := gr_sets (by omega) _ _ _ hG03
          have cv4 := (HCS.out _ hG4).2
          clear hoth HQ2 HR2 HS2 hG2 hG3 hG03 ck2
          go_wp2_with (first | (refine wpList_store_mid rfl 25 _ _ rfl B 3 (x.map ub).toArray rfl rfl HTH.out HIx.out HNx.out ?_))
          generalize w3.setCells B 3 (x.map ub) = V4 at HQ4 HR4 HS4 hG4 cv4 ⊢
          refine (of_any H e.v V4 (RefAt.gr HH.out hHs hG4) (by have := hG4.size; omega) (by have := hok.2.2; omega)).mono ?_
          rintro e' w5 ⟨rfl, hG5⟩
          have hyl := length_sha e.v
          generalize sha e.v = y at hyl ⊢
          obtain ⟨HIy, HOy, HNy⟩ := sum25 y hyl
          have hG05 := gr_trans hG4 hG5
          have HQ5 : Hid (PrfAt w5 B mask path true x z0) := HQ4.out.gr hG5
          have HTH5 : Hid (w5.there B 35 (y.map ub).toArray.size) := by
            show World.there _ _ _ _
            have := HQ5.out.there 35 (by omega)
            simpa [hyl] using this
          have hoth : ∀ j, j ≠ B → (w5.setCells B 35 (y.map ub)).heap[j]? = w5.heap[j]? := fun j hj => heap_setCells_other B _ _ _ j hj
          have HQ6 : Hid (PrfAt (w5.setCells B 35 (y.map ub)) B mask path true x y) := HQ5.out.val y hyl
          have HR6 : Hid (PrfAt (w5.setCells B 35 (y.map ub)) w.heap.size 0 (.slice none 0 0) false z0 z0) := (HR4.out.gr hG5).put (hoth _ (by omega))
          have HS6 : Hid (SumsOwn (w5.setCells B 35 (y.map ub)) w.heap.size path ps) := (HS4.out.gr hG5).put HQ5.out.2.2 hoth
          have hG6 : w.grownBy (w5.setCells B 35 (y.map ub)) none := gr_sets (by omega) _ _ _ hG05
          have HIQ : Hid _ := info76p (mask := mask) (path := path) (taken := true) hxl hyl
          have HSZ : Hid ((proofC 0 (.slice none 0 0) false z0 z0).toArray.size = (proofC mask path true x y).toArray.size) := by show _ = _; simp [proofC, hxl, hyl, HR6.out.1]
          have HNQ : Hid ((proofC mask path true x y).toArray.all (·.oneCell') = true) := prf_one mask path true x y HS6.out.one
          have hQr := HQ6.out.2.2
          have hRr := HR6.out.2.2
          clear hoth HQ4 HR4 HS4 hG4 hG5 hG05 cv4 HTH HQ3
          go_wp2_with (first | (refine wpList_store_mid rfl 25 _ _ rfl B 35 (y.map ub).toArray rfl rfl HTH5.out HIy.out HNy.out ?_) | (refine wpList_load_row rfl 76 _ rfl B rfl 76 _ (0, 0) _ hQr Tryd.underlying76 rfl HIQ.out ?_) | (refine wpList_store_row rfl 76 _ _ rfl w.heap.size (proofC mask path true x y).toArray rfl rfl 76 _ hRr HIQ.out HSZ.out HNQ.out ?_))
          refine bodyPost_ret (results_cell_row Tryd.results48 _ _ w.heap.size 76 _ (0, 0) _ rfl (setRow_heap _ _ _ _ 76 _ hRr) Tryd.underlying76 rfl HIQ.out) rfl ⟨mask, ps, path, true, x, y, HM.out, hxl, hyl, rfl, ?_, hps, gr_row hG6 _ _ (Nat.le_refl _)⟩
          exact HS6.out.put hRr (fun j hj => setRow_other _ _ _ _ hj)
end Go.Proofs.YtplhlhjakapaaaaDoor
