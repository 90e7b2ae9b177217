/-
  rootslaw.Holds: true of all arguments.
-/
import Derived.Test.YtplhlhjakapaaaaDoorHoldsW
import Derived.Deep.DeepCutAuto
namespace Go.Proofs.YtplhlhjakapaaaaDoor
open Go Go.RowKit

set_option maxHeartbeats 8000000 in
set_option maxRecDepth 1000000 in
theorem holds_any (l : List (List UInt8)) (v : Value) (key other : List UInt8) (present : Bool) (value : List UInt8) (how k b : Int) (w : World) (hw : 1 < w.heap.size) (hT : Tab w) (hv : StrsIs w v l) (hl : l.length < 140737488355328) (hs : ∀ s ∈ l, s.length < 140737488355328)
    (hkl : key.length < 140737488355328) (hol : other.length < 140737488355328) (hvl : value.length < 140737488355328) (hhow : In64 how) (hk : In64 k) (hb : In64 b) :
    Calls Tryd.prog 13 #[v, .string (mkS key), .string (mkS other), .bool present, .string (mkS value), .int .i64 how, .int .i64 k, .int .i64 b] w fun e w' => e = .returned (.bool true) ∧ w.grownBy w' none := by
  have HV : Hid (StrsIs w v l) := hv
  have HT : Hid (Tab w) := hT
  have HS : Hid (∀ s ∈ l, s.length < 140737488355328) := hs
  have HK : Hid (In64 how ∧ In64 k ∧ In64 b) := ⟨hhow, hk, hb⟩
  obtain ⟨sp, cap, rfl, hcap, hsp⟩ := hv
  clear hT hs hsp hhow hk hb
  have hsz := size_mkS
  go_enter Tryd.func13, Tryd.ntmps13
  go_wp2_with fail
  refine (size_lt l _ w HV.out hl HS.out).mono ?_
  rintro e w' ⟨z, rfl, hz, hzb, hww⟩
  rw [hww]; clear hww w'
  have HZ : Hid (z ≤ 16384 → bulkL l ≤ 16384) := hz
  clear hz
  by_cases c1 : 16384 < z + key.length + other.length + value.length
  · have d1 : decide ((z : Int) + (key.length : Int) + (other.length : Int) + (value.length : Int) > 16384) = true := by simp; omega
    go_wp2
    go_ret
    exact ⟨rfl, gr_refl _⟩
  have d1 : decide ((z : Int) + (key.length : Int) + (other.length : Int) + (value.length : Int) > 16384) = false := by simp; omega
  have d1' : decide (z + key.length + other.length + value.length > 16384) = false := by simp; omega
  obtain ⟨hbl, hbs⟩ := bulk_mem (HZ.out (by omega))
  have HBS : Hid (∀ s ∈ l, s.length ≤ 16384) := hbs
  have hk4 : key.length ≤ 16384 := by omega
  have ho4 : other.length ≤ 16384 := by omega
  have hv4 : value.length ≤ 16384 := by omega
  have hz4 : z ≤ 16384 := by omega
  clear HZ HS hbs hl hkl hol hvl hzb
  go_wp2_with fail
  refine (new_full w).mono ?_
  rintro e w1 ⟨H, rfl, hR, hH, hG1, hE⟩
  have HR : Hid (RefAt w1 H) := hR
  have HE : Hid (EmptyAt w1 H) := hE
  clear hR hE d1 d1' c1
  go_wp2
  go_loopw [19, 20] (fun m i wr => ∃ (n : Nat) (es : List Ent), n ≤ l.length + 1 ∧ i = .int .i64 (n : Int) ∧ Hid (EntsIs wr m es) ∧ es.length ≤ n ∧ w1.grownBy wr none)
    (fun _ i _ => l.length + 2 - (intOf i).toNat)
  case atStart => exact ⟨0, [], by omega, rfl, (EntsOwn.nil w1 0).is, by simp, gr_refl _⟩
  case round =>
    obtain ⟨n, es, hn, rfl, HM, hes, hG⟩ := hrel
    have hn5 : n ≤ 20000 := by omega
    by_cases hlt : n + 1 < l.length
    · have t0 : decide ((n : Int) + 1 < (l.length : Int)) = true := by simp; omega
      have t1 : (n : Int) < (l.length : Int) := by omega
      have t2 : (n : Int) + 1 < (l.length : Int) := by omega
      obtain ⟨_, _, hv', hcap', hsp'⟩ := HV.out.gr (gr_trans hG1 hG)
      cases hv'
      obtain ⟨g, o, rfl, hg, hcl⟩ := hsp' (by omega)
      have hk1 : n < l.length := by omega
      have e1 : wr.cell? ⟨g, o + n, none⟩ = some (.string (mkS l[n])) := hcl n _ (by simp)
      have wn : IntKind.i64.wrap ((n : Int) + 1) = (n : Int) + 1 := by rw [IntKind.wrap_i64]; omega
      have e2 : wr.cell? ⟨g, o + (n + 1), none⟩ = some (.string (mkS l[n + 1])) := hcl (n + 1) _ (by simp)
      have t3 : (0 : Int) ≤ (n : Int) + 1 := by omega
      have hx := HBS.out l[n] (by simp)
      have hy := HBS.out l[n + 1] (by simp)
      clear hcl hsp'
      generalize l[n] = x at *
      generalize l[n + 1] = y at *
      go_wp2
      refine wp_region_still_tail 11 (by kernel_rfl) (by decide +kernel) ?_
      simp only [List.take_succ_cons, List.take_zero, List.drop_succ_cons, List.drop_zero]
      iterate 11 still_step
      refine wpStill_nil ?_
      have hGd : w1.grownBy wr.drew none := gr_drew hG
      have HMd : Hid (EntsIs wr.drew u19 es) := HM.out.gr (gr_drew (gr_refl _))
      clear e1 e2 hG HM
      go_wp2_with fail
      refine (with_any H es _ x y wr.drew (RefAt.gr HR.out hH hGd) (by have := hGd.size; omega) HMd.out (by omega) (by omega) (by omega)).mono ?_
      rintro e w2 ⟨v2, es2, rfl, hO2, hl2, hG2⟩
      have HM2 : Hid (EntsIs w2 v2 es2) := hO2.is
      have hG12 := gr_trans hGd hG2
      clear hO2 HMd
      go_wp2
      exact ⟨⟨n + 2, es2, by omega, by go_num, HM2, by omega, hG12⟩, by simp [intOf]; omega⟩
    · have t0 : decide ((n : Int) + 1 < (l.length : Int)) = false := by simp; omega
      have hes5 : es.length ≤ 20000 := by omega
      have hR1 : Hid (RefAt wr H) := RefAt.gr HR.out hH hG
      clear HV HBS hlt hn
      go_wp2_with fail
      refine (prove_any H es _ key wr hR1.out (HE.out.gr hG) (by have := hG.size; omega) HM.out (by omega) (by omega)).mono ?_
      rintro e w2 ⟨mask, ps, path, taken, pk, pv, hm, hpk, hpv, rfl, hO, hpl, hG2⟩
      have HMK : Hid (mask < 18446744073709551616) := hm
      have HO : Hid (SumsOwn w2 wr.heap.size path ps) := hO
      have HI : Hid _ := info76p (mask := mask) (path := path) (taken := taken) hpk hpv
      have HN : Hid ((proofC mask path taken pk pv).toArray.all (·.oneCell') = true) := prf_one mask path taken pk pv hO.one
      have HZ : Hid (Tryd.zeroCells76.size = (proofC mask path taken pk pv).toArray.size) := by show _ = _; rw [zero76]; simp [proofC, hpk, hpv]
      have hG12 := gr_trans hG hG2
      have HM2 : Hid (EntsIs w2 u19 es) := HM.out.gr hG2
      have hB1 : w1.heap.size ≤ w2.heap.size := hG12.size
      clear hm hO hR1 HM hG2 hG t0
      go_wp2_with (first | (refine store_new rfl 76 _ _ rfl (proofC mask path taken pk pv).toArray _ _ rfl rfl HI.out HZ.out HN.out ?_; intro W3 hW3 hs3 hG3))
      have HP3 : Hid (PrfAt W3 w2.heap.size mask path taken pk pv) := ⟨hpk, hpv, hW3⟩
      have hG13 := gr_trans hG12 hG3
      have HO3 : Hid (SumsOwn W3 wr.heap.size path ps) := HO.out.gr hG3
      have HM3 : Hid (EntsIs W3 u19 es) := HM2.out.gr hG3
      have hB3 : w2.heap.size < W3.heap.size := by omega
      clear HI HN HZ HO HM2 hG12 hW3 hs3 hG3 hpk hpv
      generalize w2.heap.size = B at *
      refine (mroot_any H 64 (by omega) es _ W3 (RefAt.gr HR.out hH hG13) (HE.out.gr hG13) (by have := hG13.size; omega) HM3.out (by omega)).mono ?_
      rintro e w4 ⟨r, hrl, rfl, hG4⟩
      obtain ⟨HIr, HOr, HNr⟩ := sum25 r hrl
      have HP4 : Hid (PrfAt w4 B mask path taken pk pv) := HP3.out.gr hG4
      have HO4 : Hid (SumsOwn w4 wr.heap.size path ps) := HO3.out.gr hG4
      have hG14 := gr_trans hG13 hG4
      have hB4 : B < w4.heap.size := HP4.out.lt
      clear HP3 HO3 HM3 hG13 hG4 hB3
      go_upto_region 12 with (first | (refine store_new rfl 25 _ _ rfl (r.map ub).toArray _ _ rfl rfl HIr.out HOr.out HNr.out ?_; intro W5 hW5 hs5 hG5))
      have HP5 : Hid (PrfAt W5 B mask path taken pk pv) := HP4.out.gr hG5
      have HO5 : Hid (SumsOwn W5 wr.heap.size path ps) := HO4.out.gr hG5
      have hG15 := gr_trans hG14 hG5
      have HR5 : Hid (W5.heap[w4.heap.size]? = some (.cells (r.map ub).toArray 25 (0, 0))) := hW5
      clear HP4 HO4 hG14 hG5 hW5 HIr HOr HNr
      generalize w4.heap.size = R at *
      simp only [Act.put]
      go_cut [] (fun wc => PrfRoot w1 wc B R)
      case first =>
        have c1 := HP5.out.c1
        go_wp2_with fail
        refine (bent_far ps wr.heap.size path how k b W5 HO5.out (by omega) HK.out.1.1 HK.out.1.2 HK.out.2.1.1 HK.out.2.1.2 HK.out.2.2.1 HK.out.2.2.2).mono ?_
        rintro e w6 ⟨qs, v6, rfl, hF6, hq6, hG6⟩
        have hG16 := gr_trans hG15 hG6
        have HP6 : Hid (PrfAt w6 B mask path taken pk pv) := HP5.out.gr hG6
        have hR6 : Hid (w6.heap[R]? = some (.cells (r.map ub).toArray 25 (0, 0))) := (hG6.block R (Array.getElem?_eq_some_iff.1 HR5.out).1 (by simp)).trans HR5.out
        rw [hs5] at hF6
        have HF6 : Hid (SumsFar w6 (R + 1) v6 qs) := hF6
        clear c1 hG6 HO5 HP5 HR5
        obtain ⟨_, sq, cq, rfl, _, _⟩ := hF6
        have c1 := HP6.out.c1
        have f1 := HP6.out.fr 1
        have hoth : ∀ j, j ≠ B → (w6.setCell ⟨B, 1, none⟩ (.slice sq qs.length cq)).heap[j]? = w6.heap[j]? := fun j hj => heap_setCell_other _ _ _ _ (by simpa using hj)
        obtain ⟨q1, q2⟩ := far_B hB4 (by simp) hoth hR6.out HF6.out
        have q3 := HP6.out.path (.slice sq qs.length cq)
        have q4 := gr_at hG16 hB1 1 (.slice sq qs.length cq)
        have HALL : Hid (PrfRoot w1 (w6.setCell ⟨B, 1, none⟩ (.slice sq qs.length cq)) B R) := ⟨mask, qs, _, taken, pk, pv, r, HMK.out, hrl, q3, q1, q2, by omega, q4⟩
        clear hoth q1 q2 q3 q4 HF6 hR6 hG16
        go_wp2
        go_meet
        exact HALL.out
      case rest =>
        have HC : Hid (PrfRoot w1 wc B R) := hcut
        clear hcut HP5 HO5 HR5 hG15 HMK hpl hrl
        rename_i hKK
        refine hKK _ _ ?_
        clear hKK
        refine wp_seq_k fun K2 hK2 => ?_
        generalize wc = V0 at HC ⊢
        go_cut [] (fun wc => PrfRoot w1 wc B R)
        case first =>
          clear hK2 K2
          go_wp2_with fail
          refine (pick_any k 8 (by omega) (by omega) HK.out.2.1.1 HK.out.2.1.2 _).mono ?_
          rintro e w' ⟨p8, rfl, hp8, hww⟩
          rw [hww]; clear hww w'
          obtain ⟨mask, qs, path, taken, pk, pv, r, hm, hrl, hP, hRr, hF, hql, hG⟩ := HC.out
          have HMK : Hid (mask < 18446744073709551616) := hm
          have HP : Hid (PrfAt V0 B mask path taken pk pv) := hP
          have HRr : Hid (V0.heap[R]? = some (.cells (r.map ub).toArray 25 (0, 0))) := hRr
          have HF : Hid (SumsFar V0 (R + 1) path qs) := hF
          clear hm hP hRr hF
          have h8 : p8 = 0 ∨ p8 = 1 ∨ p8 = 3 ∨ (p8 = 6 ∨ p8 = 7) ∨ (p8 = 2 ∨ p8 = 4 ∨ p8 = 5) := by omega
          rcases h8 with rfl | rfl | rfl | h8 | h8
          · go_upto_region 15 with fail
            have HG : Hid (w1.grownBy V0 none) := hG
            have hc0 : V0.drew.cell? ⟨B, 0, none⟩ = some (.int .u64 (mask : Int)) := HP.out.c0
            clear hG
            refine wp_region_noPanic ?_
            refine wp_region_T (last := 8) (S := fun w' => w'.cell? ⟨B, 0, none⟩ = some (.int .u64 (mask : Int))) (by kernel_rfl) hc0 (fun hHeld => ?_)
            refine wpAnyT_take (i := 0) (oi := { dst := some 80, op := Op.fieldAddr 76 (Operand.tmp 21) 0, type := 0, pos := "calls.go:197", after := #[], guard := none }) (v := ?_) rfl (by kernel_rfl) (by kernel_rfl) (by kernel_rfl) (fun _ _ _ h => h) (by kernel_rfl) (Or.inl ⟨by rfl, ?_⟩) (by assumption) ?_
            rotate_left
            · intro w' hSw
              try dsimp only at hSw
              go_simp
              try with_reducible rfl
            simp only [Act.put, List.setIfInBounds_toArray, List.set_cons_zero, List.set_cons_succ]
            refine wpAnyT_take (i := 1) (oi := { dst := some 81, op := Op.load 74 (Operand.tmp 80), type := 74, pos := "calls.go:197", after := #[{ on := 0, ground := Ground.data }], guard := none }) (v := ?_) rfl (by kernel_rfl) (by kernel_rfl) (by kernel_rfl) (fun _ _ _ h => h) (by kernel_rfl) (Or.inl ⟨by rfl, ?_⟩) (by assumption) ?_
            rotate_left
            · intro w' hSw
              try dsimp only at hSw
              go_simp
              try with_reducible rfl
            simp only [Act.put, List.setIfInBounds_toArray, List.set_cons_zero, List.set_cons_succ]
            refine wpAnyT_take (i := 2) (oi := { dst := some 82, op := Op.move (Operand.tmp 7), type := 3, pos := "calls.go:197", after := #[], guard := none }) (v := ?_) rfl (by kernel_rfl) (by kernel_rfl) (by kernel_rfl) (fun _ _ _ h => h) (by kernel_rfl) (Or.inl ⟨by rfl, ?_⟩) (by assumption) ?_
            rotate_left
            · intro w' hSw
              try dsimp only at hSw
              go_simp
              try with_reducible rfl
            simp only [Act.put, List.setIfInBounds_toArray, List.set_cons_zero, List.set_cons_succ]
            refine wpAnyT_one (i := 3) (o := { dst := some 83, op := Op.call { callee := Callee.value (Operand.func 28), args := #[Operand.tmp 82, Operand.const (Value.int IntKind.i64 64)], argTypes := #[3, 3] }, type := 3, pos := "calls.go:197", after := #[{ on := 2, ground := Ground.data }], guard := none }) rfl (by kernel_rfl) (fun K hK => ?_)
            go_simp
            refine (pick_any b 64 (by omega) (by omega) HK.out.2.2.1 HK.out.2.2.2 _).mono ?_
            rintro e w' ⟨p, rfl, hp, hww⟩
            rw [hww]; clear hww w'
            refine hK.out _ _ (fun _ => hHeld) (fun _ => ?_)
            clear hK K
            try simp only [Act.put, List.setIfInBounds_toArray, List.set_cons_zero, List.set_cons_succ]
            obtain ⟨m', hm', hmb⟩ := u64_bits .xor (mask : Int) (IntKind.u64.wrap (2 ^ p))
            have HM' : Hid (m' < 18446744073709551616) := hm'
            have wp1 : IntKind.u64.wrap (p : Int) = (p : Int) := by rw [IntKind.wrap_u64]; omega
            clear hm'
            refine wpAnyT_one (i := 4) (o := { dst := some 84, op := Op.convert 3 79 (Operand.tmp 83), type := 79, pos := "calls.go:197", after := #[{ on := 3, ground := Ground.data }], guard := none }) rfl (by kernel_rfl) (fun K hK => ?_)
            go_simp
            refine hK.out _ _ (fun _ => hHeld) (fun _ => ?_)
            clear hK K
            try simp only [Act.put, List.setIfInBounds_toArray, List.set_cons_zero, List.set_cons_succ]
            refine wpAnyT_one (i := 5) (o := { dst := some 85, op := Op.binOp BinOp.shl 74 (Operand.const (Value.int IntKind.u64 1)) (Operand.tmp 84) 79, type := 74, pos := "calls.go:197", after := #[{ on := 4, ground := Ground.data }], guard := none }) rfl (by kernel_rfl) (fun K hK => ?_)
            go_simp
            refine hK.out _ _ (fun _ => hHeld) (fun _ => ?_)
            clear hK K
            try simp only [Act.put, List.setIfInBounds_toArray, List.set_cons_zero, List.set_cons_succ]
            refine wpAnyT_one (i := 6) (o := { dst := some 86, op := Op.binOp BinOp.xor 74 (Operand.tmp 81) (Operand.tmp 85) 74, type := 74, pos := "calls.go:197", after := #[{ on := 1, ground := Ground.data }, { on := 5, ground := Ground.data }], guard := none }) rfl (by kernel_rfl) (fun K hK => ?_)
            go_simp
            try rw [hmb]
            refine hK.out _ _ (fun _ => hHeld) (fun _ => ?_)
            clear hK K hmb
            try simp only [Act.put, List.setIfInBounds_toArray, List.set_cons_zero, List.set_cons_succ]
            refine wpAnyT_one (i := 7) (o := { dst := some 87, op := Op.fieldAddr 76 (Operand.tmp 21) 0, type := 0, pos := "calls.go:197", after := #[{ on := 0, ground := Ground.phase }, { on := 1, ground := Ground.phase }, { on := 2, ground := Ground.phase }, { on := 3, ground := Ground.phase }, { on := 4, ground := Ground.phase }, { on := 5, ground := Ground.phase }, { on := 6, ground := Ground.phase }], guard := none }) rfl (by kernel_rfl) (fun K hK => ?_)
            go_simp
            refine hK.out _ _ (fun _ => hHeld) (fun _ => ?_)
            clear hK K
            try simp only [Act.put, List.setIfInBounds_toArray, List.set_cons_zero, List.set_cons_succ]
            have f0 : V0.drew.frozen? ⟨B, 0, none⟩ = false := HP.out.fr 0
            have hGd := gr_drew HG.out
            have hoth : ∀ j, j ≠ B → (V0.drew.setCell ⟨B, 0, none⟩ (.int .u64 (m' : Int))).heap[j]? = V0.heap[j]? := fun j hj => heap_setCell_other _ _ _ _ (by simpa using hj)
            obtain ⟨q1, q2⟩ := far_B hB4 (by simp) hoth HRr.out HF.out
            have q3 := (HP.out.gr (gr_drew (gr_refl _))).mask m'
            have q4 := gr_at hGd hB1 0 (.int .u64 (m' : Int))
            have HALL : Hid (PrfRoot w1 (V0.drew.setCell ⟨B, 0, none⟩ (.int .u64 (m' : Int))) B R) := ⟨m', qs, _, _, pk, pv, r, HM'.out, hrl, q3, q1, q2, hql, q4⟩
            clear hoth q1 q2 q3 q4 hGd
            refine wpAnyT_one (i := 8) (o := { dst := none, op := Op.store 74 (Operand.tmp 87) (Operand.tmp 86), type := 0, pos := "calls.go:197", after := #[{ on := 7, ground := Ground.data }, { on := 6, ground := Ground.data }, { on := 3, ground := Ground.chain }, { on := 0, ground := Ground.phase }, { on := 1, ground := Ground.phase }, { on := 2, ground := Ground.phase }, { on := 3, ground := Ground.phase }, { on := 4, ground := Ground.phase }, { on := 5, ground := Ground.phase }, { on := 6, ground := Ground.phase }], guard := none }) rfl (by kernel_rfl) (fun K hK => ?_)
            go_simp
            refine hK.out _ _ (fun h => absurd rfl h) (fun _ => ?_)
            clear hK K hHeld hc0
            try simp only [Act.put, List.setIfInBounds_toArray, List.set_cons_zero, List.set_cons_succ]
            refine wpAnyT_done (by kernel_rfl) ?_ _
            refine NoPanic.normal ?_
            go_wp2
            go_meet
            exact HALL.out
          · have c2 := HP.out.c2
            have f2 := HP.out.fr 2
            have hoth : ∀ j, j ≠ B → (V0.setCell ⟨B, 2, none⟩ (.bool !taken)).heap[j]? = V0.heap[j]? := fun j hj => heap_setCell_other _ _ _ _ (by simpa using hj)
            obtain ⟨q1, q2⟩ := far_B hB4 (by simp) hoth HRr.out HF.out
            have q3 := HP.out.taken !taken
            have q4 := gr_at hG hB1 2 (.bool !taken)
            have HALL : Hid (PrfRoot w1 (V0.setCell ⟨B, 2, none⟩ (.bool !taken)) B R) := ⟨mask, qs, _, _, pk, pv, r, HMK.out, hrl, q3, q1, q2, hql, q4⟩
            clear hoth q1 q2 q3 q4 hG
            go_wp2
            go_meet
            exact HALL.out
          · go_wp2_with fail
            refine (mark_any b V0).mono ?_
            rintro e w8 ⟨s, hsl, rfl, hG8⟩
            obtain ⟨HIs, HOs, HNs⟩ := sum25 s hsl
            have hR8 : w8.heap[R]? = some (.cells (r.map ub).toArray 25 (0, 0)) := (hG8.block R (Array.getElem?_eq_some_iff.1 HRr.out).1 (by simp)).trans HRr.out
            have HZs : Hid ((r.map ub).toArray.size = (s.map ub).toArray.size) := by show _ = _; simp [hrl, hsl]
            have HALL : Hid (PrfRoot w1 (w8.setRow R (s.map ub).toArray) B R) := ⟨mask, qs, path, taken, pk, pv, s, HMK.out, hsl, (HP.out.gr hG8).put (setRow_other _ _ _ _ (by omega)), setRow_heap _ _ _ _ 25 _ hR8, (HF.out.gr hG8).put (by omega : R < R + 1) (by simp) (fun j hj _ => setRow_other _ _ _ _ hj), hql, gr_row (gr_trans hG hG8) _ _ (by omega)⟩
            clear hG hG8
            go_wp2_with (first | (refine wpList_store_row rfl 25 _ _ rfl R (s.map ub).toArray rfl rfl 25 _ hR8 HIs.out HZs.out HNs.out ?_))
            go_meet
            exact HALL.out
          · have e0 : ((p8 : Int) == 0) = false := by rw [beq_eq_false_iff_ne]; omega
            have e1 : ((p8 : Int) == 1) = false := by rw [beq_eq_false_iff_ne]; omega
            have e2 : ((p8 : Int) == 2) = false := by rw [beq_eq_false_iff_ne]; omega
            have e3 : ((p8 : Int) == 3) = false := by rw [beq_eq_false_iff_ne]; omega
            have e4 : ((p8 : Int) == 4) = false := by rw [beq_eq_false_iff_ne]; omega
            have e5 : ((p8 : Int) == 5) = false := by rw [beq_eq_false_iff_ne]; omega
            clear h8
            go_wp2
            go_meet
            exact HC.out
          · have e0 : ((p8 : Int) == 0) = false := by rw [beq_eq_false_iff_ne]; omega
            have e1 : ((p8 : Int) == 1) = false := by rw [beq_eq_false_iff_ne]; omega
            go_upto_if 88 with fail
            refine wp_cond_false rfl ?_
            refine wp_seq_k fun K5 hK5 => ?_
            go_cut [94] (fun s94 wc => s94 = .bool true ∧ wc = V0)
            case first =>
              clear hK5 K5
              rcases h8 with rfl | rfl | rfl
              all_goals
                go_wp2
                go_meet
                exact ⟨rfl, rfl⟩
            case rest =>
            obtain ⟨rfl, hwc⟩ := hcut
            refine hK5 _ _ ?_
            rw [hwc]
            clear hwc wc
            clear hK5 K5 e0 e1 h8
            refine wp_cond_true rfl ?_
            refine holds_taken key other value present how k b w1 V0 H B R HR HE hH hk4 hv4 HK hB1 hB4 HC _ _ _ _ _ _ _ _ _ _ _ _ _ _ _ _ _ _ _ _ _ _ _ _ _ _ _ _ _ _ _ _ _ _ _ _ _ _ _ _ _ _ _ _ _ _ _ _ _ _ _ _ _ _ _ _ _ _ _ _ _ _ _ _ _ _ _ _ _ _ _ _ _ _ _ _ _ _ _ _ _ _ _ _ _ _ _ _ _ _ _ _ _ _ _ _ _ _ _ _ _ _ _ _ _ _ _ _ _ _ _ _ _ _ _ _ _ _ _ _ _ _ _ _ _ _ _ _ _ _ _ _ _ _ _ _ _ _ _ _ _ _ _ _ _ _ _ _ _ _ _ _ _ _ _ _ _ _ _ _ _ _ _ _ _ _ _ _ _ _ _ _ _ _ _ _ _ ?_
            show ∀ _, _
            intro x23 x24 x98 x99 x100 x101 x102 x103 x104 x105 x106 x107 x108 x109 x110 x111 x112 x113 x114 x115 x116 x117 x118 x119 x120 x121 x122 x123 x124 x125 x126 x127 x128 x129 x130 x131 x132 x133 x134 x135 x136 x137 x138 x139 x140 x141 x142 x143 V hV
            have HV : Hid (PrfRoot w1 V B R) := hV
            clear hV
            go_wp2
            go_meet
            exact HV.out
        case rest =>
          refine hK2 _ _ ?_
          exact holds_tail key other value present how k b w w1 wc H B R hw HT hG1 HR HE hH hk4 ho4 hv4 hcut _ _ _ _ _ _ _ _ _ _ _ _ _ _ _ _ _ _ _ _ _ _ _ _ _ _ _ _ _ _ _ _ _ _ _ _ _ _ _ _ _ _ _ _ _ _ _ _ _ _ _ _ _ _ _ _ _ _ _ _ _ _ _ _ _ _ _ _ _ _ _ _ _ _ _ _ _ _ _ _ _ _ _ _ _ _ _ _ _ _ _ _ _ _ _ _ _ _ _ _ _ _ _ _ _ _ _ _ _ _ _ _ _ _ _ _ _ _ _ _ _ _ _ _ _ _ _ _ _ _ _ _ _ _ _ _ _ _ _ _ _ _ _ _ _ _ _ _ _ _ _ _ _ _ _ _ _ _ _ _ _ _ _ _ _ _ _ _ _ _ _ _ _ _ _ _
end Go.Proofs.YtplhlhjakapaaaaDoor
