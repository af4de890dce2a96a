/- WardSays returns true, for all that comes in, and leaves it as it was. -/
import Derived.Test.YtklibmijiecbfaaGreatK18
import Derived.Test.YtklibmijiecbfaaGreatK5
import Derived.Test.YtklibmijiecbfaaGreatK16
import Derived.Test.YtklibmijiecbfaaGreatK1
import Derived.ProofKit
import Derived.Carry
import Derived.OpenShut
import Derived.Deep.Slices
import Derived.Lib.SmallJoins
/- The document's PolicyFault. -/
namespace Go.Proofs.YtklibmijiecbfaaGreat
open Go.RowKit Go.Sort

theorem firstF_at {rs : List RL} {i f : Nat} (h : firstF ((rs.take i).map ruleF) = f) (hf : f ≠ 0) : firstF (rs.map ruleF) = f := by
  rw [← List.take_append_drop i rs, List.map_append, firstF_append, if_neg (by rw [h]; exact hf), h]
theorem firstC_at {cs : List CD} {k i f : Nat} (h : firstF ((cs.take i).map (condF k)) = f) (hf : f ≠ 0) : firstF (cs.map (condF k)) = f := by
  rw [← List.take_append_drop i cs, List.map_append, firstF_append, if_neg (by rw [h]; exact hf), h]

set_option maxHeartbeats 4000000 in
set_option maxRecDepth 100000 in
theorem dpolF_any (p : POL) (oa : Option Addr) (cap : Nat) (w : World) (h : IsPol oa cap p w) :
    Calls Tryz.prog 9 #[polV p oa cap] w fun e w' => e = .returned (.int .i64 (polF p)) ∧ Below w.heap.size w w' := by
  obtain ⟨n, hn⟩ : ∃ n, n = p.rules.length := ⟨_, rfl⟩
  have HC := hide (pol_parts h n hn)
  have hmax : n ≤ 9223372036854775807 := by have h1 := h.le; have h2 := h.cap; unfold maxLen at h2; omega
  clear h
  obtain ⟨rs, ⟨ak, ae⟩⟩ := p
  unfold polV
  simp only at HC hn ⊢
  rw [← hn]
  have hf0 : polF ⟨rs, ⟨ak, ae⟩⟩ = if 12 < n then 2 else if actF ⟨ak, ae⟩ = 0 then firstF (rs.map ruleF) else actF ⟨ak, ae⟩ := by rw [hn]; rfl
  obtain ⟨pf, hpf⟩ : ∃ x, x = polF ⟨rs, ⟨ak, ae⟩⟩ := ⟨_, rfl⟩
  rw [← hpf] at hf0 ⊢
  clear hpf
  by_cases h12 : 12 < n
  · have HF := hide (show (pf : Int) = 2 by rw [hf0, if_pos h12]; rfl)
    clear hf0 hn
    go_enter Tryz.func9, Tryz.ntmps9
    go_wp2
    go_ret
    exact ⟨by rw [HF.out]; rfl, box_below _ _⟩
  rw [if_neg h12] at hf0
  have HA := fun X => dactF_any ⟨ak, ae⟩ X
  obtain ⟨f0, hf⟩ : ∃ f, f = actF ⟨ak, ae⟩ := ⟨_, rfl⟩
  rw [← hf] at HA hf0
  have HF := hide hf0
  have HN := hide hn
  have HL := hide (show ∀ i, i < n → ∃ c, rs[i]? = some c ∧ rs.take (i + 1) = rs.take i ++ [c] from fun i h => take_next (by omega))
  clear hf0 hn hf
  unfold actV at HA
  simp only at HA
  obtain ⟨V, hV, hB, hsz, hx⟩ := one_box w #[.slice oa n cap, .int .i64 ak, .int .i64 ae] 26
  have x0 := hx 0
  simp only [List.getElem?_toArray, List.getElem?_cons_zero] at x0
  clear hx
  by_cases hz0 : f0 = 0
  case neg =>
    have p0 : (0 : Int) < f0 := by omega
    have HE := hide (show pf = f0 by rw [HF.out, if_neg hz0])
    clear HF
    go_enter Tryz.func9, Tryz.ntmps9
    go_wp2_with (go_at_call 22; refine (HA _).mono ?_; rintro e X ⟨rfl, hX⟩)
    go_ret
    exact ⟨by rw [HE.out]; rfl, below_next (box_below _ _) hX⟩
  subst hz0
  rw [if_pos rfl] at HF
  have hz : ((0 : Nat) : Int) = 0 := rfl
  rw [hz] at HA
  clear hz
  go_enter Tryz.func9, Tryz.ntmps9
  go_wp2_with (go_at_call 22; rw [← hV]; clear hV; refine (HA _).mono ?_; rintro e X ⟨rfl, hX⟩; have k0 := keep_cell hX x0)
  go_loopw [4] (fun I w' => ∃ i : Nat, i ≤ n ∧ I = .int .i64 i ∧ Hid (Below X.heap.size X w') ∧ Hid (firstF ((rs.take i).map ruleF) = 0)) (fun I _ => n - (intOf I).toNat)
  case atStart => exact ⟨0, by omega, rfl, hide (Below.refl _ _), hide rfl⟩
  case round =>
    obtain ⟨i, hi, rfl, HB, HG⟩ := hrel
    have HW := hide (below_next (below_next hB hX) HB.out)
    have g0 := keep_cell HB.out k0
    by_cases hlt : i < n
    · obtain ⟨c, hcs, hcat⟩ := HL.out i hlt
      obtain ⟨b, off, rfl, hbw, HA2⟩ := HC.out (by omega)
      obtain ⟨ca, cc, hR0⟩ := HA2.out i c hcs
      have hR := hR0.on hbw HW.out
      clear hR0
      obtain ⟨m, hm⟩ : ∃ m, m = c.conds.length := ⟨_, rfl⟩
      have hmm : m ≤ 9223372036854775807 := by have h1 := hR.le; have h2 := hR.cap; unfold maxLen at h2; omega
      have hq : firstF ((rs.take (i + 1)).map ruleF) = ruleF c := by rw [hcat, List.map_append, firstF_append, if_pos HG.out]; exact firstF_one _
      obtain ⟨W1, hW1, hW1b, _, hW1c⟩ := one_box wr #[.int .i64 c.nr, .slice ca m cc, .int .i64 c.act.kind, .int .i64 c.act.errno] 41
      have s0 := hW1c 0
      have s1 := hW1c 1
      have s2 := hW1c 2
      have s3 := hW1c 3
      simp only [List.getElem?_toArray, List.getElem?_cons_zero, List.getElem?_cons_succ] at s0 s1 s2 s3
      have HCC := hide (conds_parts (hR.conds.on hW1b) m hm)
      have HCL := hide (show ∀ j, j < m → ∃ x, c.conds[j]? = some x ∧ c.conds.take (j + 1) = c.conds.take j ++ [x] from fun j h => take_next (by omega))
      have HRF := hide (show ruleF c = if c.nr < 0 ∨ 8 < c.nr then 1 else if 4 < m then 2 else if firstF (c.conds.map (condF c.nr.toNat)) = 0 then actF c.act else firstF (c.conds.map (condF c.nr.toNat)) by rw [hm]; rfl)
      have HAC := fun X => dactF_any c.act X
      obtain ⟨p0, p1, p2, p3, _, _, _, _⟩ := hR
      rw [← hm] at p1
      have HM := hide hm
      have HQ := hide hq
      have lb : b < wr.heap.size := Nat.lt_of_lt_of_le hbw HW.out.size
      clear hm hq hcs hcat hW1c
      obtain ⟨nr, cs, ⟨rk, re⟩⟩ := c
      simp only at p0 p1 p2 p3 s0 s1 s2 s3 hW1 HCC HCL HRF HAC HM HQ
      unfold actV at HAC
      simp only at HAC
      by_cases hnr : nr < 0 ∨ 8 < nr
      · have HE := hide (show (pf : Int) = 1 by
          have h1 : ruleF ⟨nr, cs, ⟨rk, re⟩⟩ = 1 := by rw [HRF.out, if_pos hnr]
          rw [HF.out, firstF_at (HQ.out.trans h1) (by omega)]
          rfl)
        clear HRF HQ
        go_wp2
        all_goals first
          | omega
          | (go_ret
             exact ⟨by rw [HE.out]; rfl, below_next HW.out (box_below _ _)⟩)
      rw [if_neg hnr] at HRF
      obtain ⟨k, rfl⟩ : ∃ k : Nat, nr = k := ⟨nr.toNat, by omega⟩
      have hk8 : k < 9 := by omega
      rw [Int.toNat_natCast] at HRF
      have i1 : ¬ (k : Int) < 0 := by omega
      have i2 : ¬ 8 < (k : Int) := by omega
      clear hnr
      by_cases h4 : 4 < m
      · have HE := hide (show (pf : Int) = 2 by
          have h1 : ruleF ⟨(k : Int), cs, ⟨rk, re⟩⟩ = 2 := by rw [HRF.out, if_pos h4]
          rw [HF.out, firstF_at (HQ.out.trans h1) (by omega)]
          rfl)
        clear HRF HQ
        go_wp2
        go_ret
        exact ⟨by rw [HE.out]; rfl, below_next HW.out (box_below _ _)⟩
      rw [if_neg h4] at HRF
      go_wp2
      rw [← hW1]
      clear hW1 p0 p1 p2 p3
      go_loopw [6] (fun J w' => ∃ j : Nat, j ≤ m ∧ J = .int .i64 j ∧ Hid (Below W1.heap.size W1 w') ∧ Hid (firstF ((cs.take j).map (condF k)) = 0)) (fun J _ => m - (intOf J).toNat)
      case atStart => exact ⟨0, by omega, rfl, hide (Below.refl _ _), hide rfl⟩
      case round =>
        obtain ⟨j, hj, rfl, HBJ, HGJ⟩ := hrel
        have t0 := keep_cell HBJ.out s0
        have t1 := keep_cell HBJ.out s1
        by_cases hjl : j < m
        · obtain ⟨x, hxs, hxcat⟩ := HCL.out j hjl
          obtain ⟨b3, off3, rfl, hbw3, HA3⟩ := HCC.out (by omega)
          have hX3 := (HA3.out j x hxs).on fun q => (bcell HBJ.out).1 b3 q hbw3
          have HFX := fun X => dcondF_any k hk8 x hX3.ok X
          have hqx : firstF ((cs.take (j + 1)).map (condF k)) = condF k x := by rw [hxcat, List.map_append, firstF_append, if_pos HGJ.out]; exact firstF_one _
          obtain ⟨fx, hfx⟩ : ∃ f, f = condF k x := ⟨_, rfl⟩
          rw [← hfx] at HFX hqx
          have HQX := hide hqx
          obtain ⟨g0', g1, g2, g3, g4, g5, g6, g7, g8, _⟩ := hX3
          clear hfx hxs hxcat hqx
          obtain ⟨arg, op, vv, mm, gl, ⟨ip, bb, lo, hh⟩⟩ := x
          unfold condV at HFX
          simp only at g0' g1 g2 g3 g4 g5 g6 g7 g8 HFX
          replace t0 := cell_regrown t0
          replace t1 := cell_regrown t1
          replace g0' := cell_regrown g0'
          replace g1 := cell_regrown g1
          replace g2 := cell_regrown g2
          replace g3 := cell_regrown g3
          replace g4 := cell_regrown g4
          replace g5 := cell_regrown g5
          replace g6 := cell_regrown g6
          replace g7 := cell_regrown g7
          replace g8 := cell_regrown g8
          have i3 : (0 : Int) ≤ j := by omega
          have i4 : (j : Int) < m := by omega
          have t1p := keep_cell HBJ.out s1
          go_wp2
          clear t1p
          have cF : ∀ d os, Calls Tryz.prog 23 #[.int .i64 k, .agg #[.int .i64 arg, .int .i64 op, .int .u64 vv, .int .u64 mm, .string gl, .int .u32 ip, .int .i64 bb, .int .i64 lo, .int .i64 hh]] (grow (redrawn wr d) os) fun e w'' => e = .returned (.int .i64 fx) ∧ ∃ p : Regrown, w'' = grow (redrawn wr p.d) p.os := fun d os => Calls.regrown_of (HFX _)
          clear HFX
          refine wp_region_quiet_below (by kernel_rfl) (by kernel_rfl) ?_
          by_cases hfx0 : fx = 0
          · subst hfx0
            repeat (go_big_quiet_step (first | (go_at_call 23; exact cF _ _)))
            refine wpQuiet_nil ?_
            intro _ hw'
            obtain ⟨⟨dq, osq⟩, hw''⟩ := hw'
            subst hw''
            clear cF t0 t1 g0' g1 g2 g3 g4 g5 g6 g7 g8
            go_wp2
            go_round
            case rel => exact ⟨j + 1, by omega, by go_num, hide (below_next HBJ.out (below_regrown _ _ _)), HQX⟩
            case measure => simp [intOf]; omega
          · have HE := hide (show pf = fx by
              have h1 : ruleF ⟨(k : Int), cs, ⟨rk, re⟩⟩ = fx := by rw [HRF.out, firstC_at HQX.out hfx0, if_neg hfx0]
              rw [HF.out, firstF_at (HQ.out.trans h1) hfx0])
            have pfx : (0 : Int) < fx := by omega
            repeat (go_big_quiet_step (first | (go_at_call 23; exact cF _ _)))
            refine wpQuiet_nil ?_
            intro _ hw'
            obtain ⟨⟨dq, osq⟩, hw''⟩ := hw'
            subst hw''
            clear cF t0 t1 g0' g1 g2 g3 g4 g5 g6 g7 g8
            go_wp2
            go_ret
            exact ⟨by rw [HE.out]; rfl, below_next HW.out (below_next hW1b (below_next HBJ.out (below_regrown _ _ _)))⟩
        · obtain rfl : j = m := by omega
          have HRA := hide (show ruleF ⟨(k : Int), cs, ⟨rk, re⟩⟩ = actF ⟨rk, re⟩ by
            have := HGJ.out
            rw [List.take_of_length_le (by rw [HM.out]; exact Nat.le_refl _)] at this
            rw [HRF.out, this, if_pos rfl])
          obtain ⟨fa, hfa⟩ : ∃ f, f = actF ⟨rk, re⟩ := ⟨_, rfl⟩
          rw [← hfa] at HRA HAC
          have t2 := keep_cell HBJ.out s2
          have t3 := keep_cell HBJ.out s3
          clear hfa
          by_cases hfa0 : fa = 0
          · subst hfa0
            have HQ2 := hide (HQ.out.trans HRA.out)
            have hz : ((0 : Nat) : Int) = 0 := rfl
            rw [hz] at HAC
            clear hz
            go_wp2_with (go_at_call 22; refine (HAC _).mono ?_; rintro e X2 ⟨rfl, hX2⟩)
            go_round
            case rel => exact ⟨i + 1, by omega, by go_num, hide (below_next HB.out (below_next hW1b (below_next HBJ.out hX2))), HQ2⟩
            case measure => simp [intOf]; omega
          · have HE := hide (show pf = fa by rw [HF.out, firstF_at (HQ.out.trans HRA.out) hfa0])
            have pfa : (0 : Int) < fa := by omega
            go_wp2_with (go_at_call 22; refine (HAC _).mono ?_; rintro e X2 ⟨rfl, hX2⟩)
            go_ret
            exact ⟨by rw [HE.out]; rfl, below_next HW.out (below_next hW1b (below_next HBJ.out hX2))⟩
    · obtain rfl : i = n := by omega
      have HE := hide (show (pf : Int) = 0 by
        have := HG.out
        rw [List.take_of_length_le (by rw [HN.out]; exact Nat.le_refl _)] at this
        rw [HF.out, this]
        rfl)
      go_wp2
      go_ret
      exact ⟨by rw [HE.out]; rfl, HW.out⟩
end Go.Proofs.YtklibmijiecbfaaGreat

/- WardSays, for any policy and acts. -/
namespace Go.Proofs.YtklibmijiecbfaaGreat
open Go.RowKit Mm

theorem light_few2 {p : POL} (h : lightB p = true) : p.rules.length ≤ 14 ∧ ∀ r ∈ p.rules, r.conds.length ≤ 6 := by
  unfold lightB at h
  rw [Bool.and_eq_true, decide_eq_true_eq, List.all_eq_true] at h
  refine ⟨h.1, fun r hr => ?_⟩
  have := h.2 r hr
  unfold lightR at this
  rw [Bool.and_eq_true, decide_eq_true_eq] at this
  exact this.1
theorem lightA_few {n : Nat} {L : Nat → AC} (h : Mm.lightR n L 60 = true) : n ≤ 60 ∧ ∀ i, i < n → (L i).s.size ≤ 200 := by
  unfold Mm.lightR at h
  rw [Bool.and_eq_true, decide_eq_true_eq, List.all_eq_true] at h
  exact ⟨by omega, fun i hi => by simpa using h.2 i (List.mem_range.2 hi)⟩
set_option maxHeartbeats 4000000 in
set_option maxRecDepth 20000 in
theorem wardSays_any (p : POL) (oa : Option Addr) (cap : Nat) (oc : Option Addr) (n cap2 : Nat) (hn : n ≤ 9223372036854775807) (L : Nat → AC) (w : World) (hp : IsPol oa cap p w) (hl : IsActs oc n L w) :
    Calls Tryz.prog 3 #[polV p oa cap, .slice oc n cap2] w fun e w' => e = .returned (.bool true) ∧ Below w.heap.size w w' := by
  obtain ⟨np, hnp⟩ : ∃ n, n = p.rules.length := ⟨_, rfl⟩
  obtain ⟨V, hV, hB, hsz, hx⟩ := one_box w #[.slice oa p.rules.length cap, .int .i64 p.els.kind, .int .i64 p.els.errno] 26
  have x0 := hx 0
  have x1 := hx 1
  have x2 := hx 2
  simp only [List.getElem?_toArray, List.getElem?_cons_zero, List.getElem?_cons_succ] at x0 x1 x2
  have HP := hide hp
  have HA := hide hl
  have HLT := fun W h => lightPol_any p oa cap W h
  have HPF := fun W h => dpolF_any p oa cap W h
  have HLA := fun W h => light_any oc n cap2 hn L 60 W h
  have HMD := fun W hpol hB => modelled_any p oa cap w.heap.size W hpol hB
  clear hx hp hl
  obtain ⟨lz, hlz⟩ : ∃ z, z = lightB p := ⟨_, rfl⟩
  rw [← hlz] at HLT
  have HLZ := hide hlz
  obtain ⟨la, hla⟩ : ∃ z, z = Mm.lightR n L 60 := ⟨_, rfl⟩
  rw [← hla] at HLA
  have HLAZ := hide hla
  clear hlz hla
  obtain ⟨ak, hak⟩ : ∃ x, x = p.els.kind := ⟨_, rfl⟩
  obtain ⟨ae, hae⟩ : ∃ x, x = p.els.errno := ⟨_, rfl⟩
  unfold polV at HLT HPF HMD ⊢
  rw [← hnp, ← hak, ← hae] at hV HLT HPF HMD ⊢
  rw [← hnp] at x0
  rw [← hak] at x1
  rw [← hae] at x2
  have HNP := hide (And.intro hnp (And.intro hak hae))
  clear hnp hak hae
  go_enter Tryz.func3, Tryz.ntmps3
  go_wp2_with fail
  rw [← hV]
  obtain ⟨b2, hb2⟩ : ∃ b, b = w.heap.size := ⟨_, rfl⟩
  rw [← hb2] at x0 x1 x2 ⊢
  have HB2 := hide hb2
  clear hV hb2
  refine (wards_any _).mono ?_
  rintro e W1 ⟨rfl, hb1⟩
  have HL1 := hide (show w.heap.size < W1.heap.size by have := hb1.size; omega)
  replace x0 := keep_cell hb1 x0
  replace x1 := keep_cell hb1 x1
  replace x2 := keep_cell hb1 x2
  have HB := hide (below_next hB hb1)
  clear hb1 hB hsz
  go_wp2_with fail
  refine (HLT _ (HP.out.on HB.out)).mono ?_
  rintro e W2 ⟨rfl, hb1⟩
  have HLB2 := hide (show w.heap.size < W2.heap.size from Nat.lt_of_lt_of_le HL1.out hb1.size)
  replace x0 := keep_cell hb1 x0
  replace x1 := keep_cell hb1 x1
  replace x2 := keep_cell hb1 x2
  replace HB := hide (below_next HB.out hb1)
  clear hb1 HLT
  cases lz with
  | false =>
    go_wp2
    go_ret
    exact ⟨rfl, HB.out⟩
  | true =>
    go_wp2_with fail
    refine (HLA _ (HA.out.on HB.out)).mono ?_
    rintro e W2' ⟨rfl, hw2⟩
    rw [hw2]
    clear hw2 W2' HLA
    cases la with
    | false =>
      go_wp2
      go_ret
      exact ⟨rfl, HB.out⟩
    | true =>
      have hfew := light_few2 HLZ.out.symm
      have HFA := hide (lightA_few HLAZ.out.symm)
      have HFEW := hide hfew.1
      have HFEWR := hide hfew.2
      have HOW := fun W h => own2_any p hfew.1 hfew.2 oa cap W h
      unfold polV at HOW
      rw [← HNP.out.1, ← HNP.out.2.1, ← HNP.out.2.2] at HOW
      clear hfew HLZ HLAZ
      go_wp2_with fail
      refine (HOW W2 (HP.out.on HB.out)).mono ?_
      rintro e W3 ⟨⟨ob, cb, rfl, hI3, hO3⟩, hb3⟩
      have HI3 := hide hI3
      have HO3 := hide hO3
      have HB3 := hide (below_next HB.out hb3)
      have HLB := hide (And.intro hb3.size HB.out.size)
      replace x0 := keep_cell hb3 x0
      replace x1 := keep_cell hb3 x1
      replace x2 := keep_cell hb3 x2
      have hbx := box_below W3 (.cells #[.slice ob np cb, .int .i64 ak, .int .i64 ae] 26)
      replace x0 := keep_cell hbx x0
      replace x1 := keep_cell hbx x1
      replace x2 := keep_cell hbx x2
      have y0 : (W3.alloc (.cells #[.slice ob np cb, .int .i64 ak, .int .i64 ae] 26)).cell? ⟨W3.heap.size, 0, none⟩ = some (.slice ob np cb) := cell_of_row _ _ 0 _ _ _ (heap_alloc_new W3 _)
      have y1 : (W3.alloc (.cells #[.slice ob np cb, .int .i64 ak, .int .i64 ae] 26)).cell? ⟨W3.heap.size, 1, none⟩ = some (.int .i64 ak) := cell_of_row _ _ 1 _ _ _ (heap_alloc_new W3 _)
      have y2 : (W3.alloc (.cells #[.slice ob np cb, .int .i64 ak, .int .i64 ae] 26)).cell? ⟨W3.heap.size, 2, none⟩ = some (.int .i64 ae) := cell_of_row _ _ 2 _ _ _ (heap_alloc_new W3 _)
      obtain ⟨W4, hW4⟩ : ∃ W4, W4 = W3.alloc (.cells #[.slice ob np cb, .int .i64 ak, .int .i64 ae] 26) := ⟨_, rfl⟩
      rw [← hW4] at x0 x1 x2 y0 y1 y2
      have HB4 := hide (show Below w.heap.size w W4 by rw [hW4]; exact below_next HB3.out hbx)
      have HB34 := hide (show Below W3.heap.size W3 W4 by rw [hW4]; exact hbx)
      have HI4 := hide (HI3.out.on HB34.out)
      have HS4 := hide (show W4.heap.size = W3.heap.size + 1 by rw [hW4, World.size_alloc])
      obtain ⟨b6, hb6⟩ : ∃ b, b = W3.heap.size := ⟨_, rfl⟩
      rw [← hb6] at y0 y1 y2
      have HB6 := hide hb6
      have HW4 := hide hW4
      clear hI3 hO3 hb3 hbx hW4 hb6 HOW
      go_wp2_with fail
      rw [← HW4.out, ← HB6.out]
      go_wp2_with fail
      by_cases hpf : polF p = 0
      · as_aux_lemma =>
        have HN := new_ok p hpf ob cb W4 HI4.out
        unfold polV at HN
        rw [← HNP.out.1, ← HNP.out.2.1, ← HNP.out.2.2] at HN
        rw [hpf] at HPF
        have HPQ := hide (And.intro hpf (pol_ok hpf HP.out.ok))
        clear hpf
        refine HN.mono ?_
        rintro e W5 ⟨g, gm, P, rfl, hN⟩
        have HNX := hide hN
        replace x0 := keep_cell hN.below x0
        replace x1 := keep_cell hN.below x1
        replace x2 := keep_cell hN.below x2
        replace y0 := keep_cell hN.below y0
        have HB5 := hide (below_next HB4.out hN.below)
        clear hN HN y1 y2
        go_wp2_with fail
        refine (HPF W5 (HP.out.on HB5.out)).mono ?_
        rintro e W6 ⟨rfl, hb6⟩
        replace x0 := keep_cell hb6 x0
        replace x1 := keep_cell hb6 x1
        replace x2 := keep_cell hb6 x2
        replace y0 := keep_cell hb6 y0
        have HB56 := hide hb6
        have HB36 := hide (below_next HB34.out (below_next HNX.out.below hb6))
        have HBw6 := hide (below_next HB5.out hb6)
        clear hb6 HPF
        obtain ⟨es, hes, hwr⟩ := WrX.start (T := W3.heap.size) HO3.out rfl HB36.out
        have HEL := hide (show es.length = np by rw [HNP.out.1, ← hes, List.length_map])
        have HWR := hide hwr
        have HFEW6 := hide (show ∀ e ∈ es, e.1.conds.length ≤ 6 from fun e he => HFEWR.out _ (by rw [← hes]; exact List.mem_map.2 ⟨e, he, rfl⟩))
        have HLOW := hide (show w.heap.size ≤ W2.heap.size ∧ W2.heap.size ≤ W3.heap.size ∧ b2 < W2.heap.size ∧ W3.heap.size ≤ b6 ∧ W3.heap.size ≤ W4.heap.size from ⟨HLB.out.2, HLB.out.1, by have := HB2.out; have := HLB2.out; omega, by rw [HB6.out]; exact Nat.le_refl _, by rw [HS4.out]; omega⟩)
        have hnp14 : np ≤ 14 := by have := HFEW.out; rw [HNP.out.1]; exact this
        clear hes hwr
        go_wp2_with fail
        go_loopw [10] (fun I w' => ∃ i : Nat, i ≤ np ∧ I = .int .i64 i ∧ Hid (WrX W2.heap.size W3.heap.size ob es W6 w')) (fun I _ => np - (intOf I).toNat)
        case atStart => exact ⟨0, by omega, rfl, HWR⟩
        case round =>
          clear HWR
          obtain ⟨i, hi, rfl, HW⟩ := hrel
          have c6 : wr.cell? ⟨b6, 0, none⟩ = some (.slice ob np cb) := (HW.out.cell HLOW.out.2.2.2.1 0).trans y0
          by_cases hlt : i < np
          · as_aux_lemma =>
            have hl : (i : Int) < np := by omega
            have k1 : (0 : Int) ≤ i := by omega
            obtain ⟨b, cur, hob, hb1, hb2, hrow, hsz, hcur⟩ := HW.out.rul (by rw [HEL.out]; omega)
            subst hob
            obtain ⟨e, hee⟩ : ∃ e, es[i]? = some e := ⟨_, List.getElem?_eq_getElem (by rw [HEL.out]; exact hlt)⟩
            have HEM := hide (List.mem_of_getElem? hee)
            obtain ⟨v0, s0⟩ : ∃ v0, wr.cell? ⟨b, i * 4, none⟩ = some v0 := ⟨cur[i * 4]'(by rw [HEL.out] at hsz; omega), by rw [cell_of_row _ _ _ _ _ _ hrow]; exact Array.getElem?_eq_getElem _⟩
            have f0 : wr.frozen? ⟨b, i * 4, none⟩ = false := frozen_of_row _ _ _ _ _ hrow
            have HW1 := hide (HW.out.nr i b (by rw [HEL.out]; exact hlt) rfl (.int .i64 77))
            have HLE := hide (And.intro hlt hee)
            obtain ⟨m, hm⟩ : ∃ m, m = e.1.conds.length := ⟨_, rfl⟩
            have hm6 : m ≤ 6 := by rw [hm]; exact HFEW6.out e HEM.out
            have HM := hide hm
            clear hrow hsz hcur hlt hee hb1 hb2 hm
            go_wp2_with fail
            go_loopw [11] (fun J w' => ∃ k : Nat, k ≤ m ∧ J = .int .i64 k ∧ Hid (WrX W2.heap.size W3.heap.size (some ⟨b, 0, none⟩) es W6 w')) (fun J _ => m - (intOf J).toNat)
            case atStart => exact ⟨0, by omega, rfl, HW1⟩
            case round =>
              clear HW1 HW
              obtain ⟨k, hk, rfl, HW⟩ := hrel
              obtain ⟨b', cur, hob, hb1, hb2, hrow, hsz, hcur⟩ := HW.out.rul (by rw [HEL.out]; have := HLE.out.1; omega)
              simp only [Option.some.injEq, Addr.mk.injEq] at hob
              obtain ⟨rfl, _⟩ := hob
              have c6 : wr.cell? ⟨b6, 0, none⟩ = some (.slice (some ⟨b, 0, none⟩) np cb) := (HW.out.cell HLOW.out.2.2.2.1 0).trans y0
              obtain ⟨bc, cc, hbc, _, _, _, hrc, hsc⟩ := HW.out.cds e HEM.out
              have s1 : wr.cell? ⟨b, i * 4 + 1, none⟩ = some (.slice (some ⟨bc, 0, none⟩) m e.2.2) := by rw [cell_of_row _ _ _ _ _ _ hrow, hcur i e HLE.out.2, hbc, HM.out]
              clear hrow hsz hcur hb1 hb2
              by_cases hkm : k < m
              · have hl2 : (k : Int) < m := by omega
                have k2 : (0 : Int) ≤ k := by omega
                obtain ⟨v2, s2⟩ : ∃ v2, wr.cell? ⟨bc, k * 9 + 1, none⟩ = some v2 := ⟨cc[k * 9 + 1]'(by rw [← HM.out] at hsc; omega), by rw [cell_of_row _ _ _ _ _ _ hrc]; exact Array.getElem?_eq_getElem _⟩
                have f2 : wr.frozen? ⟨bc, k * 9 + 1, none⟩ = false := frozen_of_row _ _ _ _ _ hrc
                have HW1 := hide (HW.out.op bc (k * 9 + 1) HEM.out hbc (.int .i64 77))
                clear hrc hsc hkm hbc
                go_wp2
                go_round
                case rel => exact ⟨k + 1, by omega, by go_num, HW1⟩
                case measure => simp [intOf]; omega
              · have hl2 : ¬ (k : Int) < m := by omega
                clear hrc hsc hkm hbc
                go_wp2
                go_round
                case rel => exact ⟨i + 1, by have := HLE.out.1; omega, by go_num, HW⟩
                case measure => simp [intOf]; have := HLE.out.1; omega
          · as_aux_lemma =>
            have hl : ¬ (i : Int) < np := by omega
            replace x0 : wr.cell? ⟨b2, 0, none⟩ = some (.slice oa np cap) := (cell_heap (HW.out.out b2 (.inl HLOW.out.2.2.1)) 0).trans x0
            replace x1 : wr.cell? ⟨b2, 1, none⟩ = some (.int .i64 ak) := (cell_heap (HW.out.out b2 (.inl HLOW.out.2.2.1)) 1).trans x1
            replace x2 : wr.cell? ⟨b2, 2, none⟩ = some (.int .i64 ae) := (cell_heap (HW.out.out b2 (.inl HLOW.out.2.2.1)) 2).trans x2
            have HBX := hide (HW.out.below HBw6.out HLOW.out.1)
            have HWX := hide (HW.out.ward HNX.out HLOW.out.2.2.2.2 HB56.out)
            have HSX := hide (show W5.heap.size ≤ wr.heap.size by rw [HW.out.fr.2.2.2]; exact HB56.out.size)
            go_wp2_with fail
            refine (HMD wr (fun U hU hs => HP.out.heap (fun k hk => (hU k hk).trans (HBX.out.block k hk)) hs) HBX.out.size).mono ?_
            rintro e Y ⟨rfl, hD, hbY⟩
            have HBW := hide (BW.start HNX.out HWX.out HSX.out HBX.out (by have := HLOW.out; omega) hD hbY)
            obtain ⟨gd, hgd⟩ : ∃ g, g = wr.heap.size + 1 := ⟨_, rfl⟩
            rw [← hgd] at HBW
            rw [← hgd]
            clear hgd hD hbY HBX HWX HSX HW c6 x0 x1 x2 y0 hlt HNX HBw6 HB36 HB56 HO3 HI3 HI4
            have HT0 := hide tie_new
            have hn60 := HFA.out.1
            obtain ⟨Q, hQ⟩ : ∃ Q : PV, Q = ⟨p, oa, cap, w.heap.size⟩ := ⟨_, rfl⟩
            rw [← hQ] at HBW
            clear hQ HMD
            go_wp2_with fail
            go_loopw [7, 13] (fun A I w' => ∃ (i g gm : Nat) (P : PV) (lv : Value) (s : WS) (sv : Nat → Value) (ld : Value) (d : DWS), i ≤ n ∧ A = .pointer (some ⟨g, 0, none⟩) ∧ I = .int .i64 i ∧ Hid (BW p w g gm P lv s (i * 100) gd Q sv ld d w') ∧ Hid (TieW s d)) (fun _ I _ => n - (intOf I).toNat)
            case atStart => exact ⟨0, g, gm, P, _, newS, _, _, newD, by omega, rfl, rfl, HBW, HT0⟩
            case round =>
              clear HBW HT0
              obtain ⟨i, g, gm, P, lv, s, sv, ld, d, hi, rfl, rfl, HBW, HT⟩ := hrel
              by_cases hlt : i < n
              · have hl : (i : Int) < n := by omega
                have k1 : (0 : Int) ≤ i := by omega
                obtain ⟨ba, off, hoc, hba, hacts⟩ := (HA.out.on HBW.out.below).lie (by omega)
                subst hoc
                obtain ⟨x, hx⟩ : ∃ x, x = L i := ⟨_, rfl⟩
                have hat := hacts i hlt
                have hxs := HFA.out.2 i hlt
                rw [← hx] at hat hxs
                have hxa := hat.aLt
                have hxc := hat.cOk
                have z0 := hat.k0
                have z1 := hat.k1
                have z2 := hat.k2
                have z3 := hat.k3
                have z4 := hat.k4
                have z5 := hat.k5
                have z6 := hat.k6
                have z7 := hat.k7
                have z8 := hat.k8
                have z9 := hat.k9
                have z10 := hat.k10
                have HXX := hide (And.intro hxa (And.intro hxc hxs))
                clear hat hacts hx hxa hxc hxs hba
                cases hcp : (x.kind.toList == [99, 111, 112, 121]) with
                | true => as_aux_lemma =>
                  have hpp := HBW.out.pp
                  have HST := fun (m : Int) (s : WS) (lv : Value) Y (hi : Inv P.p s) (hl : s.log.length ≤ 1000000) (h : WX g gm P s lv Y) => wstep_any m (by rw [hpp]; exact HPQ.out.1) hi h hl
                  unfold GoesS at HST
                  rw [hpp] at HST
                  have HCP := wcopy_any HBW.out.w (by have := HBW.out.log; omega)
                  have HLS := hide HBW.out.log
                  clear hpp z1 z2 z3 z4 z5 z6 z7 z8 z9 z10
                  go_wp2_with fail
                  refine HCP.mono ?_
                  rintro e Y ⟨g', gm', lc, rfl, hC⟩
                  have HC0 := hide (BC.start HBW.out hC)
                  clear hC HCP z0
                  go_wp2_with fail
                  refine (wmap_any 0 true HC0.out.b.w).mono ?_
                  rintro e Y1 ⟨rfl, h1, h2⟩
                  have HC1 := hide (HC0.out.code h1 h2 (mem_inv HC0.out.b.inv (mapW_high _ _ _).1 (mapW_high _ _ _).2) (show s.log.length ≤ 7000 by have := HLS.out; omega))
                  clear h1 h2 HC0
                  go_wp2_with fail
                  refine (wenter_any 0 zeroKL HC1.out.b.w).mono ?_
                  rintro e Y2 ⟨rfl, h1, h2⟩
                  have HC2 := hide (HC1.out.code (K' := 7000) h1 h2 (enterW_inv HC1.out.b.inv 0 ⟨by decide, by decide, by decide, by decide, by decide, by decide⟩) (by rw [enterW_log]; exact HC1.out.b.log))
                  clear h1 h2 HC1
                  go_wp2_with fail
                  refine (HST 0 _ _ Y2 HC2.out.b.inv (by have := HC2.out.b.log; omega) HC2.out.b.w).mono ?_
                  rintro e Y3 ⟨rfl, lv3, h1, h2⟩
                  have HC3 := hide (HC2.out.code (K' := 7001) h1 h2 (stepW_inv HPQ.out.1 HPQ.out.2 HC2.out.b.inv 0) (by have := stepW_log HPQ.out.1 HC2.out.b.inv 0; have := HC2.out.b.log; omega))
                  clear h1 h2 HC2
                  go_wp2_with fail
                  refine (HST 1 _ _ Y3 HC3.out.b.inv (by have := HC3.out.b.log; omega) HC3.out.b.w).mono ?_
                  rintro e Y4 ⟨rfl, lv4, h1, h2⟩
                  have HC4 := hide (HC3.out.code (K' := 7002) h1 h2 (stepW_inv HPQ.out.1 HPQ.out.2 HC3.out.b.inv 1) (by have := stepW_log HPQ.out.1 HC3.out.b.inv 1; have := HC3.out.b.log; omega))
                  have HBN := hide (HC4.out.take (K' := (i + 1) * 100) (by have := HLS.out; omega))
                  clear h1 h2 HC3 HC4 HST
                  go_wp2
                  go_round
                  case rel => exact ⟨i + 1, g', gm', P, lc, s, sv, ld, d, by omega, rfl, by go_num, HBN, HT⟩
                  case measure => simp [intOf]; omega
                | false => as_aux_lemma =>
                  have HWD := warded_any HBW.out HT.out HPQ.out.1 HPQ.out.2 (by omega) x HXX.out.2.1 HXX.out.1 HXX.out.2.2
                  unfold acC at HWD
                  go_wp2_with fail
                  refine HWD.mono ?_
                  rintro e Y hW
                  obtain ⟨rfl, lv', s', sv', ld', d', hB, hT⟩ := hW
                  have HBN := hide (hB.weak (K' := (i + 1) * 100) (by omega))
                  have HTN := hide hT
                  have HAW := asWard_any HBN.out HTN.out (by omega)
                  clear hB hT HWD z0 z1 z2 z3 z4 z5 z6 z7 z8 z9 z10 HBW HT
                  by_cases h6 : i % 6 = 0
                  · have m1 : Int.tmod (i : Int) 6 = 0 := by have h7 : Int.tmod (i : Int) 6 = ((i % 6 : Nat) : Int) := rfl; omega
                    go_wp2_with (go_at_call 17; refine HAW.mono ?_; rintro e Z ⟨rfl, hZ⟩; have HBZ := hide hZ; clear hZ)
                    go_round
                    case rel => exact ⟨i + 1, g, gm, P, lv', s', sv', ld', d', by omega, rfl, by go_num, HBZ, HTN⟩
                    case measure => simp [intOf]; omega
                  · have m1 : ¬ Int.tmod (i : Int) 6 = 0 := fun e => h6 (by have : Int.tmod (i : Int) 6 = ((i % 6 : Nat) : Int) := rfl; omega)
                    go_wp2
                    go_round
                    case rel => exact ⟨i + 1, g, gm, P, lv', s', sv', ld', d', by omega, rfl, by go_num, HBN, HTN⟩
                    case measure => simp [intOf]; omega
              · as_aux_lemma =>
                have hl : ¬ (i : Int) < n := by omega
                have HAW := asWard_any HBW.out HT.out (by omega)
                go_wp2_with fail
                refine HAW.mono ?_
                rintro e Z ⟨rfl, hZ⟩
                have HBZ := hide hZ.below
                clear hZ HAW
                go_wp2
                go_ret
                exact ⟨rfl, HBZ.out⟩
      · as_aux_lemma =>
        have HN := new_err p hpf ob cb W4 HI4.out
        unfold polV at HN
        rw [← HNP.out.1, ← HNP.out.2.1, ← HNP.out.2.2] at HN
        obtain ⟨f, hf⟩ : ∃ f, f = polF p := ⟨_, rfl⟩
        rw [← hf] at HN HPF hpf
        have hf0 : (0 : Int) < f := by omega
        clear hf hpf
        refine HN.mono ?_
        rintro e W5 ⟨rfl, hb5⟩
        replace x0 := keep_cell hb5 x0
        replace x1 := keep_cell hb5 x1
        replace x2 := keep_cell hb5 x2
        have HB5 := hide (below_next HB4.out hb5)
        clear hb5 HN
        go_wp2_with fail
        refine (HPF W5 (HP.out.on HB5.out)).mono ?_
        rintro e W6 ⟨rfl, hb6⟩
        have HB6' := hide (below_next HB5.out hb6)
        clear hb6 HPF
        go_wp2_with (go_at_call 10; refine (same_err f _).mono ?_; rintro e w' ⟨rfl, hw⟩; rw [hw]; clear hw w')
        go_ret
        exact ⟨rfl, HB6'.out⟩
end Go.Proofs.YtklibmijiecbfaaGreat

/- The last step of a law's row: what 'post' asks, out of 'Below' (nothing that was there has turned), without the limb on frozen cells that 'again' alone wants. -/
namespace Go.Proofs.YtklibmijiecbfaaGreat
open Go.ChangeShapes Go.WideShapes Go.ChangeAt Go.RowKit

end Go.Proofs.YtklibmijiecbfaaGreat

/- What the rows over slices of structs need besides: the last step, and cells of elements. -/
namespace Go.Proofs.YtklibmijiecbfaaGreat
open Go.ChangeShapes Go.WideShapes Go.ChangeAt Go.RowKit Go.WideMaps Go.WideElems

theorem own : ownKnob Tryz.prog.godebug = none := by kernel_rfl
theorem laidOut : laidOutB Tryz.prog = true := by kernel_rfl

/-- 'post_law', the arguments read again under the one mode that is asked. -/
theorem post_law' {H : Type} {enc : TypeId × Value → H} {P : Program} {f : Func} {s : ChangeSpec} {apart fresh handsOn : Bool} {W W' : World} {args : Array Value} {v : Value} {ds gs : List (DataW H)} {before pa pv : List MemPlace}
    (hW : DataW.Whole enc P f.params.toList s.vars apart W args.toList ds gs before)
    (hres : ∀ (b : Nat) (sp : Nat → Bool) (hd : Bool), DataW.TrodAll enc P W' b sp hd f.resultTypes.toList (v.resultList f.resultTypes.size) (s.fn H (ds ++ gs)).results [])
    (hargs : DataW.TrodAll enc P W' 0 (fun b => decide (b < W.heap.size)) true f.params.toList args.toList (s.fn H (ds ++ gs)).args pa)
    (hvars : ∀ sp : Nat → Bool, (∀ p ∈ before, sp p.block = true) → DataW.TrodVars enc P W' sp s.vars (s.fn H (ds ++ gs)).vars pv)
    (hps : before = pa ++ pv) (hk : Below W.heap.size W W') :
    s.post enc P f apart fresh handsOn false W args v W' := by
  have hold : ∀ p ∈ before, (fun b => decide (b < W.heap.size)) p.block = true := fun p hp => by simpa using hW.lt p hp
  refine ⟨ds, gs, before, [], pa, pv, hW, hres _ _ _, hargs, hvars _ hold, World.keptBut_mono (fun p hp => ⟨hp, ?_⟩) (hk.frame (· ∈ before)), fun h => by cases h⟩
  rw [hps, List.mem_append] at hp
  exact Or.inr hp

theorem u64_wf {n : Int} (h : (Lit.int .u64 n).wf = true) : ∃ k : Nat, n = k ∧ k < 18446744073709551616 := by
  simp [Lit.wf, IntKind.min, IntKind.max, IntKind.signed, IntKind.bits] at h
  exact ⟨n.toNat, by omega, by omega⟩
theorem i64_wf {n : Int} (h : (Lit.int .i64 n).wf = true) : -9223372036854775808 ≤ n ∧ n ≤ 9223372036854775807 := by
  simp [Lit.wf, IntKind.min, IntKind.max, IntKind.signed, IntKind.bits] at h
  omega

theorem u32_wf {n : Int} (h : (Lit.int .u32 n).wf = true) : ∃ k : Nat, n = k ∧ k < 4294967296 := by
  simp [Lit.wf, IntKind.min, IntKind.max, IntKind.signed, IntKind.bits] at h
  exact ⟨n.toNat, by omega, by omega⟩

/-- The cells of element i of a slice at a plain address. -/
theorem elem_cells {w : World} {b off k i : Nat} {cs : List Value} (h : w.cells? 0 ((⟨b, off, none⟩ : Addr).add (i * k)) k = some cs) (j : Nat) (hj : j < k) : w.cell? ⟨b, off + i * k + j, none⟩ = cs[j]? := by
  have hc := (World.cells?_some h).2.2 j hj
  rw [Go.Deep.add_add, add_plain] at hc
  rw [show off + i * k + j = off + (i * k + j) by omega]
  exact hc

end Go.Proofs.YtklibmijiecbfaaGreat

/- Acts that came in, opened. -/
namespace Go.Proofs.YtklibmijiecbfaaGreat.Bp
end Go.Proofs.YtklibmijiecbfaaGreat.Bp
namespace Go.Proofs.YtklibmijiecbfaaGreat.Mm
open Go.Proofs.YtklibmijiecbfaaGreat.Bp
open Go.ChangeShapes Go.WideShapes Go.ChangeAt Go.RowKit Go.WideMaps Go.WideElems
open Go.ChangeMaps (open_string shut_string)

theorem act_fields : ∃ f0 f1 f2 f3 f4 f5 : Field, Tryz.prog.underlying 54 = some (.struct #[f0, f1, f2, f3, f4, f5]) ∧ (f0.type = 9 ∧ f1.type = 3 ∧ f2.type = 42 ∧ f3.type = 9 ∧ f4.type = 4 ∧ f5.type = 52) ∧ (f0.offset = 0 ∧ f1.offset = 1 ∧ f2.offset = 2 ∧ f3.offset = 3 ∧ f4.offset = 4 ∧ f5.offset = 5) :=
  ⟨_, _, _, _, _, _, Tryz.underlying54, ⟨by kernel_rfl, by kernel_rfl, by kernel_rfl, by kernel_rfl, by kernel_rfl, by kernel_rfl⟩, by kernel_rfl, by kernel_rfl, by kernel_rfl, by kernel_rfl, by kernel_rfl, by kernel_rfl⟩
theorem cells_act : Tryz.prog.cellsOf 54 = 11 := by kernel_rfl
theorem cells_str : Tryz.prog.cellsOf 9 = 1 := by kernel_rfl
theorem cells_int : Tryz.prog.cellsOf 3 = 1 := by kernel_rfl
theorem cells_u64 : Tryz.prog.cellsOf 42 = 1 := by kernel_rfl
theorem cells_bool : Tryz.prog.cellsOf 4 = 1 := by kernel_rfl

theorem list11 {α : Type} {l : List α} (h : l.length = 11) : ∃ a0 a1 a2 a3 a4 a5 a6 a7 a8 a9 a10, l = [a0, a1, a2, a3, a4, a5, a6, a7, a8, a9, a10] := by
  match l, h with
  | [a0, a1, a2, a3, a4, a5, a6, a7, a8, a9, a10], _ => exact ⟨a0, a1, a2, a3, a4, a5, a6, a7, a8, a9, a10, rfl⟩

theorem cells_callA : Tryz.prog.cellsOf 52 = 6 := by kernel_rfl
theorem cells_u32A : Tryz.prog.cellsOf 43 = 1 := by kernel_rfl
theorem cells_arrA : Tryz.prog.cellsOf 50 = 4 := by kernel_rfl
theorem call_fieldsA : ∃ f0 f1 f2 : Field, Tryz.prog.underlying 52 = some (.struct #[f0, f1, f2]) ∧ (f0.type = 43 ∧ f1.type = 43 ∧ f2.type = 50) ∧ (f0.offset = 0 ∧ f1.offset = 1 ∧ f2.offset = 2) :=
  ⟨_, _, _, Tryz.underlying52, ⟨by kernel_rfl, by kernel_rfl, by kernel_rfl⟩, by kernel_rfl, by kernel_rfl, by kernel_rfl⟩
theorem list6 {α : Type} {l : List α} (h : l.length = 6) : ∃ a0 a1 a2 a3 a4 a5, l = [a0, a1, a2, a3, a4, a5] := by
  match l, h with
  | [a0, a1, a2, a3, a4, a5], _ => exact ⟨a0, a1, a2, a3, a4, a5, rfl⟩
set_option maxRecDepth 100000 in
/-- A call that is read, its cells. -/
theorem call_read {H : Type} {enc : TypeId × Value → H} {w : World} {base : Nat} {spare : Nat → Bool} {held : Bool} {n : Nat} {cs : List Value} {x : DataW H × List MemPlace} (h : DataW.trod enc Tryz.prog w base spare held n 52 cs = some x) :
    ∃ z0 z1 z2 z3 z4 z5 : Int, cs = [.int .u32 z0, .int .u32 z1, .int .u64 z2, .int .u64 z3, .int .u64 z4, .int .u64 z5] ∧ (0 ≤ z0 ∧ z0 < 4294967296) ∧ (0 ≤ z1 ∧ z1 < 4294967296) ∧ (0 ≤ z2 ∧ z2 < 18446744073709551616) ∧ (0 ≤ z3 ∧ z3 < 18446744073709551616) ∧ (0 ≤ z4 ∧ z4 < 18446744073709551616) ∧ (0 ≤ z5 ∧ z5 < 18446744073709551616) := by
  obtain ⟨f0, f1, f2, hu, ⟨t0, t1, t2⟩, o0, o1, o2⟩ := call_fieldsA
  obtain ⟨xs, m, _, _, hl, hlen, hf⟩ := DataW.trod_struct hu h
  rw [cells_callA] at hl
  obtain ⟨a0, a1, a2, a3, a4, a5, rfl⟩ := list6 hl
  have g0 := hf 0 f0 rfl
  have g1 := hf 1 f1 rfl
  have g2 := hf 2 f2 rfl
  have hlt : xs.length = 3 := hlen
  rw [t0, o0, cells_u32A, List.getElem?_eq_getElem (by omega)] at g0
  rw [t1, o1, cells_u32A, List.getElem?_eq_getElem (by omega)] at g1
  rw [t2, o2, cells_arrA, List.getElem?_eq_getElem (by omega)] at g2
  obtain ⟨s0, q0, _, w0⟩ := DataW.trod_int Tryz.underlying43 g0
  obtain ⟨s1, q1, _, w1⟩ := DataW.trod_int Tryz.underlying43 g1
  obtain ⟨ys, m', _, _, _, hyl, hy⟩ := DataW.trod_array Tryz.underlying50 g2
  have y0 := hy 0 (by omega)
  have y1 := hy 1 (by omega)
  have y2 := hy 2 (by omega)
  have y3 := hy 3 (by omega)
  rw [cells_u64, List.getElem?_eq_getElem (by omega)] at y0 y1 y2 y3
  obtain ⟨s2, q2, _, w2⟩ := DataW.trod_int Tryz.underlying42 y0
  obtain ⟨s3, q3, _, w3⟩ := DataW.trod_int Tryz.underlying42 y1
  obtain ⟨s4, q4, _, w4⟩ := DataW.trod_int Tryz.underlying42 y2
  obtain ⟨s5, q5, _, w5⟩ := DataW.trod_int Tryz.underlying42 y3
  simp at q0 q1 q2 q3 q4 q5
  obtain ⟨k0, rfl, b0⟩ := u32_wf w0
  obtain ⟨k1, rfl, b1⟩ := u32_wf w1
  obtain ⟨k2, rfl, b2⟩ := u64_wf w2
  obtain ⟨k3, rfl, b3⟩ := u64_wf w3
  obtain ⟨k4, rfl, b4⟩ := u64_wf w4
  obtain ⟨k5, rfl, b5⟩ := u64_wf w5
  subst q0 q1 q2 q3 q4 q5
  exact ⟨_, _, _, _, _, _, rfl, by omega, by omega, by omega, by omega, by omega, by omega⟩

/-- An act that is read, its cells. -/
theorem act_read {H : Type} {enc : TypeId × Value → H} {w : World} {base : Nat} {spare : Nat → Bool} {held : Bool} {n : Nat} {cs : List Value} {x : DataW H × List MemPlace} (h : DataW.trod enc Tryz.prog w base spare held n 54 cs = some x) :
    ∃ y : AC, cs = [.string y.kind, .int .i64 y.n, .int .u64 y.a, .string y.s, .bool y.wr, .int .u32 y.c0, .int .u32 y.c1, .int .u64 y.c2, .int .u64 y.c3, .int .u64 y.c4, .int .u64 y.c5] ∧ y.kind.size ≤ maxLen ∧ y.s.size ≤ maxLen ∧ y.a < 18446744073709551616 ∧ y.callOk ∧ -9223372036854775808 ≤ y.n ∧ y.n ≤ 9223372036854775807 := by
  obtain ⟨f0, f1, f2, f3, f4, f5, hu, ⟨t0, t1, t2, t3, t4, t5⟩, o0, o1, o2, o3, o4, o5⟩ := act_fields
  obtain ⟨xs, m, _, _, hl, hlen, hf⟩ := DataW.trod_struct hu h
  rw [cells_act] at hl
  obtain ⟨a0, a1, a2, a3, a4, a5, a6, a7, a8, a9, a10, rfl⟩ := list11 hl
  have g0 := hf 0 f0 rfl
  have g1 := hf 1 f1 rfl
  have g2 := hf 2 f2 rfl
  have g3 := hf 3 f3 rfl
  have g4 := hf 4 f4 rfl
  have g5 := hf 5 f5 rfl
  have hlt : xs.length = 6 := hlen
  rw [t0, o0, cells_str, List.getElem?_eq_getElem (by omega)] at g0
  rw [t1, o1, cells_int, List.getElem?_eq_getElem (by omega)] at g1
  rw [t2, o2, cells_u64, List.getElem?_eq_getElem (by omega)] at g2
  rw [t3, o3, cells_str, List.getElem?_eq_getElem (by omega)] at g3
  rw [t4, o4, cells_bool, List.getElem?_eq_getElem (by omega)] at g4
  rw [t5, o5, cells_callA, List.getElem?_eq_getElem (by omega)] at g5
  obtain ⟨z0, z1, z2, z3, z4, z5, q5, hz⟩ := call_read g5
  obtain ⟨s0, q0, _, w0⟩ := DataW.trod_string Tryz.underlying9 g0
  obtain ⟨s1, q1, _, w1⟩ := DataW.trod_int Tryz.underlying3 g1
  obtain ⟨s2, q2, _, w2⟩ := DataW.trod_int Tryz.underlying42 g2
  obtain ⟨s3, q3, _, w3⟩ := DataW.trod_string Tryz.underlying9 g3
  obtain ⟨s4, q4, _⟩ := DataW.trod_bool Tryz.underlying4 g4
  simp at q0 q1 q2 q3 q4 q5
  obtain ⟨rfl, rfl, rfl, rfl, rfl, rfl⟩ := q5
  obtain ⟨k2, rfl, hk2⟩ := u64_wf w2
  subst q0 q1 q2 q3 q4
  exact ⟨⟨s0, s1, k2, s3, s4, z0, z1, z2, z3, z4, z5⟩, rfl, w0, w3, hk2, hz, i64_wf w1⟩

set_option maxRecDepth 100000 in
/-- A slice of acts that came in, opened. -/
theorem open_acts {H : Type} {enc : TypeId × Value → H} {W : World} {v : Value} {d : DataW H} {p : List MemPlace} {r : Reach} {b0 : Nat} (hv : Value.okWide Tryz.prog W r b0 27 v) (h : DataW.Trod enc Tryz.prog W 0 (fun _ => true) true 27 v d p) :
    ∃ (oa : Option Addr) (n cap : Nat) (L : Nat → AC), v = .slice oa n cap ∧ n ≤ maxLen ∧ IsActs oa n L W := by
  obtain ⟨oa, n, cap, rfl⟩ := okWide_slice Tryz.underlying27 hv
  obtain ⟨fuel, hf⟩ := h
  rcases Go.Deep.open_slice Tryz.underlying27 hf with ⟨hcs, _⟩ | ⟨a, len, cap', m, fu, D, Pl, hcs, _, hl, hm, hmm, _, hx⟩
  · simp only [Value.cells, List.cons.injEq, Value.slice.injEq, and_true] at hcs
    obtain ⟨rfl, rfl, rfl⟩ := hcs
    exact ⟨none, 0, 0, fun _ => ⟨⟨#[]⟩, 0, 0, ⟨#[]⟩, false, 0, 0, 0, 0, 0, 0⟩, rfl, Nat.zero_le _, ⟨fun h0 => absurd h0 (Nat.lt_irrefl 0)⟩⟩
  · simp only [Value.cells, List.cons.injEq, Value.slice.injEq, and_true] at hcs
    obtain ⟨rfl, rfl, rfl⟩ := hcs
    rw [if_pos rfl] at hmm
    subst hmm
    rw [cells_act] at hx
    have hy : ∀ i, i < n → ∃ y : AC, ∃ cs', W.cells? 0 (a.add (i * 11)) 11 = some cs' ∧ cs' = [.string y.kind, .int .i64 y.n, .int .u64 y.a, .string y.s, .bool y.wr, .int .u32 y.c0, .int .u32 y.c1, .int .u64 y.c2, .int .u64 y.c3, .int .u64 y.c4, .int .u64 y.c5] ∧ y.kind.size ≤ maxLen ∧ y.s.size ≤ maxLen ∧ y.a < 18446744073709551616 ∧ y.callOk ∧ -9223372036854775808 ≤ y.n ∧ y.n ≤ 9223372036854775807 := fun i hi => by
      obtain ⟨cs', h1, h2⟩ := hx i (by omega)
      obtain ⟨y, h3, h4⟩ := act_read h2
      exact ⟨y, cs', h1, h3, h4⟩
    haveI : Inhabited AC := ⟨⟨⟨#[]⟩, 0, 0, ⟨#[]⟩, false, 0, 0, 0, 0, 0, 0⟩⟩
    obtain ⟨L, hL⟩ := Go.Deep.choose_lt hy
    refine ⟨some a, n, m, L, rfl, Nat.le_trans hl hm, ⟨fun h0 => ?_⟩⟩
    obtain ⟨b, off, spot⟩ := a
    obtain ⟨cs0, k1, k2, _⟩ := hL 0 h0
    have hc0 := (World.cells?_some k1).2.2 0 (by omega)
    rw [k2] at hc0
    have hspot : spot = none := by simpa [Addr.add] using World.cell?_spot hc0
    subst hspot
    refine ⟨b, off, rfl, World.cells?_block (by rw [Nat.zero_mul] at k1; simpa [Addr.add] using k1) (by omega : 0 < 11), fun i hi => ?_⟩
    obtain ⟨cs', k1, rfl, k3, k4, k5, kc, k6, k7⟩ := hL i hi
    exact ⟨elem_cells k1 0 (by omega), elem_cells k1 1 (by omega), elem_cells k1 2 (by omega), elem_cells k1 3 (by omega), elem_cells k1 4 (by omega), elem_cells k1 5 (by omega), elem_cells k1 6 (by omega), elem_cells k1 7 (by omega), elem_cells k1 8 (by omega), elem_cells k1 9 (by omega), elem_cells k1 10 (by omega), k3, k4, k5, k6, k7, kc⟩
end Go.Proofs.YtklibmijiecbfaaGreat.Mm

/- Policies, calls and values that came in, opened. -/
namespace Go.Proofs.YtklibmijiecbfaaGreat
open Go.ChangeShapes Go.WideShapes Go.ChangeAt Go.RowKit Go.WideMaps Go.WideElems

theorem cond_fields : ∃ f0 f1 f2 f3 f4 f5 : Field, Tryz.prog.underlying 47 = some (.struct #[f0, f1, f2, f3, f4, f5]) ∧ (f0.type = 3 ∧ f1.type = 3 ∧ f2.type = 42 ∧ f3.type = 42 ∧ f4.type = 9 ∧ f5.type = 45) ∧ (f0.offset = 0 ∧ f1.offset = 1 ∧ f2.offset = 2 ∧ f3.offset = 3 ∧ f4.offset = 4 ∧ f5.offset = 5) :=
  ⟨_, _, _, _, _, _, Tryz.underlying47, ⟨by kernel_rfl, by kernel_rfl, by kernel_rfl, by kernel_rfl, by kernel_rfl, by kernel_rfl⟩, by kernel_rfl, by kernel_rfl, by kernel_rfl, by kernel_rfl, by kernel_rfl, by kernel_rfl⟩
theorem net_fields : ∃ f0 f1 f2 f3 : Field, Tryz.prog.underlying 45 = some (.struct #[f0, f1, f2, f3]) ∧ (f0.type = 43 ∧ f1.type = 3 ∧ f2.type = 3 ∧ f3.type = 3) ∧ (f0.offset = 0 ∧ f1.offset = 1 ∧ f2.offset = 2 ∧ f3.offset = 3) :=
  ⟨_, _, _, _, Tryz.underlying45, ⟨by kernel_rfl, by kernel_rfl, by kernel_rfl, by kernel_rfl⟩, by kernel_rfl, by kernel_rfl, by kernel_rfl, by kernel_rfl⟩
theorem rule_fields : ∃ f0 f1 f2 : Field, Tryz.prog.underlying 41 = some (.struct #[f0, f1, f2]) ∧ (f0.type = 3 ∧ f1.type = 39 ∧ f2.type = 24) ∧ (f0.offset = 0 ∧ f1.offset = 1 ∧ f2.offset = 2) :=
  ⟨_, _, _, Tryz.underlying41, ⟨by kernel_rfl, by kernel_rfl, by kernel_rfl⟩, by kernel_rfl, by kernel_rfl, by kernel_rfl⟩
theorem action_fields : ∃ f0 f1 : Field, Tryz.prog.underlying 24 = some (.struct #[f0, f1]) ∧ (f0.type = 3 ∧ f1.type = 3) ∧ (f0.offset = 0 ∧ f1.offset = 1) :=
  ⟨_, _, Tryz.underlying24, ⟨by kernel_rfl, by kernel_rfl⟩, by kernel_rfl, by kernel_rfl⟩
theorem pol_fields : ∃ f0 f1 : Field, Tryz.prog.underlying 26 = some (.struct #[f0, f1]) ∧ (f0.type = 22 ∧ f1.type = 24) ∧ (f0.offset = 0 ∧ f1.offset = 1) :=
  ⟨_, _, Tryz.underlying26, ⟨by kernel_rfl, by kernel_rfl⟩, by kernel_rfl, by kernel_rfl⟩
theorem cells_cond : Tryz.prog.cellsOf 47 = 9 := by kernel_rfl
theorem cells_net : Tryz.prog.cellsOf 45 = 4 := by kernel_rfl
theorem cells_rule : Tryz.prog.cellsOf 41 = 4 := by kernel_rfl
theorem cells_action : Tryz.prog.cellsOf 24 = 2 := by kernel_rfl
theorem cells_pol : Tryz.prog.cellsOf 26 = 3 := by kernel_rfl
theorem cells_conds : Tryz.prog.cellsOf 39 = 1 := by kernel_rfl
theorem cells_rules : Tryz.prog.cellsOf 22 = 1 := by kernel_rfl
theorem cells_i : Tryz.prog.cellsOf 3 = 1 := by kernel_rfl
theorem cells_s : Tryz.prog.cellsOf 9 = 1 := by kernel_rfl
theorem cells_32 : Tryz.prog.cellsOf 43 = 1 := by kernel_rfl
theorem cells_64 : Tryz.prog.cellsOf 42 = 1 := by kernel_rfl
theorem list2 {α : Type} {l : List α} (h : l.length = 2) : ∃ a0 a1, l = [a0, a1] := by
  match l, h with
  | [a0, a1], _ => exact ⟨a0, a1, rfl⟩
theorem list4 {α : Type} {l : List α} (h : l.length = 4) : ∃ a0 a1 a2 a3, l = [a0, a1, a2, a3] := by
  match l, h with
  | [a0, a1, a2, a3], _ => exact ⟨a0, a1, a2, a3, rfl⟩
theorem list9 {α : Type} {l : List α} (h : l.length = 9) : ∃ a0 a1 a2 a3 a4 a5 a6 a7 a8, l = [a0, a1, a2, a3, a4, a5, a6, a7, a8] := by
  match l, h with
  | [a0, a1, a2, a3, a4, a5, a6, a7, a8], _ => exact ⟨a0, a1, a2, a3, a4, a5, a6, a7, a8, rfl⟩
theorem array3 {α : Type} {l : Array α} (h : l.size = 3) : ∃ a0 a1 a2, l = #[a0, a1, a2] := by
  obtain ⟨l⟩ := l
  match l, h with
  | [a0, a1, a2], _ => exact ⟨a0, a1, a2, rfl⟩
/-- Elements, one by one, as a list. -/
theorem list_of {α : Type} {n : Nat} {p : Nat → α → Prop} (h : ∀ i, i < n → ∃ x, p i x) : ∃ l : List α, l.length = n ∧ ∀ i x, l[i]? = some x → p i x := by
  induction n with
  | zero => exact ⟨[], rfl, fun i x hx => by simp at hx⟩
  | succ n ih =>
    obtain ⟨l, hl, hp⟩ := ih fun i hi => h i (by omega)
    obtain ⟨y, hy⟩ := h n (by omega)
    refine ⟨l ++ [y], by simp [hl], fun i x hx => ?_⟩
    by_cases hi : i < n
    · rw [List.getElem?_append_left (by omega)] at hx
      exact hp i x hx
    · rw [List.getElem?_append_right (by omega)] at hx
      have hlt := (List.getElem?_eq_some_iff.1 hx).1
      simp only [List.length_singleton] at hlt
      obtain rfl : i = n := by omega
      rw [hl, Nat.sub_self] at hx
      obtain rfl := Option.some.inj hx
      exact hy

variable {H : Type} {enc : TypeId × Value → H} {w : World} {base : Nat} {spare : Nat → Bool} {held : Bool} {n : Nat} {cs : List Value} {x : DataW H × List MemPlace}
theorem i64_ok {n : Int} (h : (Lit.int .i64 n).wf = true) : I64 n := i64_wf h
theorem action_read (h : DataW.trod enc Tryz.prog w base spare held n 24 cs = some x) : ∃ a : ACT, cs = [.int .i64 a.kind, .int .i64 a.errno] ∧ AcOk a := by
  obtain ⟨f0, f1, hu, ⟨t0, t1⟩, o0, o1⟩ := action_fields
  obtain ⟨xs, m, _, _, hl, hlen, hf⟩ := DataW.trod_struct hu h
  rw [cells_action] at hl
  obtain ⟨a0, a1, rfl⟩ := list2 hl
  have g0 := hf 0 f0 rfl
  have g1 := hf 1 f1 rfl
  have hlt : xs.length = 2 := hlen
  rw [t0, o0, cells_i, List.getElem?_eq_getElem (by omega)] at g0
  rw [t1, o1, cells_i, List.getElem?_eq_getElem (by omega)] at g1
  obtain ⟨s0, q0, _, w0⟩ := DataW.trod_int Tryz.underlying3 g0
  obtain ⟨s1, q1, _, w1⟩ := DataW.trod_int Tryz.underlying3 g1
  simp at q0 q1
  subst q0 q1
  exact ⟨⟨s0, s1⟩, rfl, ⟨i64_ok w0, i64_ok w1⟩⟩
theorem net_read (h : DataW.trod enc Tryz.prog w base spare held n 45 cs = some x) : ∃ a : NT, cs = [.int .u32 a.ip, .int .i64 a.bits, .int .i64 a.lo, .int .i64 a.hi] ∧ NtOk a := by
  obtain ⟨f0, f1, f2, f3, hu, ⟨t0, t1, t2, t3⟩, o0, o1, o2, o3⟩ := net_fields
  obtain ⟨xs, m, _, _, hl, hlen, hf⟩ := DataW.trod_struct hu h
  rw [cells_net] at hl
  obtain ⟨a0, a1, a2, a3, rfl⟩ := list4 hl
  have g0 := hf 0 f0 rfl
  have g1 := hf 1 f1 rfl
  have g2 := hf 2 f2 rfl
  have g3 := hf 3 f3 rfl
  have hlt : xs.length = 4 := hlen
  rw [t0, o0, cells_32, List.getElem?_eq_getElem (by omega)] at g0
  rw [t1, o1, cells_i, List.getElem?_eq_getElem (by omega)] at g1
  rw [t2, o2, cells_i, List.getElem?_eq_getElem (by omega)] at g2
  rw [t3, o3, cells_i, List.getElem?_eq_getElem (by omega)] at g3
  obtain ⟨s0, q0, _, w0⟩ := DataW.trod_int Tryz.underlying43 g0
  obtain ⟨s1, q1, _, w1⟩ := DataW.trod_int Tryz.underlying3 g1
  obtain ⟨s2, q2, _, w2⟩ := DataW.trod_int Tryz.underlying3 g2
  obtain ⟨s3, q3, _, w3⟩ := DataW.trod_int Tryz.underlying3 g3
  simp at q0 q1 q2 q3
  obtain ⟨k0, rfl, h0⟩ := u32_wf w0
  subst q0 q1 q2 q3
  exact ⟨⟨k0, s1, s2, s3⟩, rfl, ⟨h0, i64_ok w1, i64_ok w2, i64_ok w3⟩⟩
theorem cond_read (h : DataW.trod enc Tryz.prog w base spare held n 47 cs = some x) :
    ∃ c : CD, cs = [.int .i64 c.arg, .int .i64 c.op, .int .u64 c.v, .int .u64 c.m, .string c.glob, .int .u32 c.net.ip, .int .i64 c.net.bits, .int .i64 c.net.lo, .int .i64 c.net.hi] ∧ CdOk c := by
  obtain ⟨f0, f1, f2, f3, f4, f5, hu, ⟨t0, t1, t2, t3, t4, t5⟩, o0, o1, o2, o3, o4, o5⟩ := cond_fields
  obtain ⟨xs, m, _, _, hl, hlen, hf⟩ := DataW.trod_struct hu h
  rw [cells_cond] at hl
  obtain ⟨a0, a1, a2, a3, a4, a5, a6, a7, a8, rfl⟩ := list9 hl
  have g0 := hf 0 f0 rfl
  have g1 := hf 1 f1 rfl
  have g2 := hf 2 f2 rfl
  have g3 := hf 3 f3 rfl
  have g4 := hf 4 f4 rfl
  have g5 := hf 5 f5 rfl
  have hlt : xs.length = 6 := hlen
  rw [t0, o0, cells_i, List.getElem?_eq_getElem (by omega)] at g0
  rw [t1, o1, cells_i, List.getElem?_eq_getElem (by omega)] at g1
  rw [t2, o2, cells_64, List.getElem?_eq_getElem (by omega)] at g2
  rw [t3, o3, cells_64, List.getElem?_eq_getElem (by omega)] at g3
  rw [t4, o4, cells_s, List.getElem?_eq_getElem (by omega)] at g4
  rw [t5, o5, cells_net, List.getElem?_eq_getElem (by omega)] at g5
  obtain ⟨nt, q5, hnt⟩ := net_read g5
  obtain ⟨s0, q0, _, w0⟩ := DataW.trod_int Tryz.underlying3 g0
  obtain ⟨s1, q1, _, w1⟩ := DataW.trod_int Tryz.underlying3 g1
  obtain ⟨s2, q2, _, w2⟩ := DataW.trod_int Tryz.underlying42 g2
  obtain ⟨s3, q3, _, w3⟩ := DataW.trod_int Tryz.underlying42 g3
  obtain ⟨s4, q4, _, _⟩ := DataW.trod_string Tryz.underlying9 g4
  simp at q0 q1 q2 q3 q4 q5
  obtain ⟨k2, rfl, h2⟩ := u64_wf w2
  obtain ⟨k3, rfl, h3⟩ := u64_wf w3
  obtain ⟨q5, q6, q7, q8⟩ := q5
  subst q0 q1 q2 q3 q4 q5 q6 q7 q8
  exact ⟨⟨s0, s1, k2, k3, s4, nt⟩, rfl, ⟨i64_ok w0, i64_ok w1, h2, h3, hnt⟩⟩

set_option maxRecDepth 100000 in
theorem conds_read {W : World} (h : DataW.trod enc Tryz.prog W 0 (fun _ => true) true n 39 cs = some x) :
    ∃ (oa : Option Addr) (l : List CD) (cap : Nat), cs = [.slice oa l.length cap] ∧ l.length ≤ cap ∧ cap ≤ maxLen ∧ IsConds oa l W ∧ ∀ c ∈ l, CdOk c := by
  rcases Go.Deep.open_slice Tryz.underlying39 h with ⟨rfl, _⟩ | ⟨a, len, cap, m, fu, D, Pl, rfl, _, hl, hm, hmm, _, hx⟩
  · exact ⟨none, [], 0, rfl, Nat.le_refl _, Nat.zero_le _, IsConds.nil _ _, fun c hc => by simp at hc⟩
  · rw [if_pos rfl] at hmm
    subst hmm
    rw [cells_cond] at hx
    obtain ⟨l, hll, hp⟩ := list_of (n := len) (p := fun i (c : CD) => ∃ cs', W.cells? 0 (a.add (i * 9)) 9 = some cs' ∧ cs' = [.int .i64 c.arg, .int .i64 c.op, .int .u64 c.v, .int .u64 c.m, .string c.glob, .int .u32 c.net.ip, .int .i64 c.net.bits, .int .i64 c.net.lo, .int .i64 c.net.hi] ∧ CdOk c) fun i hi => by
      obtain ⟨cs', h1, h2⟩ := hx i (by omega)
      obtain ⟨c, h3, h4⟩ := cond_read h2
      exact ⟨c, cs', h1, h3, h4⟩
    subst hll
    refine ⟨some a, l, m, rfl, hl, hm, ⟨fun h0 => ?_⟩, fun c hc => ?_⟩
    · obtain ⟨b, off, spot⟩ := a
      obtain ⟨cs0, k1, k2, _⟩ := hp 0 l[0] (List.getElem?_eq_getElem h0)
      have hc0 := (World.cells?_some k1).2.2 0 (by omega)
      rw [k2] at hc0
      have hspot : spot = none := by simpa [Addr.add] using World.cell?_spot hc0
      subst hspot
      refine ⟨b, off, rfl, World.cells?_block (by rw [Nat.zero_mul] at k1; simpa [Addr.add] using k1) (by omega : 0 < 9), fun i c hi => ?_⟩
      obtain ⟨cs', k1, rfl, k3⟩ := hp i c hi
      exact ⟨elem_cells k1 0 (by omega), elem_cells k1 1 (by omega), elem_cells k1 2 (by omega), elem_cells k1 3 (by omega), elem_cells k1 4 (by omega), elem_cells k1 5 (by omega), elem_cells k1 6 (by omega), elem_cells k1 7 (by omega), elem_cells k1 8 (by omega), k3⟩
    · obtain ⟨i, hi, rfl⟩ := List.mem_iff_getElem.1 hc
      obtain ⟨_, _, _, k3⟩ := hp i _ (List.getElem?_eq_getElem hi)
      exact k3
theorem rule_read {W : World} (h : DataW.trod enc Tryz.prog W 0 (fun _ => true) true n 41 cs = some x) :
    ∃ (r : RL) (oa : Option Addr) (cap : Nat), cs = [.int .i64 r.nr, .slice oa r.conds.length cap, .int .i64 r.act.kind, .int .i64 r.act.errno] ∧ r.conds.length ≤ cap ∧ cap ≤ maxLen ∧ IsConds oa r.conds W ∧ RlOk r := by
  obtain ⟨f0, f1, f2, hu, ⟨t0, t1, t2⟩, o0, o1, o2⟩ := rule_fields
  obtain ⟨xs, m, _, _, hl, hlen, hf⟩ := DataW.trod_struct hu h
  rw [cells_rule] at hl
  obtain ⟨a0, a1, a2, a3, rfl⟩ := list4 hl
  have g0 := hf 0 f0 rfl
  have g1 := hf 1 f1 rfl
  have g2 := hf 2 f2 rfl
  have hlt : xs.length = 3 := hlen
  rw [t0, o0, cells_i, List.getElem?_eq_getElem (by omega)] at g0
  rw [t1, o1, cells_conds, List.getElem?_eq_getElem (by omega)] at g1
  rw [t2, o2, cells_action, List.getElem?_eq_getElem (by omega)] at g2
  obtain ⟨s0, q0, _, w0⟩ := DataW.trod_int Tryz.underlying3 g0
  obtain ⟨oa, l, cap, q1, hlc, hcm, hic, hok⟩ := conds_read g1
  obtain ⟨ac, q2, hac⟩ := action_read g2
  simp at q0 q1 q2
  obtain ⟨q2, q3⟩ := q2
  subst q0 q1 q2 q3
  exact ⟨⟨s0, l, ac⟩, oa, cap, rfl, hlc, hcm, hic, ⟨i64_ok w0, hok, hac⟩⟩

set_option maxRecDepth 100000 in
theorem rules_read {W : World} (h : DataW.trod enc Tryz.prog W 0 (fun _ => true) true n 22 cs = some x) :
    ∃ (oa : Option Addr) (l : List RL) (cap : Nat), cs = [.slice oa l.length cap] ∧ l.length ≤ cap ∧ cap ≤ maxLen ∧ IsRules oa l W ∧ ∀ r ∈ l, RlOk r := by
  rcases Go.Deep.open_slice Tryz.underlying22 h with ⟨rfl, _⟩ | ⟨a, len, cap, m, fu, D, Pl, rfl, _, hl, hm, hmm, _, hx⟩
  · exact ⟨none, [], 0, rfl, Nat.le_refl _, Nat.zero_le _, IsRules.nil _ _, fun c hc => by simp at hc⟩
  · rw [if_pos rfl] at hmm
    subst hmm
    rw [cells_rule] at hx
    obtain ⟨l, hll, hp⟩ := list_of (n := len) (p := fun i (r : RL) => ∃ cs', W.cells? 0 (a.add (i * 4)) 4 = some cs' ∧ ∃ (oa : Option Addr) (cap : Nat), cs' = [.int .i64 r.nr, .slice oa r.conds.length cap, .int .i64 r.act.kind, .int .i64 r.act.errno] ∧ r.conds.length ≤ cap ∧ cap ≤ maxLen ∧ IsConds oa r.conds W ∧ RlOk r) fun i hi => by
      obtain ⟨cs', h1, h2⟩ := hx i (by omega)
      obtain ⟨r, oa, cap, h3, h4⟩ := rule_read h2
      exact ⟨r, cs', h1, oa, cap, h3, h4⟩
    subst hll
    refine ⟨some a, l, m, rfl, hl, hm, ⟨fun h0 => ?_⟩, fun c hc => ?_⟩
    · obtain ⟨b, off, spot⟩ := a
      obtain ⟨cs0, k1, _, _, k2, _⟩ := hp 0 l[0] (List.getElem?_eq_getElem h0)
      have hc0 := (World.cells?_some k1).2.2 0 (by omega)
      rw [k2] at hc0
      have hspot : spot = none := by simpa [Addr.add] using World.cell?_spot hc0
      subst hspot
      refine ⟨b, off, rfl, World.cells?_block (by rw [Nat.zero_mul] at k1; simpa [Addr.add] using k1) (by omega : 0 < 4), fun i c hi => ?_⟩
      obtain ⟨cs', k1, oa, cc, rfl, k3, k4, k5, k6⟩ := hp i c hi
      exact ⟨oa, cc, elem_cells k1 0 (by omega), elem_cells k1 1 (by omega), elem_cells k1 2 (by omega), elem_cells k1 3 (by omega), k5, k3, k4, k6⟩
    · obtain ⟨i, hi, rfl⟩ := List.mem_iff_getElem.1 hc
      obtain ⟨_, _, _, _, _, _, _, _, k6⟩ := hp i _ (List.getElem?_eq_getElem hi)
      exact k6

set_option maxRecDepth 100000 in
/-- A policy that came in, opened. -/
theorem open_pol {W : World} {v : Value} {d : DataW H} {p : List MemPlace} {r : Reach} {b0 : Nat} (hv : Value.okWide Tryz.prog W r b0 26 v) (h : DataW.Trod enc Tryz.prog W 0 (fun _ => true) true 26 v d p) :
    ∃ (q : POL) (oa : Option Addr) (cap : Nat), v = polV q oa cap ∧ IsPol oa cap q W := by
  obtain ⟨f0, f1, hu, ⟨t0, t1⟩, o0, o1⟩ := pol_fields
  obtain ⟨cs, rfl, hsz⟩ := okWide_struct hu hv
  obtain ⟨a0, a1, a2, rfl⟩ := array3 (hsz.trans cells_pol)
  obtain ⟨fuel, hf⟩ := h
  obtain ⟨xs, m, _, _, hl, hlen, hf⟩ := DataW.trod_struct hu hf
  have g0 := hf 0 f0 rfl
  have g1 := hf 1 f1 rfl
  have hlt : xs.length = 2 := hlen
  rw [t0, o0, cells_rules, List.getElem?_eq_getElem (by omega)] at g0
  rw [t1, o1, cells_action, List.getElem?_eq_getElem (by omega)] at g1
  obtain ⟨oa, l, cap, q0, hlc, hcm, hir, hok⟩ := rules_read g0
  obtain ⟨ac, q1, hac⟩ := action_read g1
  simp [Value.cells] at q0 q1
  obtain ⟨q1, q2⟩ := q1
  subst q0 q1 q2
  exact ⟨⟨l, ac⟩, oa, cap, rfl, ⟨hir, hlc, hcm, ⟨hok, hac⟩⟩⟩

end Go.Proofs.YtklibmijiecbfaaGreat

namespace Go.Proofs.YtklibmijiecbfaaGreat
open Go.ChangeShapes Go.WideShapes Go.ChangeAt Go.RowKit Go.WideMaps Go.WideElems Mm

set_option maxRecDepth 100000 in
theorem wardSays_lifted (os : Os) (started : os.Started) (H : Type) (enc : TypeId × Value → H) :
    ReturnsInHanded {} Tryz.checked os 3 .any (Rows.wardSaysSpec.pre6 enc Tryz.prog Tryz.f3 Rows.wardSaysRow.domain false) (Rows.wardSaysSpec.post enc Tryz.prog Tryz.f3 false true false false) := by
  refine returnsInHanded_of_change (C := Tryz.checked) own started (by kernel_rfl) Tryz.func3
    (ChangeSpec.witness6 (enc := enc) (C := Tryz.checked) false ⟨#[], #[.agg #[.slice none 0 0, .int .i64 0, .int .i64 0], .slice none 0 0], []⟩ 8 (by kernel_rfl) (by kernel_rfl) (by kernel_rfl) (by kernel_rfl)) ?_
  intro W base args ds gs before hval0 hW hcnd _
  have hval : ∀ (j : Nat) t v, Tryz.f3.params[j]? = some t → args[j]? = some v → Value.okWide Tryz.prog W .any base t v := hval0
  have hW' := hW
  obtain ⟨p, q, hA0, hV, rfl, hfz, hnd⟩ := hW
  have hA : DataW.TrodAll enc Tryz.prog W 0 (fun _ => true) true Tryz.f3.params.toList args.toList ds p := hA0
  rw [Tryz.params3] at hA hval
  obtain ⟨v0, v1, d0, d1, p0, p1, rfl, rfl, rfl, h0, h1⟩ := trodAll_two hA
  obtain ⟨rfl, rfl⟩ := trodVars_none hV
  obtain ⟨pl, oa, cap, rfl, hpl⟩ := open_pol (hval 0 26 v0 rfl rfl) h0
  obtain ⟨ob, nb, capb, B, rfl, hnb, hB⟩ := open_acts (hval 1 27 v1 rfl rfl) h1
  clear hA0 hval0
  simp only [List.append_nil] at hW'
  refine (wardSays_any pl oa cap ob nb capb (by unfold maxLen at hnb; omega) B W hpl hB).mono fun e W' ⟨he, hb⟩ => ?_
  subst he
  have hlt : ∀ x ∈ p0 ++ p1, x.block < W.heap.size := fun x hx => by simpa using hW'.lt x hx
  exact ⟨_, rfl, post_law' (pa := p0 ++ p1) (pv := []) hW' (fun _ _ _ => trodAll_mk1 (shut_bool Tryz.underlying4 _))
    (trodAll_mk2 (Below.trod laidOut (by kernel_rfl) (of_decide_eq_true (by kernel_rfl)) h0 hb fun x hx => hlt x (List.mem_append.2 (.inl hx))) (Below.trod laidOut (by kernel_rfl) (of_decide_eq_true (by kernel_rfl)) h1 hb fun x hx => hlt x (List.mem_append.2 (.inr hx)))) (fun _ _ => rfl) (List.append_nil _).symm hb⟩

theorem wardSays_holds : Rows.WardSaysSaid :=
  OpenClaim.holds_of_wide 3 Tryz.f3 rfl rfl rfl rfl rfl rfl rfl ⟨rfl, rfl, rfl, rfl, rfl⟩ rfl rfl rfl rfl rfl (by kernel_rfl) Tryz.func3 (by kernel_rfl)
    (of_decide_eq_true (by kernel_rfl)) (by unfold Func.isWrapper; first | (rw [if_pos (by decide +kernel)]; kernel_rfl) | (rw [if_neg (by decide +kernel)]; exact ⟨rfl, rfl⟩))
    (fun os started H enc _ => wardSays_lifted os started H enc)
#print axioms wardSays_holds
end Go.Proofs.YtklibmijiecbfaaGreat
