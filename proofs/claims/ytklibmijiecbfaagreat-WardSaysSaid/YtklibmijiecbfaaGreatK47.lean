/- The document's PolicyFault. -/
import Derived.Test.YtklibmijiecbfaaGreatK46
import Derived.Test.YtklibmijiecbfaaGreatK11
namespace Go.Proofs.YtklibmijiecbfaaGreat
open Go.RowKit Go.Sort

theorem firstF_at {rs : List RL} {i f : Nat} (h : firstF ((rs.take i).map ruleF) = f) (hf : f ≠ 0) : firstF (rs.map ruleF) = f := by
  rw [← List.take_append_drop i rs, List.map_append, firstF_append, if_neg (by rw [h]; exact hf), h]
theorem firstC_at {cs : List CD} {k i f : Nat} (h : firstF ((cs.take i).map (condF k)) = f) (hf : f ≠ 0) : firstF (cs.map (condF k)) = f := by
  rw [← List.take_append_drop i cs, List.map_append, firstF_append, if_neg (by rw [h]; exact hf), h]

set_option maxHeartbeats 4000000 in
set_option maxRecDepth 100000 in
theorem dpolF_any (p : POL) (oa : Option Addr) (cap : Nat) (w : World) (h : IsPol oa cap p w) :
    Calls Tryz.prog 9 #[polV p oa cap] w fun e w' => e = .returned (.int .i64 (polF p)) ∧ Below w.heap.size w w' := by
  obtain ⟨n, hn⟩ : ∃ n, n = p.rules.length := ⟨_, rfl⟩
  have HC := hide (pol_parts h n hn)
  have hmax : n ≤ 9223372036854775807 := by have h1 := h.le; have h2 := h.cap; unfold maxLen at h2; omega
  clear h
  obtain ⟨rs, ⟨ak, ae⟩⟩ := p
  unfold polV
  simp only at HC hn ⊢
  rw [← hn]
  have hf0 : polF ⟨rs, ⟨ak, ae⟩⟩ = if 12 < n then 2 else if actF ⟨ak, ae⟩ = 0 then firstF (rs.map ruleF) else actF ⟨ak, ae⟩ := by rw [hn]; rfl
  obtain ⟨pf, hpf⟩ : ∃ x, x = polF ⟨rs, ⟨ak, ae⟩⟩ := ⟨_, rfl⟩
  rw [← hpf] at hf0 ⊢
  clear hpf
  by_cases h12 : 12 < n
  · have HF := hide (show (pf : Int) = 2 by rw [hf0, if_pos h12]; rfl)
    clear hf0 hn
    go_enter Tryz.func9, Tryz.ntmps9
    go_wp2
    go_ret
    exact ⟨by rw [HF.out]; rfl, box_below _ _⟩
  rw [if_neg h12] at hf0
  have HA := fun X => dactF_any ⟨ak, ae⟩ X
  obtain ⟨f0, hf⟩ : ∃ f, f = actF ⟨ak, ae⟩ := ⟨_, rfl⟩
  rw [← hf] at HA hf0
  have HF := hide hf0
  have HN := hide hn
  have HL := hide (show ∀ i, i < n → ∃ c, rs[i]? = some c ∧ rs.take (i + 1) = rs.take i ++ [c] from fun i h => take_next (by omega))
  clear hf0 hn hf
  unfold actV at HA
  simp only at HA
  obtain ⟨V, hV, hB, hsz, hx⟩ := one_box w #[.slice oa n cap, .int .i64 ak, .int .i64 ae] 26
  have x0 := hx 0
  simp only [List.getElem?_toArray, List.getElem?_cons_zero] at x0
  clear hx
  by_cases hz0 : f0 = 0
  case neg =>
    have p0 : (0 : Int) < f0 := by omega
    have HE := hide (show pf = f0 by rw [HF.out, if_neg hz0])
    clear HF
    go_enter Tryz.func9, Tryz.ntmps9
    go_wp2_with (go_at_call 22; refine (HA _).mono ?_; rintro e X ⟨rfl, hX⟩)
    go_ret
    exact ⟨by rw [HE.out]; rfl, below_next (box_below _ _) hX⟩
  subst hz0
  rw [if_pos rfl] at HF
  have hz : ((0 : Nat) : Int) = 0 := rfl
  rw [hz] at HA
  clear hz
  go_enter Tryz.func9, Tryz.ntmps9
  go_wp2_with (go_at_call 22; rw [← hV]; clear hV; refine (HA _).mono ?_; rintro e X ⟨rfl, hX⟩; have k0 := keep_cell hX x0)
  go_loopw [4] (fun I w' => ∃ i : Nat, i ≤ n ∧ I = .int .i64 i ∧ Hid (Below X.heap.size X w') ∧ Hid (firstF ((rs.take i).map ruleF) = 0)) (fun I _ => n - (intOf I).toNat)
  case atStart => exact ⟨0, by omega, rfl, hide (Below.refl _ _), hide rfl⟩
  case round =>
    obtain ⟨i, hi, rfl, HB, HG⟩ := hrel
    have HW := hide (below_next (below_next hB hX) HB.out)
    have g0 := keep_cell HB.out k0
    by_cases hlt : i < n
    · obtain ⟨c, hcs, hcat⟩ := HL.out i hlt
      obtain ⟨b, off, rfl, hbw, HA2⟩ := HC.out (by omega)
      obtain ⟨ca, cc, hR0⟩ := HA2.out i c hcs
      have hR := hR0.on hbw HW.out
      clear hR0
      obtain ⟨m, hm⟩ : ∃ m, m = c.conds.length := ⟨_, rfl⟩
      have hmm : m ≤ 9223372036854775807 := by have h1 := hR.le; have h2 := hR.cap; unfold maxLen at h2; omega
      have hq : firstF ((rs.take (i + 1)).map ruleF) = ruleF c := by rw [hcat, List.map_append, firstF_append, if_pos HG.out]; exact firstF_one _
      obtain ⟨W1, hW1, hW1b, _, hW1c⟩ := one_box wr #[.int .i64 c.nr, .slice ca m cc, .int .i64 c.act.kind, .int .i64 c.act.errno] 41
      have s0 := hW1c 0
      have s1 := hW1c 1
      have s2 := hW1c 2
      have s3 := hW1c 3
      simp only [List.getElem?_toArray, List.getElem?_cons_zero, List.getElem?_cons_succ] at s0 s1 s2 s3
      have HCC := hide (conds_parts (hR.conds.on hW1b) m hm)
      have HCL := hide (show ∀ j, j < m → ∃ x, c.conds[j]? = some x ∧ c.conds.take (j + 1) = c.conds.take j ++ [x] from fun j h => take_next (by omega))
      have HRF := hide (show ruleF c = if c.nr < 0 ∨ 8 < c.nr then 1 else if 4 < m then 2 else if firstF (c.conds.map (condF c.nr.toNat)) = 0 then actF c.act else firstF (c.conds.map (condF c.nr.toNat)) by rw [hm]; rfl)
      have HAC := fun X => dactF_any c.act X
      obtain ⟨p0, p1, p2, p3, _, _, _, _⟩ := hR
      rw [← hm] at p1
      have HM := hide hm
      have HQ := hide hq
      have lb : b < wr.heap.size := Nat.lt_of_lt_of_le hbw HW.out.size
      clear hm hq hcs hcat hW1c
      obtain ⟨nr, cs, ⟨rk, re⟩⟩ := c
      simp only at p0 p1 p2 p3 s0 s1 s2 s3 hW1 HCC HCL HRF HAC HM HQ
      unfold actV at HAC
      simp only at HAC
      by_cases hnr : nr < 0 ∨ 8 < nr
      · have HE := hide (show (pf : Int) = 1 by
          have h1 : ruleF ⟨nr, cs, ⟨rk, re⟩⟩ = 1 := by rw [HRF.out, if_pos hnr]
          rw [HF.out, firstF_at (HQ.out.trans h1) (by omega)]
          rfl)
        clear HRF HQ
        go_wp2
        all_goals first
          | omega
          | (go_ret
             exact ⟨by rw [HE.out]; rfl, below_next HW.out (box_below _ _)⟩)
      rw [if_neg hnr] at HRF
      obtain ⟨k, rfl⟩ : ∃ k : Nat, nr = k := ⟨nr.toNat, by omega⟩
      have hk8 : k < 9 := by omega
      rw [Int.toNat_natCast] at HRF
      have i1 : ¬ (k : Int) < 0 := by omega
      have i2 : ¬ 8 < (k : Int) := by omega
      clear hnr
      by_cases h4 : 4 < m
      · have HE := hide (show (pf : Int) = 2 by
          have h1 : ruleF ⟨(k : Int), cs, ⟨rk, re⟩⟩ = 2 := by rw [HRF.out, if_pos h4]
          rw [HF.out, firstF_at (HQ.out.trans h1) (by omega)]
          rfl)
        clear HRF HQ
        go_wp2
        go_ret
        exact ⟨by rw [HE.out]; rfl, below_next HW.out (box_below _ _)⟩
      rw [if_neg h4] at HRF
      go_wp2
      rw [← hW1]
      clear hW1 p0 p1 p2 p3
      go_loopw [6] (fun J w' => ∃ j : Nat, j ≤ m ∧ J = .int .i64 j ∧ Hid (Below W1.heap.size W1 w') ∧ Hid (firstF ((cs.take j).map (condF k)) = 0)) (fun J _ => m - (intOf J).toNat)
      case atStart => exact ⟨0, by omega, rfl, hide (Below.refl _ _), hide rfl⟩
      case round =>
        obtain ⟨j, hj, rfl, HBJ, HGJ⟩ := hrel
        have t0 := keep_cell HBJ.out s0
        have t1 := keep_cell HBJ.out s1
        by_cases hjl : j < m
        · obtain ⟨x, hxs, hxcat⟩ := HCL.out j hjl
          obtain ⟨b3, off3, rfl, hbw3, HA3⟩ := HCC.out (by omega)
          have hX3 := (HA3.out j x hxs).on fun q => (bcell HBJ.out).1 b3 q hbw3
          have HFX := fun X => dcondF_any k hk8 x hX3.ok X
          have hqx : firstF ((cs.take (j + 1)).map (condF k)) = condF k x := by rw [hxcat, List.map_append, firstF_append, if_pos HGJ.out]; exact firstF_one _
          obtain ⟨fx, hfx⟩ : ∃ f, f = condF k x := ⟨_, rfl⟩
          rw [← hfx] at HFX hqx
          have HQX := hide hqx
          obtain ⟨g0', g1, g2, g3, g4, g5, g6, g7, g8, _⟩ := hX3
          clear hfx hxs hxcat hqx
          obtain ⟨arg, op, vv, mm, gl, ⟨ip, bb, lo, hh⟩⟩ := x
          unfold condV at HFX
          simp only at g0' g1 g2 g3 g4 g5 g6 g7 g8 HFX
          replace t0 := cell_regrown t0
          replace t1 := cell_regrown t1
          replace g0' := cell_regrown g0'
          replace g1 := cell_regrown g1
          replace g2 := cell_regrown g2
          replace g3 := cell_regrown g3
          replace g4 := cell_regrown g4
          replace g5 := cell_regrown g5
          replace g6 := cell_regrown g6
          replace g7 := cell_regrown g7
          replace g8 := cell_regrown g8
          have i3 : (0 : Int) ≤ j := by omega
          have i4 : (j : Int) < m := by omega
          have t1p := keep_cell HBJ.out s1
          go_wp2
          clear t1p
          have cF : ∀ d os, Calls Tryz.prog 23 #[.int .i64 k, .agg #[.int .i64 arg, .int .i64 op, .int .u64 vv, .int .u64 mm, .string gl, .int .u32 ip, .int .i64 bb, .int .i64 lo, .int .i64 hh]] (grow (redrawn wr d) os) fun e w'' => e = .returned (.int .i64 fx) ∧ ∃ p : Regrown, w'' = grow (redrawn wr p.d) p.os := fun d os => Calls.regrown_of (HFX _)
          clear HFX
          refine wp_region_quiet_below (by kernel_rfl) (by kernel_rfl) ?_
          by_cases hfx0 : fx = 0
          · subst hfx0
            repeat (go_big_quiet_step (first | (go_at_call 23; exact cF _ _)))
            refine wpQuiet_nil ?_
            intro _ hw'
            obtain ⟨⟨dq, osq⟩, hw''⟩ := hw'
            subst hw''
            clear cF t0 t1 g0' g1 g2 g3 g4 g5 g6 g7 g8
            go_wp2
            go_round
            case rel => exact ⟨j + 1, by omega, by go_num, hide (below_next HBJ.out (below_regrown _ _ _)), HQX⟩
            case measure => simp [intOf]; omega
          · have HE := hide (show pf = fx by
              have h1 : ruleF ⟨(k : Int), cs, ⟨rk, re⟩⟩ = fx := by rw [HRF.out, firstC_at HQX.out hfx0, if_neg hfx0]
              rw [HF.out, firstF_at (HQ.out.trans h1) hfx0])
            have pfx : (0 : Int) < fx := by omega
            repeat (go_big_quiet_step (first | (go_at_call 23; exact cF _ _)))
            refine wpQuiet_nil ?_
            intro _ hw'
            obtain ⟨⟨dq, osq⟩, hw''⟩ := hw'
            subst hw''
            clear cF t0 t1 g0' g1 g2 g3 g4 g5 g6 g7 g8
            go_wp2
            go_ret
            exact ⟨by rw [HE.out]; rfl, below_next HW.out (below_next hW1b (below_next HBJ.out (below_regrown _ _ _)))⟩
        · obtain rfl : j = m := by omega
          have HRA := hide (show ruleF ⟨(k : Int), cs, ⟨rk, re⟩⟩ = actF ⟨rk, re⟩ by
            have := HGJ.out
            rw [List.take_of_length_le (by rw [HM.out]; exact Nat.le_refl _)] at this
            rw [HRF.out, this, if_pos rfl])
          obtain ⟨fa, hfa⟩ : ∃ f, f = actF ⟨rk, re⟩ := ⟨_, rfl⟩
          rw [← hfa] at HRA HAC
          have t2 := keep_cell HBJ.out s2
          have t3 := keep_cell HBJ.out s3
          clear hfa
          by_cases hfa0 : fa = 0
          · subst hfa0
            have HQ2 := hide (HQ.out.trans HRA.out)
            have hz : ((0 : Nat) : Int) = 0 := rfl
            rw [hz] at HAC
            clear hz
            go_wp2_with (go_at_call 22; refine (HAC _).mono ?_; rintro e X2 ⟨rfl, hX2⟩)
            go_round
            case rel => exact ⟨i + 1, by omega, by go_num, hide (below_next HB.out (below_next hW1b (below_next HBJ.out hX2))), HQ2⟩
            case measure => simp [intOf]; omega
          · have HE := hide (show pf = fa by rw [HF.out, firstF_at (HQ.out.trans HRA.out) hfa0])
            have pfa : (0 : Int) < fa := by omega
            go_wp2_with (go_at_call 22; refine (HAC _).mono ?_; rintro e X2 ⟨rfl, hX2⟩)
            go_ret
            exact ⟨by rw [HE.out]; rfl, below_next HW.out (below_next hW1b (below_next HBJ.out hX2))⟩
    · obtain rfl : i = n := by omega
      have HE := hide (show (pf : Int) = 0 by
        have := HG.out
        rw [List.take_of_length_le (by rw [HN.out]; exact Nat.le_refl _)] at this
        rw [HF.out, this]
        rfl)
      go_wp2
      go_ret
      exact ⟨by rw [HE.out]; rfl, HW.out⟩
end Go.Proofs.YtklibmijiecbfaaGreat
