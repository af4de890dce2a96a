/- LightPolicy, LightValues. -/
import Derived.Test.YtbifjokfnahiaabGreatDoorK21
import Derived.BigQuiet
namespace Go.Proofs.YtbifjokfnahiaabGreatDoor
open Go.RowKit Go.Sort

def lightC (c : CD) : Bool := decide (c.glob.size ≤ 60)
def lightR (r : RL) : Bool := decide (r.conds.length ≤ 6) && r.conds.all lightC
def lightB (p : POL) : Bool := decide (p.rules.length ≤ 14) && p.rules.all lightR
def lightVL (v : VL) : Bool := decide (v.path.size ≤ 100)
def lightTo (v : VS) : Nat → Bool
  | 0 => true
  | i + 1 => lightTo v i && lightVL (v.at i)
def lightV (v : VS) : Bool := lightTo v 4
theorem lightTo_false {v : VS} {i : Nat} (h : lightTo v i = false) : ∀ k, lightTo v (i + k) = false
  | 0 => h
  | k + 1 => by rw [← Nat.add_assoc, lightTo, lightTo_false h k, Bool.false_and]

set_option maxHeartbeats 4000000 in
theorem lightPol_any (p : POL) (oa : Option Addr) (cap : Nat) (w : World) (h : IsPol oa cap p w) :
    Calls Tryz.prog 4 #[polV p oa cap] w fun e w' => e = .returned (.bool (lightB p)) ∧ Below w.heap.size w w' := by
  obtain ⟨n, hn⟩ : ∃ n, n = p.rules.length := ⟨_, rfl⟩
  have HC := hide (pol_parts h n hn)
  have hmax : n ≤ 9223372036854775807 := by have h1 := h.le; have h2 := h.cap; unfold maxLen at h2; omega
  clear h
  obtain ⟨rs, ⟨ak, ae⟩⟩ := p
  unfold polV
  simp only at HC hn ⊢
  rw [← hn]
  have HZ := hide (show lightB ⟨rs, ⟨ak, ae⟩⟩ = (decide (n ≤ 14) && rs.all lightR) by rw [hn]; rfl)
  obtain ⟨z, hz⟩ : ∃ z, z = lightB ⟨rs, ⟨ak, ae⟩⟩ := ⟨_, rfl⟩
  rw [← hz] at HZ ⊢
  have HN := hide hn
  have HL := hide (show ∀ i, i < n → ∃ c, rs[i]? = some c ∧ rs.take (i + 1) = rs.take i ++ [c] from fun i h => take_next (by omega))
  clear hn hz
  obtain ⟨V, hV, hB, hsz, hx⟩ := one_box w #[.slice oa n cap, .int .i64 ak, .int .i64 ae] 26
  have x0 := hx 0
  simp only [List.getElem?_toArray, List.getElem?_cons_zero] at x0
  clear hx
  by_cases h14 : 14 < n
  · have HF := hide (show z = false by rw [HZ.out, decide_eq_false (by omega), Bool.false_and])
    go_enter Tryz.func4, Tryz.ntmps4
    go_wp2
    go_ret
    exact ⟨ret_bool HF.out.symm, box_below _ _⟩
  have HZ2 := hide (show z = rs.all lightR by rw [HZ.out, decide_eq_true (by omega), Bool.true_and])
  clear HZ
  go_enter Tryz.func4, Tryz.ntmps4
  go_wp2
  rw [← hV]
  clear hV
  go_loopw [3] (fun I w' => ∃ i : Nat, i ≤ n ∧ I = .int .i64 i ∧ Hid ((rs.take i).all lightR = true) ∧ w' = V) (fun I _ => n - (intOf I).toNat)
  case atStart => exact ⟨0, by omega, rfl, hide rfl, rfl⟩
  case round =>
    obtain ⟨i, hi, rfl, HG, hwr⟩ := hrel
    replace hwr := hwr.symm
    subst hwr
    by_cases hlt : i < n
    · obtain ⟨c, hcs, hcat⟩ := HL.out i hlt
      obtain ⟨b, off, rfl, hbw, HA⟩ := HC.out (by omega)
      obtain ⟨ca, cc, hR0⟩ := HA.out i c hcs
      have hR := hR0.on hbw hB
      clear hR0
      have k1 := hR.k1
      have HQ := hide (all_take_snoc (f := lightR) hcat HG.out)
      obtain ⟨m, hm⟩ : ∃ m, m = c.conds.length := ⟨_, rfl⟩
      rw [← hm] at k1
      have HCC := hide (conds_parts hR.conds m hm)
      have hmm : m ≤ 9223372036854775807 := by have h1 := hR.le; have h2 := hR.cap; unfold maxLen at h2; omega
      have HLR := hide (show lightR c = (decide (m ≤ 6) && c.conds.all lightC) by rw [hm]; rfl)
      have HCL := hide (show ∀ j, j < m → ∃ x, c.conds[j]? = some x ∧ c.conds.take (j + 1) = c.conds.take j ++ [x] from fun j h => take_next (by omega))
      have HM := hide hm
      clear hm hR hcs hcat
      by_cases h6 : 6 < m
      · have HF := hide (show z = false by
          rw [HZ2.out]
          refine all_take_false (i := i + 1) ?_
          rw [HQ.out, HLR.out, decide_eq_false (by omega), Bool.false_and])
        go_wp2
        go_ret
        exact ⟨ret_bool HF.out.symm, hB⟩
      have HLR2 := hide (show lightR c = c.conds.all lightC by rw [HLR.out, decide_eq_true (by omega), Bool.true_and])
      clear HLR
      go_wp2
      go_loopw [4] (fun J w' => ∃ j : Nat, j ≤ m ∧ J = .int .i64 j ∧ Hid ((c.conds.take j).all lightC = true) ∧ w' = V) (fun J _ => m - (intOf J).toNat)
      case atStart => exact ⟨0, by omega, rfl, hide rfl, rfl⟩
      case round =>
        obtain ⟨j, hj, rfl, HGJ, hwr⟩ := hrel
        replace hwr := hwr.symm
        subst hwr
        by_cases hjl : j < m
        · obtain ⟨x, hxs, hxcat⟩ := HCL.out j hjl
          obtain ⟨b2, off2, rfl, hbw2, HA2⟩ := HCC.out (by omega)
          have k4 := (HA2.out j x hxs).k4
          have HQ2 := hide (all_take_snoc (f := lightC) hxcat HGJ.out)
          have HLC := hide (show lightC x = decide (x.glob.size ≤ 60) from rfl)
          obtain ⟨gl, hgl⟩ : ∃ g, g = x.glob := ⟨_, rfl⟩
          rw [← hgl] at k4 HLC
          clear hgl hxs hxcat
          by_cases h60 : 60 < gl.size
          · have HF := hide (show z = false by
              rw [HZ2.out]
              refine all_take_false (i := i + 1) ?_
              rw [HQ.out, HLR2.out]
              refine all_take_false (i := j + 1) ?_
              rw [HQ2.out, HLC.out, decide_eq_false (by omega)])
            go_wp2
            go_ret
            exact ⟨ret_bool HF.out.symm, hB⟩
          · replace HQ2 := hide (show (c.conds.take (j + 1)).all lightC = true by rw [HQ2.out, HLC.out, decide_eq_true (by omega)])
            go_wp2
            go_round
            case rel => exact ⟨j + 1, by omega, by go_num, HQ2, trivial⟩
            case measure => simp [intOf]; omega
        · obtain rfl : j = m := by omega
          have HQ3 := hide (show (rs.take (i + 1)).all lightR = true by
            rw [HQ.out, HLR2.out]
            have := HGJ.out
            rwa [List.take_of_length_le (by rw [HM.out]; exact Nat.le_refl _)] at this)
          go_wp2
          go_round
          case rel => exact ⟨i + 1, by omega, by go_num, HQ3, trivial⟩
          case measure => simp [intOf]; omega
    · obtain rfl : i = n := by omega
      have HF := hide (show z = true by
        have := HG.out
        rw [List.take_of_length_le (by rw [HN.out]; exact Nat.le_refl _)] at this
        rw [HZ2.out, this])
      go_wp2
      go_ret
      exact ⟨ret_bool HF.out.symm, hB⟩

set_option maxHeartbeats 1000000 in
theorem lightVals_any (v : VS) (w : World) : Calls Tryz.prog 5 #[vsV v] w fun e w' => e = .returned (.bool (lightV v)) ∧ Below w.heap.size w w' := by
  obtain ⟨vc, hvc⟩ : ∃ c, c = vsC v := ⟨_, rfl⟩
  have hvs : vc.size = 12 := by rw [hvc]; rfl
  unfold vsV
  rw [← hvc]
  have HVC := hide hvc
  clear hvc
  obtain ⟨V, hV, hB, hsz, hx⟩ := one_box w vc 35
  have HX := hide hx
  clear hx
  obtain ⟨z, hz⟩ : ∃ z, z = lightV v := ⟨_, rfl⟩
  have HZ := hide hz
  rw [← hz]
  clear hz
  go_enter Tryz.func5, Tryz.ntmps5
  go_wp2
  rw [← hV]
  clear hV
  go_loopw [3] (fun I w' => ∃ i : Nat, i ≤ 4 ∧ I = .int .i64 i ∧ Hid (lightTo v i = true) ∧ w' = V) (fun I _ => 4 - (intOf I).toNat)
  case atStart => exact ⟨0, by omega, rfl, hide rfl, rfl⟩
  case round =>
    obtain ⟨i, hi, rfl, HG, hwr⟩ := hrel
    replace hwr := hwr.symm
    subst hwr
    by_cases hlt : i < 4
    · have k0 : V.cell? ⟨w.heap.size, i * 3, none⟩ = some (.string (v.at i).path) := by rw [HX.out (i * 3), HVC.out]; exact (vsC_at v i (by omega)).1
      have HQ := hide (show lightTo v (i + 1) = decide ((v.at i).path.size ≤ 100) by rw [lightTo, HG.out, Bool.true_and]; rfl)
      obtain ⟨p, hp⟩ : ∃ p, p = (v.at i).path := ⟨_, rfl⟩
      rw [← hp] at k0 HQ
      clear hp
      by_cases h100 : 100 < p.size
      · have HF := hide (show z = false by
          have h1 := lightTo_false (HQ.out.trans (decide_eq_false (by omega))) (3 - i)
          rw [show i + 1 + (3 - i) = 4 by omega] at h1
          rw [HZ.out]
          exact h1)
        go_wp2
        go_ret
        exact ⟨ret_bool HF.out.symm, hB⟩
      · replace HQ := hide (HQ.out.trans (decide_eq_true (by omega)))
        go_wp2
        go_round
        case rel => exact ⟨i + 1, by omega, by go_num, HQ, trivial⟩
        case measure => simp [intOf]; omega
    · obtain rfl : i = 4 := by omega
      have HF := hide (show z = true by rw [HZ.out]; exact HG.out)
      go_wp2
      go_ret
      exact ⟨ret_bool HF.out.symm, hB⟩
end Go.Proofs.YtbifjokfnahiaabGreatDoor

/- SamePolicy, of two that are alike. -/
namespace Go.Proofs.YtbifjokfnahiaabGreatDoor
open Go.RowKit Go.Sort

set_option maxHeartbeats 4000000 in
set_option maxRecDepth 100000 in
theorem samePol_any (p : POL) (oa ob : Option Addr) (cap cbp : Nat) (w : World) (h1 : IsPol oa cap p w) (h2 : IsPol ob cbp p w) :
    Calls Tryz.prog 11 #[polV p oa cap, polV p ob cbp] w fun e w' => e = .returned (.bool true) ∧ Below w.heap.size w w' := by
  obtain ⟨n, hn⟩ : ∃ n, n = p.rules.length := ⟨_, rfl⟩
  have HC := hide (pol_parts h1 n hn)
  have HD := hide (pol_parts h2 n hn)
  have hmax : n ≤ 9223372036854775807 := by have h3 := h1.le; have h4 := h1.cap; unfold maxLen at h4; omega
  clear h1 h2
  obtain ⟨rs, ⟨ak, ae⟩⟩ := p
  unfold polV
  simp only at HC HD hn ⊢
  rw [← hn]
  have HL := hide (show ∀ i, i < n → ∃ c, rs[i]? = some c from fun i h => ⟨_, List.getElem?_eq_getElem (by omega)⟩)
  clear hn
  obtain ⟨V, hV, hB, hx, hy⟩ := two_box w #[.slice oa n cap, .int .i64 ak, .int .i64 ae] #[.slice ob n cbp, .int .i64 ak, .int .i64 ae] 26 26
  have x0 := hx 0
  have y0 := hy 0
  simp only [List.getElem?_toArray, List.getElem?_cons_zero] at x0 y0
  clear hx hy
  go_enter Tryz.func11, Tryz.ntmps11
  go_wp2
  rw [← hV]
  clear hV
  go_loopw [5] (fun I w' => ∃ i : Nat, i ≤ n ∧ I = .int .i64 i ∧ Hid (Below V.heap.size V w')) (fun I _ => n - (intOf I).toNat)
  case atStart => exact ⟨0, by omega, rfl, hide (Below.refl _ _)⟩
  case round =>
    obtain ⟨i, hi, rfl, HB⟩ := hrel
    have HW := hide (below_next hB HB.out)
    have z0 := keep_cell HB.out x0
    have u0 := keep_cell HB.out y0
    by_cases hlt : i < n
    · obtain ⟨c, hcs⟩ := HL.out i hlt
      obtain ⟨b, off, rfl, hbw, HA⟩ := HC.out (by omega)
      obtain ⟨b2, off2, rfl, hbw2, HA2⟩ := HD.out (by omega)
      obtain ⟨ca, cc, hR0⟩ := HA.out i c hcs
      obtain ⟨cb, cd, hS0⟩ := HA2.out i c hcs
      have hR := hR0.on hbw HW.out
      have hS := hS0.on hbw2 HW.out
      obtain ⟨m, hm⟩ : ∃ m, m = c.conds.length := ⟨_, rfl⟩
      have hmm : m ≤ 9223372036854775807 := by have h1 := hR.le; have h2 := hR.cap; unfold maxLen at h2; omega
      obtain ⟨W2, hW2, hW2b, hr, hs⟩ := two_box wr #[.int .i64 c.nr, .slice ca m cc, .int .i64 c.act.kind, .int .i64 c.act.errno] #[.int .i64 c.nr, .slice cb m cd, .int .i64 c.act.kind, .int .i64 c.act.errno] 56 56
      have HCC := hide (conds_parts (hR.conds.on hW2b) m hm)
      have HCD := hide (conds_parts (hS.conds.on hW2b) m hm)
      have HCL := hide (show ∀ j, j < m → ∃ x, c.conds[j]? = some x from fun j h => ⟨_, List.getElem?_eq_getElem (by omega)⟩)
      obtain ⟨p0, p1, p2, p3, _, _, _, _⟩ := hR
      obtain ⟨q0, q1, q2, q3, _, _, _, _⟩ := hS
      rw [← hm] at p1 q1
      have r1 := hr 1
      have s1 := hs 1
      simp only [List.getElem?_toArray, List.getElem?_cons_zero, List.getElem?_cons_succ] at r1 s1
      have lb : b < wr.heap.size := Nat.lt_of_lt_of_le hbw HW.out.size
      have lb2 : b2 < wr.heap.size := Nat.lt_of_lt_of_le hbw2 HW.out.size
      have lw : w.heap.size + 1 < wr.heap.size := block_lt_of_cell u0
      clear hr hs hR0 hS0 hcs hm
      obtain ⟨nr, cs, ⟨rk, re⟩⟩ := c
      simp only at p0 p1 p2 p3 q0 q1 q2 q3 hW2 HCL HCC HCD
      go_wp2
      rw [← hW2]
      have HW2 := hide hW2
      clear hW2
      go_loopw [8] (fun J w' => ∃ j : Nat, j ≤ m ∧ J = .int .i64 j ∧ Hid (Below W2.heap.size W2 w')) (fun J _ => m - (intOf J).toNat)
      case atStart => exact ⟨0, by omega, rfl, hide (Below.refl _ _)⟩
      case round =>
        obtain ⟨j, hj, rfl, HBJ⟩ := hrel
        have t1 := keep_cell HBJ.out r1
        have v1 := keep_cell HBJ.out s1
        by_cases hjl : j < m
        · obtain ⟨x, hxs⟩ := HCL.out j hjl
          obtain ⟨b3, off3, rfl, hbw3, HA3⟩ := HCC.out (by omega)
          obtain ⟨b4, off4, rfl, hbw4, HA4⟩ := HCD.out (by omega)
          obtain ⟨g0, g1, g2, g3, g4, g5, g6, g7, g8, _⟩ := (HA3.out j x hxs).on fun k => (bcell HBJ.out).1 b3 k hbw3
          obtain ⟨k0, k1, k2, k3, k4, k5, k6, k7, k8, _⟩ := (HA4.out j x hxs).on fun k => (bcell HBJ.out).1 b4 k hbw4
          obtain ⟨arg, op, vv, mm, gl, ⟨ip, bb, lo, hh⟩⟩ := x
          simp only at g0 g1 g2 g3 g4 g5 g6 g7 g8 k0 k1 k2 k3 k4 k5 k6 k7 k8
          have i1 : (0 : Int) ≤ j := by omega
          have i2 : (j : Int) < m := by omega
          clear hxs
          go_wp2
          go_quiet (fail)
          go_wp2
          go_round
          case rel => exact ⟨j + 1, by omega, by go_num, hide (below_drewN' HBJ.out _)⟩
          case measure => simp [intOf]; omega
        · obtain rfl : j = m := by omega
          go_wp2
          go_round
          case rel => exact ⟨i + 1, by omega, by go_num, hide (below_next (below_next HB.out hW2b) HBJ.out)⟩
          case measure => simp [intOf]; omega
    · obtain rfl : i = n := by omega
      go_wp2
      go_ret
      exact ⟨rfl, HW.out⟩
end Go.Proofs.YtbifjokfnahiaabGreatDoor
