/- The document's ProgramFault. -/
import Derived.Test.YtlpcjonklfnejaaBRef
namespace Go.Proofs.Ytlpcjonklfnejaa
open Go.RowKit

theorem faultI_eq (op jt jf : Int) (k m : Nat) : faultI ⟨op, jt, jf, k⟩ m = if op < 1 ∨ 8 < op ∨ jt < 0 ∨ 255 < jt ∨ jf < 0 ∨ 255 < jf then 1 else if ¬ (4 ≤ op ∧ op ≤ 7) ∧ (jt ≠ 0 ∨ jf ≠ 0) then 3
    else if (op = 1 ∧ placeB k = false) ∨ (op = 3 ∧ m ≤ k) ∨ ((4 ≤ op ∧ op ≤ 7) ∧ ((m : Int) ≤ jt ∨ (m : Int) ≤ jf)) then 1 else 0 := by
  unfold faultI
  have e1 : ((decide (op < 1) || decide (8 < op) || !skipB jt || !skipB jf) = true) ↔ (op < 1 ∨ 8 < op ∨ jt < 0 ∨ 255 < jt ∨ jf < 0 ∨ 255 < jf) := by
    simp only [skipB, Bool.or_eq_true, decide_eq_true_eq, Bool.not_eq_true', Bool.and_eq_false_iff, decide_eq_false_iff_not]
    omega
  have e2 : ((!branchB op && (jt != 0 || jf != 0)) = true) ↔ (¬ (4 ≤ op ∧ op ≤ 7) ∧ (jt ≠ 0 ∨ jf ≠ 0)) := by
    simp only [branchB, Bool.and_eq_true, Bool.or_eq_true, Bool.not_eq_true', Bool.and_eq_false_iff, decide_eq_false_iff_not, bne_iff_ne]
    omega
  have e3 : ((op == 1 && !placeB k || op == 3 && decide (m ≤ k) || branchB op && (decide ((m : Int) ≤ jt) || decide ((m : Int) ≤ jf))) = true) ↔ ((op = 1 ∧ placeB k = false) ∨ (op = 3 ∧ m ≤ k) ∨ ((4 ≤ op ∧ op ≤ 7) ∧ ((m : Int) ≤ jt ∨ (m : Int) ≤ jf))) := by
    simp only [branchB, Bool.and_eq_true, Bool.or_eq_true, Bool.not_eq_true', decide_eq_true_eq, beq_iff_eq, or_assoc]
  simp only [e1, e2, e3]

/-- No call. -/
def zeroC : CL := ⟨0, 0, 0, 0, 0, 0⟩
theorem zeroC_ok : ClOk zeroC := ⟨by decide, by decide, by decide, by decide, by decide, by decide⟩

set_option maxRecDepth 20000 in
set_option maxHeartbeats 8000000 in
theorem rfault_any (oa : Option Addr) (n cap : Nat) (hn : n ≤ 9223372036854775807) (L : Nat → IN) (w : World) (h : IsProg oa n L w) :
    Calls Try.prog 45 #[.slice oa n cap] w fun e w' => e = .returned (.int .i64 (checkR n L)) ∧ Below w.heap.size w w' := by
  by_cases h0 : n = 0
  · subst h0
    go_enter Try.func45, Try.ntmps45
    go_wp2
    go_ret
    exact ⟨rfl, Below.refl _ _⟩
  by_cases h1 : 4096 < n
  · have HF := hide (show checkR n L = 2 from if_pos (.inr h1))
    go_enter Try.func45, Try.ntmps45
    go_wp2
    go_ret
    exact ⟨by rw [HF.out]; rfl, Below.refl _ _⟩
  have HR := hide (show checkR n L = if faultTo n L n = 0 then (if (L (n - 1)).op = 8 then 0 else 3) else faultTo n L n from if_neg (by omega))
  have d0 : ((n : Int) == 0) = false := by rw [beq_eq_false_iff_ne]; omega
  have dm : decide ((4096 : Int) < (n : Int)) = false := by simp; omega
  obtain ⟨b, off, rfl, hb, hA0⟩ := h.lie (by omega)
  have HA := hide hA0
  clear h hA0
  go_enter Try.func45, Try.ntmps45
  go_wp2
  go_loopw [4] (fun I w' => ∃ i : Nat, i ≤ n ∧ I = .int .i64 i ∧ Hid (Below w.heap.size w w') ∧ Hid (faultTo n L i = 0)) (fun I _ => n - (intOf I).toNat)
  case atStart => exact ⟨0, by omega, rfl, hide (Below.refl _ _), hide rfl⟩
  case round =>
    obtain ⟨i, hi, rfl, HB, HG⟩ := hrel
    by_cases hlt : i < n
    · have hI := (HA.out i hlt).on fun j => (bcell HB.out).1 b j hb
      have HQ := hide (show faultTo n L (i + 1) = faultI (L i) (n - 1 - i) by rw [faultTo, if_pos HG.out])
      have hok := hI.ok
      have HE := hide (show ∀ f, faultI (L i) (n - 1 - i) = f → f ≠ 0 → checkR n L = f from fun f h1 h2 => by
        have h3 : faultTo n L n = f := (faultTo_stays (by rw [HQ.out, h1]; exact h2) n (by omega)).trans (HQ.out.trans h1)
        rw [HR.out, if_neg (by rw [h3]; exact h2), h3])
      obtain ⟨x, hx⟩ : ∃ x, x = L i := ⟨_, rfl⟩
      rw [← hx] at hI hok HQ HE
      have HW := rword_any zeroC zeroC_ok x.k hok.k2
      obtain ⟨c0, c1, c2, c3, _⟩ := hI
      clear hx
      obtain ⟨o1, o2, o3, o4, o5, o6, hk⟩ := hok
      obtain ⟨op, jt, jf, k⟩ := x
      unfold rwordV callV at HW
      simp only [zeroC] at HW
      simp only at c0 c1 c2 c3 HW o1 o2 o3 o4 o5 o6 hk
      have hwr : b ≠ wr.heap.size := by have := HB.out.size; omega
      obtain ⟨z, hz⟩ : ∃ z : Int, z = (if placeB k = true then 0 else 1) := ⟨_, rfl⟩
      obtain ⟨u, hu⟩ : ∃ u : Int, u = (if placeB k = true then ((wordN ⟨0, 0, 0, 0, 0, 0⟩ (k / 4) : Nat) : Int) else 0) := ⟨_, rfl⟩
      rw [← hz, ← hu] at HW
      have HZZ := hide hz
      clear hz hu
      by_cases a1 : op < 1
      · have HZ := hide (show faultI ⟨op, jt, jf, k⟩ (n - 1 - i) = 1 by rw [faultI_eq, if_pos (by omega)])
        replace HE := hide (HE.out 1 HZ.out (by decide))
        clear HQ HZ
        go_wp2_with (go_at_call 44; refine (HW _).mono ?_; rintro e w2 ⟨rfl, hb2⟩; have hbc := bcell hb2)
        all_goals
          go_ret
          exact ⟨by rw [HE.out]; rfl, below_next HB.out (below_next (box_below wr _) hb2)⟩
      by_cases a2 : 8 < op
      · have HZ := hide (show faultI ⟨op, jt, jf, k⟩ (n - 1 - i) = 1 by rw [faultI_eq, if_pos (by omega)])
        replace HE := hide (HE.out 1 HZ.out (by decide))
        clear HQ HZ
        go_wp2_with (go_at_call 44; refine (HW _).mono ?_; rintro e w2 ⟨rfl, hb2⟩; have hbc := bcell hb2)
        all_goals
          go_ret
          exact ⟨by rw [HE.out]; rfl, below_next HB.out (below_next (box_below wr _) hb2)⟩
      by_cases a3 : jt < 0
      · have HZ := hide (show faultI ⟨op, jt, jf, k⟩ (n - 1 - i) = 1 by rw [faultI_eq, if_pos (by omega)])
        replace HE := hide (HE.out 1 HZ.out (by decide))
        clear HQ HZ
        go_wp2_with (go_at_call 44; refine (HW _).mono ?_; rintro e w2 ⟨rfl, hb2⟩; have hbc := bcell hb2)
        all_goals
          go_ret
          exact ⟨by rw [HE.out]; rfl, below_next HB.out (below_next (box_below wr _) hb2)⟩
      by_cases a4 : 255 < jt
      · have HZ := hide (show faultI ⟨op, jt, jf, k⟩ (n - 1 - i) = 1 by rw [faultI_eq, if_pos (by omega)])
        replace HE := hide (HE.out 1 HZ.out (by decide))
        clear HQ HZ
        go_wp2_with (go_at_call 44; refine (HW _).mono ?_; rintro e w2 ⟨rfl, hb2⟩; have hbc := bcell hb2)
        all_goals
          go_ret
          exact ⟨by rw [HE.out]; rfl, below_next HB.out (below_next (box_below wr _) hb2)⟩
      by_cases a5 : jf < 0
      · have HZ := hide (show faultI ⟨op, jt, jf, k⟩ (n - 1 - i) = 1 by rw [faultI_eq, if_pos (by omega)])
        replace HE := hide (HE.out 1 HZ.out (by decide))
        clear HQ HZ
        go_wp2_with (go_at_call 44; refine (HW _).mono ?_; rintro e w2 ⟨rfl, hb2⟩; have hbc := bcell hb2)
        all_goals
          go_ret
          exact ⟨by rw [HE.out]; rfl, below_next HB.out (below_next (box_below wr _) hb2)⟩
      by_cases a6 : 255 < jf
      · have HZ := hide (show faultI ⟨op, jt, jf, k⟩ (n - 1 - i) = 1 by rw [faultI_eq, if_pos (by omega)])
        replace HE := hide (HE.out 1 HZ.out (by decide))
        clear HQ HZ
        go_wp2_with (go_at_call 44; refine (HW _).mono ?_; rintro e w2 ⟨rfl, hb2⟩; have hbc := bcell hb2)
        all_goals
          go_ret
          exact ⟨by rw [HE.out]; rfl, below_next HB.out (below_next (box_below wr _) hb2)⟩
      by_cases b : 4 ≤ op ∧ op ≤ 7
      · obtain ⟨b4, b7⟩ := b
        have d1 : (op == 1) = false := by rw [beq_eq_false_iff_ne]; omega
        have d3 : (op == 3) = false := by rw [beq_eq_false_iff_ne]; omega
        by_cases c1 : (n : Int) ≤ (i : Int) + 1 + jt
        · have HZ := hide (show faultI ⟨op, jt, jf, k⟩ (n - 1 - i) = 1 by rw [faultI_eq, if_neg (by omega), if_neg (by omega), if_pos (by omega)])
          replace HE := hide (HE.out 1 HZ.out (by decide))
          clear HQ HZ
          go_wp2_with (go_at_call 44; refine (HW _).mono ?_; rintro e w2 ⟨rfl, hb2⟩; have hbc := bcell hb2)
          all_goals
            go_ret
            exact ⟨by rw [HE.out]; rfl, below_next HB.out (below_next (box_below wr _) hb2)⟩
        by_cases c2 : (n : Int) ≤ (i : Int) + 1 + jf
        · have HZ := hide (show faultI ⟨op, jt, jf, k⟩ (n - 1 - i) = 1 by rw [faultI_eq, if_neg (by omega), if_neg (by omega), if_pos (by omega)])
          replace HE := hide (HE.out 1 HZ.out (by decide))
          clear HQ HZ
          go_wp2_with (go_at_call 44; refine (HW _).mono ?_; rintro e w2 ⟨rfl, hb2⟩; have hbc := bcell hb2)
          all_goals
            go_ret
            exact ⟨by rw [HE.out]; rfl, below_next HB.out (below_next (box_below wr _) hb2)⟩
        have HZ := hide (show faultI ⟨op, jt, jf, k⟩ (n - 1 - i) = 0 by rw [faultI_eq, if_neg (by omega), if_neg (by omega), if_neg (by omega)])
        replace HQ := hide (HQ.out.trans HZ.out)
        clear HE HZ
        go_wp2_with (go_at_call 44; refine (HW _).mono ?_; rintro e w2 ⟨rfl, hb2⟩; have hbc := bcell hb2)
        all_goals
          go_round
          case rel => exact ⟨i + 1, by omega, by go_num, hide (below_next HB.out (below_next (box_below wr _) hb2)), HQ⟩
          case measure => simp [intOf]; omega
      have b' : op < 4 ∨ 7 < op := by omega
      by_cases t1 : 0 < jt
      · rcases b' with b5 | b5
        · have HZ := hide (show faultI ⟨op, jt, jf, k⟩ (n - 1 - i) = 3 by rw [faultI_eq, if_neg (by omega), if_pos (by omega)])
          replace HE := hide (HE.out 3 HZ.out (by decide))
          clear HQ HZ
          go_wp2_with (go_at_call 44; refine (HW _).mono ?_; rintro e w2 ⟨rfl, hb2⟩; have hbc := bcell hb2)
          all_goals
            go_ret
            exact ⟨by rw [HE.out]; rfl, below_next HB.out (below_next (box_below wr _) hb2)⟩
        · obtain rfl : op = 8 := by omega
          have HZ := hide (show faultI ⟨8, jt, jf, k⟩ (n - 1 - i) = 3 by rw [faultI_eq, if_neg (by omega), if_pos (by omega)])
          replace HE := hide (HE.out 3 HZ.out (by decide))
          clear HQ HZ
          go_wp2_with (go_at_call 44; refine (HW _).mono ?_; rintro e w2 ⟨rfl, hb2⟩; have hbc := bcell hb2)
          all_goals
            go_ret
            exact ⟨by rw [HE.out]; rfl, below_next HB.out (below_next (box_below wr _) hb2)⟩
      by_cases t2 : 0 < jf
      · rcases b' with b5 | b5
        · have HZ := hide (show faultI ⟨op, jt, jf, k⟩ (n - 1 - i) = 3 by rw [faultI_eq, if_neg (by omega), if_pos (by omega)])
          replace HE := hide (HE.out 3 HZ.out (by decide))
          clear HQ HZ
          go_wp2_with (go_at_call 44; refine (HW _).mono ?_; rintro e w2 ⟨rfl, hb2⟩; have hbc := bcell hb2)
          all_goals
            go_ret
            exact ⟨by rw [HE.out]; rfl, below_next HB.out (below_next (box_below wr _) hb2)⟩
        · obtain rfl : op = 8 := by omega
          have HZ := hide (show faultI ⟨8, jt, jf, k⟩ (n - 1 - i) = 3 by rw [faultI_eq, if_neg (by omega), if_pos (by omega)])
          replace HE := hide (HE.out 3 HZ.out (by decide))
          clear HQ HZ
          go_wp2_with (go_at_call 44; refine (HW _).mono ?_; rintro e w2 ⟨rfl, hb2⟩; have hbc := bcell hb2)
          all_goals
            go_ret
            exact ⟨by rw [HE.out]; rfl, below_next HB.out (below_next (box_below wr _) hb2)⟩
      obtain ⟨rfl, rfl⟩ : jt = 0 ∧ jf = 0 := by omega
      have hop : op = 1 ∨ op = 2 ∨ op = 3 ∨ op = 8 := by omega
      clear a1 a2 a3 a4 a5 a6 b b' t1 t2
      rcases hop with rfl | rfl | rfl | rfl
      · have hz := HZZ.out
        cases e4 : placeB k with
        | false =>
          rw [e4, if_neg (by decide)] at hz
          subst hz
          clear HZZ
          have HZ := hide (show faultI ⟨1, 0, 0, k⟩ (n - 1 - i) = 1 by rw [faultI_eq, if_neg (by omega), if_neg (by omega), if_pos (.inl ⟨rfl, e4⟩)])
          replace HE := hide (HE.out 1 HZ.out (by decide))
          clear HQ HZ
          go_wp2_with (go_at_call 44; refine (HW _).mono ?_; rintro e w2 ⟨rfl, hb2⟩; have hbc := bcell hb2)
          all_goals
            go_ret
            exact ⟨by rw [HE.out]; rfl, below_next HB.out (below_next (box_below wr _) hb2)⟩
        | true =>
          rw [e4, if_pos rfl] at hz
          subst hz
          clear HZZ
          have HZ := hide (show faultI ⟨1, 0, 0, k⟩ (n - 1 - i) = 0 by rw [faultI_eq, if_neg (by omega), if_neg (by omega), if_neg (by rw [e4]; simp)])
          replace HQ := hide (HQ.out.trans HZ.out)
          clear HE HZ
          go_wp2_with (go_at_call 44; refine (HW _).mono ?_; rintro e w2 ⟨rfl, hb2⟩; have hbc := bcell hb2)
          all_goals
            go_round
            case rel => exact ⟨i + 1, by omega, by go_num, hide (below_next HB.out (below_next (box_below wr _) hb2)), HQ⟩
            case measure => simp [intOf]; omega
      · have HZ := hide (show faultI ⟨2, 0, 0, k⟩ (n - 1 - i) = 0 by rw [faultI_eq, if_neg (by omega), if_neg (by omega), if_neg (by omega)])
        replace HQ := hide (HQ.out.trans HZ.out)
        clear HE HZ
        go_wp2_with (go_at_call 44; refine (HW _).mono ?_; rintro e w2 ⟨rfl, hb2⟩; have hbc := bcell hb2)
        all_goals
          go_round
          case rel => exact ⟨i + 1, by omega, by go_num, hide (below_next HB.out (below_next (box_below wr _) hb2)), HQ⟩
          case measure => simp [intOf]; omega
      · by_cases c3 : n ≤ k + i + 1
        · have c4 : (n : Int) ≤ (k : Int) + (i : Int) + 1 := by omega
          have HZ := hide (show faultI ⟨3, 0, 0, k⟩ (n - 1 - i) = 1 by rw [faultI_eq, if_neg (by omega), if_neg (by omega), if_pos (by omega)])
          replace HE := hide (HE.out 1 HZ.out (by decide))
          clear HQ HZ
          go_wp2_with (go_at_call 44; refine (HW _).mono ?_; rintro e w2 ⟨rfl, hb2⟩; have hbc := bcell hb2)
          all_goals
            go_ret
            exact ⟨by rw [HE.out]; rfl, below_next HB.out (below_next (box_below wr _) hb2)⟩
        · have c4 : ¬ (n : Int) ≤ (k : Int) + (i : Int) + 1 := by omega
          have HZ := hide (show faultI ⟨3, 0, 0, k⟩ (n - 1 - i) = 0 by rw [faultI_eq, if_neg (by omega), if_neg (by omega), if_neg (by omega)])
          replace HQ := hide (HQ.out.trans HZ.out)
          clear HE HZ
          go_wp2_with (go_at_call 44; refine (HW _).mono ?_; rintro e w2 ⟨rfl, hb2⟩; have hbc := bcell hb2)
          all_goals
            go_round
            case rel => exact ⟨i + 1, by omega, by go_num, hide (below_next HB.out (below_next (box_below wr _) hb2)), HQ⟩
            case measure => simp [intOf]; omega
      · have HZ := hide (show faultI ⟨8, 0, 0, k⟩ (n - 1 - i) = 0 by rw [faultI_eq, if_neg (by omega), if_neg (by omega), if_neg (by omega)])
        replace HQ := hide (HQ.out.trans HZ.out)
        clear HE HZ
        go_wp2_with (go_at_call 44; refine (HW _).mono ?_; rintro e w2 ⟨rfl, hb2⟩; have hbc := bcell hb2)
        all_goals
          go_round
          case rel => exact ⟨i + 1, by omega, by go_num, hide (below_next HB.out (below_next (box_below wr _) hb2)), HQ⟩
          case measure => simp [intOf]; omega
    · obtain rfl : i = n := by omega
      have hI := (HA.out (i - 1) (by omega)).on fun j => (bcell HB.out).1 b j hb
      have c0 := hI.k0
      have HE := hide (show checkR i L = if (L (i - 1)).op = 8 then 0 else 3 by rw [HR.out, if_pos HG.out])
      obtain ⟨op, hop⟩ : ∃ op, op = (L (i - 1)).op := ⟨_, rfl⟩
      rw [← hop] at c0 HE
      clear hop hI
      obtain ⟨j, rfl⟩ : ∃ j, i = j + 1 := ⟨i - 1, by omega⟩
      rw [Nat.add_sub_cancel] at c0
      by_cases h8 : op = 8
      · subst h8
        go_wp2
        go_ret
        exact ⟨by rw [HE.out]; rfl, HB.out⟩
      · have d8 : (op != 8) = true := by rw [bne_iff_ne]; exact h8
        go_wp2
        go_ret
        exact ⟨by rw [HE.out, if_neg h8]; rfl, HB.out⟩
end Go.Proofs.Ytlpcjonklfnejaa
