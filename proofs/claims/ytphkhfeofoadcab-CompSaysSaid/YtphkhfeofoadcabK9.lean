/- The document's condFault where the kind is right, and PolicyFault. -/
import Derived.Test.YtphkhfeofoadcabK8
import Derived.Test.YtphkhfeofoadcabK6
import Derived.Test.YtphkhfeofoadcabK7
import Derived.Test.YtphkhfeofoadcabK1
import Derived.ProofKit
import Derived.Carry
import Derived.OpenShut
import Derived.Deep.Slices
import Derived.Lib.SmallJoins
namespace Go.Proofs.Ytphkhfeofoadcab
open Go.RowKit Go.Sort

set_option maxHeartbeats 8000000 in
set_option maxRecDepth 100000 in
theorem dcondF_num (nr a : Nat) (hnr : nr < 9) (ha : a ≤ 3) (op : Int) (h1 : ¬ op < 1) (h6 : ¬ 6 < op) (v m : Nat) (g : ByteArray) (ip : Nat) (b lo hi : Int) (w : World) (hk : kindAt nr a = 1) (f : Nat) (hu3 : unusedP ⟨a, op, v, m, g, ⟨ip, b, lo, hi⟩⟩ → f = 3) (hu0 : ¬ unusedP ⟨a, op, v, m, g, ⟨ip, b, lo, hi⟩⟩ → f = 0) :
    Calls Try.prog 21 #[.int .i64 nr, condV ⟨a, op, v, m, g, ⟨ip, b, lo, hi⟩⟩] w fun e w' => e = .returned (.int .i64 f) ∧ Below w.heap.size w w' := by
  have HK := fun X => dkind_any nr a hnr (by omega) X
  rw [hk] at HK
  have HU3 := hide hu3
  have HU0 := hide hu0
  clear hk hu3 hu0 hnr
  unfold condV
  simp only
  have i1 : ¬ (a : Int) < 0 := by omega
  have i2 : ¬ 3 < (a : Int) := by omega
  have n7 : ¬ op = 7 := by omega
  have n8 : ¬ op = 8 := by omega
  have n9 : ¬ op = 9 := by omega
  have b7 : (op != 7) = true := by simpa using n7
  have b8 : (op != 8) = true := by simpa using n8
  have b9 : (op != 9) = true := by simpa using n9
  have m7 : ¬ 7 < op := by omega
  have m9 : ¬ 9 < op := by omega
  by_cases hm : m = 0
  · subst hm
    by_cases hv : v = 0
    · subst hv
      by_cases hg : g.size = 0
      · have pg : ¬ (0 : Int) < g.size := by omega
        by_cases hip : ip = 0
        · subst hip
          by_cases hb : b = 0
          · subst hb
            by_cases hlo : lo = 0
            · subst hlo
              by_cases hhi : hi = 0
              · subst hhi
                have HF := hide (show (f : Int) = 0 by rw [HU0.out (by unfold unusedP netZ; first | (simp only; omega) | (simp; omega) | simp_all)]; rfl)
                clear HU3 HU0
                go_enter Try.func21, Try.ntmps21
                go_wp2_with (first
                  | (go_at_call 31; refine (HK _).mono ?_; rintro e X ⟨rfl, rfl⟩))
                all_goals
                  go_ret
                  exact ⟨by rw [HF.out]; rfl, below_next (box_below _ _) (box_below _ _)⟩
              · have phi : ¬ (hi : Int) = 0 := by omega
                have HF := hide (show (f : Int) = 3 by rw [HU3.out (by unfold unusedP netZ; first | (simp only; omega) | (simp; omega) | simp_all)]; rfl)
                clear HU3 HU0
                go_enter Try.func21, Try.ntmps21
                go_wp2_with (first
                  | (go_at_call 31; refine (HK _).mono ?_; rintro e X ⟨rfl, rfl⟩))
                all_goals
                  go_ret
                  exact ⟨by rw [HF.out]; rfl, below_next (box_below _ _) (box_below _ _)⟩
            · have plo : ¬ (lo : Int) = 0 := by omega
              have HF := hide (show (f : Int) = 3 by rw [HU3.out (by unfold unusedP netZ; first | (simp only; omega) | (simp; omega) | simp_all)]; rfl)
              clear HU3 HU0
              go_enter Try.func21, Try.ntmps21
              go_wp2_with (first
                | (go_at_call 31; refine (HK _).mono ?_; rintro e X ⟨rfl, rfl⟩))
              all_goals
                go_ret
                exact ⟨by rw [HF.out]; rfl, below_next (box_below _ _) (box_below _ _)⟩
          · have pb : ¬ (b : Int) = 0 := by omega
            have HF := hide (show (f : Int) = 3 by rw [HU3.out (by unfold unusedP netZ; first | (simp only; omega) | (simp; omega) | simp_all)]; rfl)
            clear HU3 HU0
            go_enter Try.func21, Try.ntmps21
            go_wp2_with (first
              | (go_at_call 31; refine (HK _).mono ?_; rintro e X ⟨rfl, rfl⟩))
            all_goals
              go_ret
              exact ⟨by rw [HF.out]; rfl, below_next (box_below _ _) (box_below _ _)⟩
        · have pip : ¬ (ip : Int) = 0 := by omega
          have HF := hide (show (f : Int) = 3 by rw [HU3.out (by unfold unusedP netZ; first | (simp only; omega) | (simp; omega) | simp_all)]; rfl)
          clear HU3 HU0
          go_enter Try.func21, Try.ntmps21
          go_wp2_with (first
            | (go_at_call 31; refine (HK _).mono ?_; rintro e X ⟨rfl, rfl⟩))
          all_goals
            go_ret
            exact ⟨by rw [HF.out]; rfl, below_next (box_below _ _) (box_below _ _)⟩
      · have pg : (0 : Int) < g.size := by omega
        have HF := hide (show (f : Int) = 3 by rw [HU3.out (by unfold unusedP netZ; first | (simp only; omega) | (simp; omega) | simp_all)]; rfl)
        clear HU3 HU0
        go_enter Try.func21, Try.ntmps21
        go_wp2_with (first
          | (go_at_call 31; refine (HK _).mono ?_; rintro e X ⟨rfl, rfl⟩))
        all_goals
          go_ret
          exact ⟨by rw [HF.out]; rfl, below_next (box_below _ _) (box_below _ _)⟩
    · have pv : (0 : Int) < v := by omega
      by_cases hg : g.size = 0
      · have pg : ¬ (0 : Int) < g.size := by omega
        by_cases hip : ip = 0
        · subst hip
          by_cases hb : b = 0
          · subst hb
            by_cases hlo : lo = 0
            · subst hlo
              by_cases hhi : hi = 0
              · subst hhi
                have HF := hide (show (f : Int) = 0 by rw [HU0.out (by unfold unusedP netZ; first | (simp only; omega) | (simp; omega) | simp_all)]; rfl)
                clear HU3 HU0
                go_enter Try.func21, Try.ntmps21
                go_wp2_with (first
                  | (go_at_call 31; refine (HK _).mono ?_; rintro e X ⟨rfl, rfl⟩))
                all_goals
                  go_ret
                  exact ⟨by rw [HF.out]; rfl, below_next (box_below _ _) (box_below _ _)⟩
              · have phi : ¬ (hi : Int) = 0 := by omega
                have HF := hide (show (f : Int) = 3 by rw [HU3.out (by unfold unusedP netZ; first | (simp only; omega) | (simp; omega) | simp_all)]; rfl)
                clear HU3 HU0
                go_enter Try.func21, Try.ntmps21
                go_wp2_with (first
                  | (go_at_call 31; refine (HK _).mono ?_; rintro e X ⟨rfl, rfl⟩))
                all_goals
                  go_ret
                  exact ⟨by rw [HF.out]; rfl, below_next (box_below _ _) (box_below _ _)⟩
            · have plo : ¬ (lo : Int) = 0 := by omega
              have HF := hide (show (f : Int) = 3 by rw [HU3.out (by unfold unusedP netZ; first | (simp only; omega) | (simp; omega) | simp_all)]; rfl)
              clear HU3 HU0
              go_enter Try.func21, Try.ntmps21
              go_wp2_with (first
                | (go_at_call 31; refine (HK _).mono ?_; rintro e X ⟨rfl, rfl⟩))
              all_goals
                go_ret
                exact ⟨by rw [HF.out]; rfl, below_next (box_below _ _) (box_below _ _)⟩
          · have pb : ¬ (b : Int) = 0 := by omega
            have HF := hide (show (f : Int) = 3 by rw [HU3.out (by unfold unusedP netZ; first | (simp only; omega) | (simp; omega) | simp_all)]; rfl)
            clear HU3 HU0
            go_enter Try.func21, Try.ntmps21
            go_wp2_with (first
              | (go_at_call 31; refine (HK _).mono ?_; rintro e X ⟨rfl, rfl⟩))
            all_goals
              go_ret
              exact ⟨by rw [HF.out]; rfl, below_next (box_below _ _) (box_below _ _)⟩
        · have pip : ¬ (ip : Int) = 0 := by omega
          have HF := hide (show (f : Int) = 3 by rw [HU3.out (by unfold unusedP netZ; first | (simp only; omega) | (simp; omega) | simp_all)]; rfl)
          clear HU3 HU0
          go_enter Try.func21, Try.ntmps21
          go_wp2_with (first
            | (go_at_call 31; refine (HK _).mono ?_; rintro e X ⟨rfl, rfl⟩))
          all_goals
            go_ret
            exact ⟨by rw [HF.out]; rfl, below_next (box_below _ _) (box_below _ _)⟩
      · have pg : (0 : Int) < g.size := by omega
        have HF := hide (show (f : Int) = 3 by rw [HU3.out (by unfold unusedP netZ; first | (simp only; omega) | (simp; omega) | simp_all)]; rfl)
        clear HU3 HU0
        go_enter Try.func21, Try.ntmps21
        go_wp2_with (first
          | (go_at_call 31; refine (HK _).mono ?_; rintro e X ⟨rfl, rfl⟩))
        all_goals
          go_ret
          exact ⟨by rw [HF.out]; rfl, below_next (box_below _ _) (box_below _ _)⟩
  · have pm : (0 : Int) < m := by omega
    have HF := hide (show (f : Int) = 3 by rw [HU3.out (by unfold unusedP netZ; first | (simp only; omega) | (simp; omega) | simp_all)]; rfl)
    clear HU3 HU0
    go_enter Try.func21, Try.ntmps21
    go_wp2_with (first
      | (go_at_call 31; refine (HK _).mono ?_; rintro e X ⟨rfl, rfl⟩))
    all_goals
      go_ret
      exact ⟨by rw [HF.out]; rfl, below_next (box_below _ _) (box_below _ _)⟩

set_option maxHeartbeats 8000000 in
set_option maxRecDepth 100000 in
theorem dcondF_mask (nr a : Nat) (hnr : nr < 9) (ha : a ≤ 3) (v m : Nat) (g : ByteArray) (ip : Nat) (b lo hi : Int) (w : World) (hk : kindAt nr a = 1) (f : Nat) (hu3 : unusedP ⟨a, 7, v, m, g, ⟨ip, b, lo, hi⟩⟩ → f = 3) (hu0 : ¬ unusedP ⟨a, 7, v, m, g, ⟨ip, b, lo, hi⟩⟩ → f = 0) :
    Calls Try.prog 21 #[.int .i64 nr, condV ⟨a, 7, v, m, g, ⟨ip, b, lo, hi⟩⟩] w fun e w' => e = .returned (.int .i64 f) ∧ Below w.heap.size w w' := by
  have HK := fun X => dkind_any nr a hnr (by omega) X
  rw [hk] at HK
  have HU3 := hide hu3
  have HU0 := hide hu0
  clear hk hu3 hu0 hnr
  unfold condV
  simp only
  have i1 : ¬ (a : Int) < 0 := by omega
  have i2 : ¬ 3 < (a : Int) := by omega
  by_cases hm : m = 0
  · subst hm
    by_cases hv : v = 0
    · subst hv
      by_cases hg : g.size = 0
      · have pg : ¬ (0 : Int) < g.size := by omega
        by_cases hip : ip = 0
        · subst hip
          by_cases hb : b = 0
          · subst hb
            by_cases hlo : lo = 0
            · subst hlo
              by_cases hhi : hi = 0
              · subst hhi
                have HF := hide (show (f : Int) = 0 by rw [HU0.out (by unfold unusedP netZ; first | (simp only; omega) | (simp; omega) | simp_all)]; rfl)
                clear HU3 HU0
                go_enter Try.func21, Try.ntmps21
                go_wp2_with (first
                  | (go_at_call 31; refine (HK _).mono ?_; rintro e X ⟨rfl, rfl⟩))
                all_goals
                  go_ret
                  exact ⟨by rw [HF.out]; rfl, below_next (box_below _ _) (box_below _ _)⟩
              · have phi : ¬ (hi : Int) = 0 := by omega
                have HF := hide (show (f : Int) = 3 by rw [HU3.out (by unfold unusedP netZ; first | (simp only; omega) | (simp; omega) | simp_all)]; rfl)
                clear HU3 HU0
                go_enter Try.func21, Try.ntmps21
                go_wp2_with (first
                  | (go_at_call 31; refine (HK _).mono ?_; rintro e X ⟨rfl, rfl⟩))
                all_goals
                  go_ret
                  exact ⟨by rw [HF.out]; rfl, below_next (box_below _ _) (box_below _ _)⟩
            · have plo : ¬ (lo : Int) = 0 := by omega
              have HF := hide (show (f : Int) = 3 by rw [HU3.out (by unfold unusedP netZ; first | (simp only; omega) | (simp; omega) | simp_all)]; rfl)
              clear HU3 HU0
              go_enter Try.func21, Try.ntmps21
              go_wp2_with (first
                | (go_at_call 31; refine (HK _).mono ?_; rintro e X ⟨rfl, rfl⟩))
              all_goals
                go_ret
                exact ⟨by rw [HF.out]; rfl, below_next (box_below _ _) (box_below _ _)⟩
          · have pb : ¬ (b : Int) = 0 := by omega
            have HF := hide (show (f : Int) = 3 by rw [HU3.out (by unfold unusedP netZ; first | (simp only; omega) | (simp; omega) | simp_all)]; rfl)
            clear HU3 HU0
            go_enter Try.func21, Try.ntmps21
            go_wp2_with (first
              | (go_at_call 31; refine (HK _).mono ?_; rintro e X ⟨rfl, rfl⟩))
            all_goals
              go_ret
              exact ⟨by rw [HF.out]; rfl, below_next (box_below _ _) (box_below _ _)⟩
        · have pip : ¬ (ip : Int) = 0 := by omega
          have HF := hide (show (f : Int) = 3 by rw [HU3.out (by unfold unusedP netZ; first | (simp only; omega) | (simp; omega) | simp_all)]; rfl)
          clear HU3 HU0
          go_enter Try.func21, Try.ntmps21
          go_wp2_with (first
            | (go_at_call 31; refine (HK _).mono ?_; rintro e X ⟨rfl, rfl⟩))
          all_goals
            go_ret
            exact ⟨by rw [HF.out]; rfl, below_next (box_below _ _) (box_below _ _)⟩
      · have pg : (0 : Int) < g.size := by omega
        have HF := hide (show (f : Int) = 3 by rw [HU3.out (by unfold unusedP netZ; first | (simp only; omega) | (simp; omega) | simp_all)]; rfl)
        clear HU3 HU0
        go_enter Try.func21, Try.ntmps21
        go_wp2_with (first
          | (go_at_call 31; refine (HK _).mono ?_; rintro e X ⟨rfl, rfl⟩))
        all_goals
          go_ret
          exact ⟨by rw [HF.out]; rfl, below_next (box_below _ _) (box_below _ _)⟩
    · have pv : (0 : Int) < v := by omega
      by_cases hg : g.size = 0
      · have pg : ¬ (0 : Int) < g.size := by omega
        by_cases hip : ip = 0
        · subst hip
          by_cases hb : b = 0
          · subst hb
            by_cases hlo : lo = 0
            · subst hlo
              by_cases hhi : hi = 0
              · subst hhi
                have HF := hide (show (f : Int) = 0 by rw [HU0.out (by unfold unusedP netZ; first | (simp only; omega) | (simp; omega) | simp_all)]; rfl)
                clear HU3 HU0
                go_enter Try.func21, Try.ntmps21
                go_wp2_with (first
                  | (go_at_call 31; refine (HK _).mono ?_; rintro e X ⟨rfl, rfl⟩))
                all_goals
                  go_ret
                  exact ⟨by rw [HF.out]; rfl, below_next (box_below _ _) (box_below _ _)⟩
              · have phi : ¬ (hi : Int) = 0 := by omega
                have HF := hide (show (f : Int) = 3 by rw [HU3.out (by unfold unusedP netZ; first | (simp only; omega) | (simp; omega) | simp_all)]; rfl)
                clear HU3 HU0
                go_enter Try.func21, Try.ntmps21
                go_wp2_with (first
                  | (go_at_call 31; refine (HK _).mono ?_; rintro e X ⟨rfl, rfl⟩))
                all_goals
                  go_ret
                  exact ⟨by rw [HF.out]; rfl, below_next (box_below _ _) (box_below _ _)⟩
            · have plo : ¬ (lo : Int) = 0 := by omega
              have HF := hide (show (f : Int) = 3 by rw [HU3.out (by unfold unusedP netZ; first | (simp only; omega) | (simp; omega) | simp_all)]; rfl)
              clear HU3 HU0
              go_enter Try.func21, Try.ntmps21
              go_wp2_with (first
                | (go_at_call 31; refine (HK _).mono ?_; rintro e X ⟨rfl, rfl⟩))
              all_goals
                go_ret
                exact ⟨by rw [HF.out]; rfl, below_next (box_below _ _) (box_below _ _)⟩
          · have pb : ¬ (b : Int) = 0 := by omega
            have HF := hide (show (f : Int) = 3 by rw [HU3.out (by unfold unusedP netZ; first | (simp only; omega) | (simp; omega) | simp_all)]; rfl)
            clear HU3 HU0
            go_enter Try.func21, Try.ntmps21
            go_wp2_with (first
              | (go_at_call 31; refine (HK _).mono ?_; rintro e X ⟨rfl, rfl⟩))
            all_goals
              go_ret
              exact ⟨by rw [HF.out]; rfl, below_next (box_below _ _) (box_below _ _)⟩
        · have pip : ¬ (ip : Int) = 0 := by omega
          have HF := hide (show (f : Int) = 3 by rw [HU3.out (by unfold unusedP netZ; first | (simp only; omega) | (simp; omega) | simp_all)]; rfl)
          clear HU3 HU0
          go_enter Try.func21, Try.ntmps21
          go_wp2_with (first
            | (go_at_call 31; refine (HK _).mono ?_; rintro e X ⟨rfl, rfl⟩))
          all_goals
            go_ret
            exact ⟨by rw [HF.out]; rfl, below_next (box_below _ _) (box_below _ _)⟩
      · have pg : (0 : Int) < g.size := by omega
        have HF := hide (show (f : Int) = 3 by rw [HU3.out (by unfold unusedP netZ; first | (simp only; omega) | (simp; omega) | simp_all)]; rfl)
        clear HU3 HU0
        go_enter Try.func21, Try.ntmps21
        go_wp2_with (first
          | (go_at_call 31; refine (HK _).mono ?_; rintro e X ⟨rfl, rfl⟩))
        all_goals
          go_ret
          exact ⟨by rw [HF.out]; rfl, below_next (box_below _ _) (box_below _ _)⟩
  · have pm : (0 : Int) < m := by omega
    by_cases hv : v = 0
    · subst hv
      by_cases hg : g.size = 0
      · have pg : ¬ (0 : Int) < g.size := by omega
        by_cases hip : ip = 0
        · subst hip
          by_cases hb : b = 0
          · subst hb
            by_cases hlo : lo = 0
            · subst hlo
              by_cases hhi : hi = 0
              · subst hhi
                have HF := hide (show (f : Int) = 0 by rw [HU0.out (by unfold unusedP netZ; first | (simp only; omega) | (simp; omega) | simp_all)]; rfl)
                clear HU3 HU0
                go_enter Try.func21, Try.ntmps21
                go_wp2_with (first
                  | (go_at_call 31; refine (HK _).mono ?_; rintro e X ⟨rfl, rfl⟩))
                all_goals
                  go_ret
                  exact ⟨by rw [HF.out]; rfl, below_next (box_below _ _) (box_below _ _)⟩
              · have phi : ¬ (hi : Int) = 0 := by omega
                have HF := hide (show (f : Int) = 3 by rw [HU3.out (by unfold unusedP netZ; first | (simp only; omega) | (simp; omega) | simp_all)]; rfl)
                clear HU3 HU0
                go_enter Try.func21, Try.ntmps21
                go_wp2_with (first
                  | (go_at_call 31; refine (HK _).mono ?_; rintro e X ⟨rfl, rfl⟩))
                all_goals
                  go_ret
                  exact ⟨by rw [HF.out]; rfl, below_next (box_below _ _) (box_below _ _)⟩
            · have plo : ¬ (lo : Int) = 0 := by omega
              have HF := hide (show (f : Int) = 3 by rw [HU3.out (by unfold unusedP netZ; first | (simp only; omega) | (simp; omega) | simp_all)]; rfl)
              clear HU3 HU0
              go_enter Try.func21, Try.ntmps21
              go_wp2_with (first
                | (go_at_call 31; refine (HK _).mono ?_; rintro e X ⟨rfl, rfl⟩))
              all_goals
                go_ret
                exact ⟨by rw [HF.out]; rfl, below_next (box_below _ _) (box_below _ _)⟩
          · have pb : ¬ (b : Int) = 0 := by omega
            have HF := hide (show (f : Int) = 3 by rw [HU3.out (by unfold unusedP netZ; first | (simp only; omega) | (simp; omega) | simp_all)]; rfl)
            clear HU3 HU0
            go_enter Try.func21, Try.ntmps21
            go_wp2_with (first
              | (go_at_call 31; refine (HK _).mono ?_; rintro e X ⟨rfl, rfl⟩))
            all_goals
              go_ret
              exact ⟨by rw [HF.out]; rfl, below_next (box_below _ _) (box_below _ _)⟩
        · have pip : ¬ (ip : Int) = 0 := by omega
          have HF := hide (show (f : Int) = 3 by rw [HU3.out (by unfold unusedP netZ; first | (simp only; omega) | (simp; omega) | simp_all)]; rfl)
          clear HU3 HU0
          go_enter Try.func21, Try.ntmps21
          go_wp2_with (first
            | (go_at_call 31; refine (HK _).mono ?_; rintro e X ⟨rfl, rfl⟩))
          all_goals
            go_ret
            exact ⟨by rw [HF.out]; rfl, below_next (box_below _ _) (box_below _ _)⟩
      · have pg : (0 : Int) < g.size := by omega
        have HF := hide (show (f : Int) = 3 by rw [HU3.out (by unfold unusedP netZ; first | (simp only; omega) | (simp; omega) | simp_all)]; rfl)
        clear HU3 HU0
        go_enter Try.func21, Try.ntmps21
        go_wp2_with (first
          | (go_at_call 31; refine (HK _).mono ?_; rintro e X ⟨rfl, rfl⟩))
        all_goals
          go_ret
          exact ⟨by rw [HF.out]; rfl, below_next (box_below _ _) (box_below _ _)⟩
    · have pv : (0 : Int) < v := by omega
      by_cases hg : g.size = 0
      · have pg : ¬ (0 : Int) < g.size := by omega
        by_cases hip : ip = 0
        · subst hip
          by_cases hb : b = 0
          · subst hb
            by_cases hlo : lo = 0
            · subst hlo
              by_cases hhi : hi = 0
              · subst hhi
                have HF := hide (show (f : Int) = 0 by rw [HU0.out (by unfold unusedP netZ; first | (simp only; omega) | (simp; omega) | simp_all)]; rfl)
                clear HU3 HU0
                go_enter Try.func21, Try.ntmps21
                go_wp2_with (first
                  | (go_at_call 31; refine (HK _).mono ?_; rintro e X ⟨rfl, rfl⟩))
                all_goals
                  go_ret
                  exact ⟨by rw [HF.out]; rfl, below_next (box_below _ _) (box_below _ _)⟩
              · have phi : ¬ (hi : Int) = 0 := by omega
                have HF := hide (show (f : Int) = 3 by rw [HU3.out (by unfold unusedP netZ; first | (simp only; omega) | (simp; omega) | simp_all)]; rfl)
                clear HU3 HU0
                go_enter Try.func21, Try.ntmps21
                go_wp2_with (first
                  | (go_at_call 31; refine (HK _).mono ?_; rintro e X ⟨rfl, rfl⟩))
                all_goals
                  go_ret
                  exact ⟨by rw [HF.out]; rfl, below_next (box_below _ _) (box_below _ _)⟩
            · have plo : ¬ (lo : Int) = 0 := by omega
              have HF := hide (show (f : Int) = 3 by rw [HU3.out (by unfold unusedP netZ; first | (simp only; omega) | (simp; omega) | simp_all)]; rfl)
              clear HU3 HU0
              go_enter Try.func21, Try.ntmps21
              go_wp2_with (first
                | (go_at_call 31; refine (HK _).mono ?_; rintro e X ⟨rfl, rfl⟩))
              all_goals
                go_ret
                exact ⟨by rw [HF.out]; rfl, below_next (box_below _ _) (box_below _ _)⟩
          · have pb : ¬ (b : Int) = 0 := by omega
            have HF := hide (show (f : Int) = 3 by rw [HU3.out (by unfold unusedP netZ; first | (simp only; omega) | (simp; omega) | simp_all)]; rfl)
            clear HU3 HU0
            go_enter Try.func21, Try.ntmps21
            go_wp2_with (first
              | (go_at_call 31; refine (HK _).mono ?_; rintro e X ⟨rfl, rfl⟩))
            all_goals
              go_ret
              exact ⟨by rw [HF.out]; rfl, below_next (box_below _ _) (box_below _ _)⟩
        · have pip : ¬ (ip : Int) = 0 := by omega
          have HF := hide (show (f : Int) = 3 by rw [HU3.out (by unfold unusedP netZ; first | (simp only; omega) | (simp; omega) | simp_all)]; rfl)
          clear HU3 HU0
          go_enter Try.func21, Try.ntmps21
          go_wp2_with (first
            | (go_at_call 31; refine (HK _).mono ?_; rintro e X ⟨rfl, rfl⟩))
          all_goals
            go_ret
            exact ⟨by rw [HF.out]; rfl, below_next (box_below _ _) (box_below _ _)⟩
      · have pg : (0 : Int) < g.size := by omega
        have HF := hide (show (f : Int) = 3 by rw [HU3.out (by unfold unusedP netZ; first | (simp only; omega) | (simp; omega) | simp_all)]; rfl)
        clear HU3 HU0
        go_enter Try.func21, Try.ntmps21
        go_wp2_with (first
          | (go_at_call 31; refine (HK _).mono ?_; rintro e X ⟨rfl, rfl⟩))
        all_goals
          go_ret
          exact ⟨by rw [HF.out]; rfl, below_next (box_below _ _) (box_below _ _)⟩

set_option maxHeartbeats 8000000 in
set_option maxRecDepth 100000 in
theorem dcondF_like (nr a : Nat) (hnr : nr < 9) (ha : a ≤ 3) (v m : Nat) (g : ByteArray) (ip : Nat) (b lo hi : Int) (w : World) (hk : kindAt nr a = 2) (f : Nat) (hu3 : unusedP ⟨a, 8, v, m, g, ⟨ip, b, lo, hi⟩⟩ → f = 3) (hu0 : ¬ unusedP ⟨a, 8, v, m, g, ⟨ip, b, lo, hi⟩⟩ → f = globF g) :
    Calls Try.prog 21 #[.int .i64 nr, condV ⟨a, 8, v, m, g, ⟨ip, b, lo, hi⟩⟩] w fun e w' => e = .returned (.int .i64 f) ∧ Below w.heap.size w w' := by
  have HK := fun X => dkind_any nr a hnr (by omega) X
  rw [hk] at HK
  have HU3 := hide hu3
  have HU0 := hide hu0
  clear hk hu3 hu0 hnr
  unfold condV
  simp only
  have i1 : ¬ (a : Int) < 0 := by omega
  have i2 : ¬ 3 < (a : Int) := by omega
  by_cases hm : m = 0
  · subst hm
    by_cases hv : v = 0
    · subst hv
      by_cases hg : g.size = 0
      · have pg : ¬ (0 : Int) < g.size := by omega
        by_cases hip : ip = 0
        · subst hip
          by_cases hb : b = 0
          · subst hb
            by_cases hlo : lo = 0
            · subst hlo
              by_cases hhi : hi = 0
              · subst hhi
                have HF := hide (HU0.out (by unfold unusedP netZ; first | (simp only; omega) | (simp; omega) | simp_all))
                have HG := fun X => dglobF_any g X
                clear HU3 HU0
                go_enter Try.func21, Try.ntmps21
                go_wp2_with (first
                  | (go_at_call 31; refine (HK _).mono ?_; rintro e X ⟨rfl, rfl⟩)
                  | (go_at_call 32; refine (HG _).mono ?_; rintro e X ⟨rfl, hX⟩))
                all_goals
                  go_ret
                  exact ⟨by rw [HF.out]; rfl, below_next (below_next (box_below _ _) (box_below _ _)) hX⟩
              · have phi : ¬ (hi : Int) = 0 := by omega
                have HF := hide (show (f : Int) = 3 by rw [HU3.out (by unfold unusedP netZ; first | (simp only; omega) | (simp; omega) | simp_all)]; rfl)
                clear HU3 HU0
                go_enter Try.func21, Try.ntmps21
                go_wp2_with (first
                  | (go_at_call 31; refine (HK _).mono ?_; rintro e X ⟨rfl, rfl⟩))
                all_goals
                  go_ret
                  exact ⟨by rw [HF.out]; rfl, below_next (box_below _ _) (box_below _ _)⟩
            · have plo : ¬ (lo : Int) = 0 := by omega
              have HF := hide (show (f : Int) = 3 by rw [HU3.out (by unfold unusedP netZ; first | (simp only; omega) | (simp; omega) | simp_all)]; rfl)
              clear HU3 HU0
              go_enter Try.func21, Try.ntmps21
              go_wp2_with (first
                | (go_at_call 31; refine (HK _).mono ?_; rintro e X ⟨rfl, rfl⟩))
              all_goals
                go_ret
                exact ⟨by rw [HF.out]; rfl, below_next (box_below _ _) (box_below _ _)⟩
          · have pb : ¬ (b : Int) = 0 := by omega
            have HF := hide (show (f : Int) = 3 by rw [HU3.out (by unfold unusedP netZ; first | (simp only; omega) | (simp; omega) | simp_all)]; rfl)
            clear HU3 HU0
            go_enter Try.func21, Try.ntmps21
            go_wp2_with (first
              | (go_at_call 31; refine (HK _).mono ?_; rintro e X ⟨rfl, rfl⟩))
            all_goals
              go_ret
              exact ⟨by rw [HF.out]; rfl, below_next (box_below _ _) (box_below _ _)⟩
        · have pip : ¬ (ip : Int) = 0 := by omega
          have HF := hide (show (f : Int) = 3 by rw [HU3.out (by unfold unusedP netZ; first | (simp only; omega) | (simp; omega) | simp_all)]; rfl)
          clear HU3 HU0
          go_enter Try.func21, Try.ntmps21
          go_wp2_with (first
            | (go_at_call 31; refine (HK _).mono ?_; rintro e X ⟨rfl, rfl⟩))
          all_goals
            go_ret
            exact ⟨by rw [HF.out]; rfl, below_next (box_below _ _) (box_below _ _)⟩
      · have pg : (0 : Int) < g.size := by omega
        by_cases hip : ip = 0
        · subst hip
          by_cases hb : b = 0
          · subst hb
            by_cases hlo : lo = 0
            · subst hlo
              by_cases hhi : hi = 0
              · subst hhi
                have HF := hide (HU0.out (by unfold unusedP netZ; first | (simp only; omega) | (simp; omega) | simp_all))
                have HG := fun X => dglobF_any g X
                clear HU3 HU0
                go_enter Try.func21, Try.ntmps21
                go_wp2_with (first
                  | (go_at_call 31; refine (HK _).mono ?_; rintro e X ⟨rfl, rfl⟩)
                  | (go_at_call 32; refine (HG _).mono ?_; rintro e X ⟨rfl, hX⟩))
                all_goals
                  go_ret
                  exact ⟨by rw [HF.out]; rfl, below_next (below_next (box_below _ _) (box_below _ _)) hX⟩
              · have phi : ¬ (hi : Int) = 0 := by omega
                have HF := hide (show (f : Int) = 3 by rw [HU3.out (by unfold unusedP netZ; first | (simp only; omega) | (simp; omega) | simp_all)]; rfl)
                clear HU3 HU0
                go_enter Try.func21, Try.ntmps21
                go_wp2_with (first
                  | (go_at_call 31; refine (HK _).mono ?_; rintro e X ⟨rfl, rfl⟩))
                all_goals
                  go_ret
                  exact ⟨by rw [HF.out]; rfl, below_next (box_below _ _) (box_below _ _)⟩
            · have plo : ¬ (lo : Int) = 0 := by omega
              have HF := hide (show (f : Int) = 3 by rw [HU3.out (by unfold unusedP netZ; first | (simp only; omega) | (simp; omega) | simp_all)]; rfl)
              clear HU3 HU0
              go_enter Try.func21, Try.ntmps21
              go_wp2_with (first
                | (go_at_call 31; refine (HK _).mono ?_; rintro e X ⟨rfl, rfl⟩))
              all_goals
                go_ret
                exact ⟨by rw [HF.out]; rfl, below_next (box_below _ _) (box_below _ _)⟩
          · have pb : ¬ (b : Int) = 0 := by omega
            have HF := hide (show (f : Int) = 3 by rw [HU3.out (by unfold unusedP netZ; first | (simp only; omega) | (simp; omega) | simp_all)]; rfl)
            clear HU3 HU0
            go_enter Try.func21, Try.ntmps21
            go_wp2_with (first
              | (go_at_call 31; refine (HK _).mono ?_; rintro e X ⟨rfl, rfl⟩))
            all_goals
              go_ret
              exact ⟨by rw [HF.out]; rfl, below_next (box_below _ _) (box_below _ _)⟩
        · have pip : ¬ (ip : Int) = 0 := by omega
          have HF := hide (show (f : Int) = 3 by rw [HU3.out (by unfold unusedP netZ; first | (simp only; omega) | (simp; omega) | simp_all)]; rfl)
          clear HU3 HU0
          go_enter Try.func21, Try.ntmps21
          go_wp2_with (first
            | (go_at_call 31; refine (HK _).mono ?_; rintro e X ⟨rfl, rfl⟩))
          all_goals
            go_ret
            exact ⟨by rw [HF.out]; rfl, below_next (box_below _ _) (box_below _ _)⟩
    · have pv : (0 : Int) < v := by omega
      have HF := hide (show (f : Int) = 3 by rw [HU3.out (by unfold unusedP netZ; first | (simp only; omega) | (simp; omega) | simp_all)]; rfl)
      clear HU3 HU0
      go_enter Try.func21, Try.ntmps21
      go_wp2_with (first
        | (go_at_call 31; refine (HK _).mono ?_; rintro e X ⟨rfl, rfl⟩))
      all_goals
        go_ret
        exact ⟨by rw [HF.out]; rfl, below_next (box_below _ _) (box_below _ _)⟩
  · have pm : (0 : Int) < m := by omega
    have HF := hide (show (f : Int) = 3 by rw [HU3.out (by unfold unusedP netZ; first | (simp only; omega) | (simp; omega) | simp_all)]; rfl)
    clear HU3 HU0
    go_enter Try.func21, Try.ntmps21
    go_wp2_with (first
      | (go_at_call 31; refine (HK _).mono ?_; rintro e X ⟨rfl, rfl⟩))
    all_goals
      go_ret
      exact ⟨by rw [HF.out]; rfl, below_next (box_below _ _) (box_below _ _)⟩

set_option maxHeartbeats 8000000 in
set_option maxRecDepth 100000 in
theorem dcondF_net (nr a : Nat) (hnr : nr < 9) (ha : a ≤ 3) (v m : Nat) (g : ByteArray) (ip : Nat) (b lo hi : Int) (hc : NtOk ⟨ip, b, lo, hi⟩) (w : World) (hk : kindAt nr a = 3) (f : Nat) (hu3 : unusedP ⟨a, 9, v, m, g, ⟨ip, b, lo, hi⟩⟩ → f = 3) (hu0 : ¬ unusedP ⟨a, 9, v, m, g, ⟨ip, b, lo, hi⟩⟩ → f = faultOf ip b lo hi) :
    Calls Try.prog 21 #[.int .i64 nr, condV ⟨a, 9, v, m, g, ⟨ip, b, lo, hi⟩⟩] w fun e w' => e = .returned (.int .i64 f) ∧ Below w.heap.size w w' := by
  have HK := fun X => dkind_any nr a hnr (by omega) X
  rw [hk] at HK
  have HG := fun X => netFault_any ip hc.ip b lo hi hc.bits hc.lo hc.hi X
  unfold netV at HG
  obtain ⟨ff, hff⟩ : ∃ x, x = faultOf ip b lo hi := ⟨_, rfl⟩
  rw [← hff] at HG hu0
  clear hff hc
  have HU3 := hide hu3
  have HU0 := hide hu0
  clear hk hu3 hu0 hnr
  unfold condV
  simp only
  have i1 : ¬ (a : Int) < 0 := by omega
  have i2 : ¬ 3 < (a : Int) := by omega
  by_cases hm : m = 0
  · subst hm
    by_cases hv : v = 0
    · subst hv
      by_cases hg : g.size = 0
      · have pg : ¬ (0 : Int) < g.size := by omega
        by_cases hip : ip = 0
        case neg =>
          have pip : ¬ (ip : Int) = 0 := by omega
          have HF := hide (HU0.out (by unfold unusedP netZ; first | (simp only; omega) | (simp; omega) | simp_all))
          clear HU3 HU0
          go_enter Try.func21, Try.ntmps21
          go_wp2_with (first
            | (go_at_call 31; refine (HK _).mono ?_; rintro e X ⟨rfl, rfl⟩)
            | (go_at_call 33; refine (HG _).mono ?_; rintro e X ⟨rfl, hX⟩))
          all_goals
            go_ret
            exact ⟨by rw [HF.out]; rfl, below_next (below_next (box_below _ _) (box_below _ _)) hX⟩
        subst hip
        have hz : ((0 : Nat) : Int) = 0 := rfl
        try simp only [hz] at HG
        clear hz
        by_cases hb : b = 0
        case neg =>
          have pb : ¬ (b : Int) = 0 := by omega
          have HF := hide (HU0.out (by unfold unusedP netZ; first | (simp only; omega) | (simp; omega) | simp_all))
          clear HU3 HU0
          go_enter Try.func21, Try.ntmps21
          go_wp2_with (first
            | (go_at_call 31; refine (HK _).mono ?_; rintro e X ⟨rfl, rfl⟩)
            | (go_at_call 33; refine (HG _).mono ?_; rintro e X ⟨rfl, hX⟩))
          all_goals
            go_ret
            exact ⟨by rw [HF.out]; rfl, below_next (below_next (box_below _ _) (box_below _ _)) hX⟩
        subst hb
        by_cases hlo : lo = 0
        case neg =>
          have plo : ¬ (lo : Int) = 0 := by omega
          have HF := hide (HU0.out (by unfold unusedP netZ; first | (simp only; omega) | (simp; omega) | simp_all))
          clear HU3 HU0
          go_enter Try.func21, Try.ntmps21
          go_wp2_with (first
            | (go_at_call 31; refine (HK _).mono ?_; rintro e X ⟨rfl, rfl⟩)
            | (go_at_call 33; refine (HG _).mono ?_; rintro e X ⟨rfl, hX⟩))
          all_goals
            go_ret
            exact ⟨by rw [HF.out]; rfl, below_next (below_next (box_below _ _) (box_below _ _)) hX⟩
        subst hlo
        by_cases hhi : hi = 0
        case neg =>
          have phi : ¬ (hi : Int) = 0 := by omega
          have HF := hide (HU0.out (by unfold unusedP netZ; first | (simp only; omega) | (simp; omega) | simp_all))
          clear HU3 HU0
          go_enter Try.func21, Try.ntmps21
          go_wp2_with (first
            | (go_at_call 31; refine (HK _).mono ?_; rintro e X ⟨rfl, rfl⟩)
            | (go_at_call 33; refine (HG _).mono ?_; rintro e X ⟨rfl, hX⟩))
          all_goals
            go_ret
            exact ⟨by rw [HF.out]; rfl, below_next (below_next (box_below _ _) (box_below _ _)) hX⟩
        subst hhi
        have HF := hide (HU0.out (by unfold unusedP netZ; first | (simp only; omega) | (simp; omega) | simp_all))
        clear HU3 HU0
        go_enter Try.func21, Try.ntmps21
        go_wp2_with (first
          | (go_at_call 31; refine (HK _).mono ?_; rintro e X ⟨rfl, rfl⟩)
          | (go_at_call 33; refine (HG _).mono ?_; rintro e X ⟨rfl, hX⟩))
        all_goals
          go_ret
          exact ⟨by rw [HF.out]; rfl, below_next (below_next (box_below _ _) (box_below _ _)) hX⟩
      · have pg : (0 : Int) < g.size := by omega
        have HF := hide (show (f : Int) = 3 by rw [HU3.out (by unfold unusedP netZ; first | (simp only; omega) | (simp; omega) | simp_all)]; rfl)
        clear HU3 HU0
        go_enter Try.func21, Try.ntmps21
        go_wp2_with (first
          | (go_at_call 31; refine (HK _).mono ?_; rintro e X ⟨rfl, rfl⟩))
        all_goals
          go_ret
          exact ⟨by rw [HF.out]; rfl, below_next (box_below _ _) (box_below _ _)⟩
    · have pv : (0 : Int) < v := by omega
      have HF := hide (show (f : Int) = 3 by rw [HU3.out (by unfold unusedP netZ; first | (simp only; omega) | (simp; omega) | simp_all)]; rfl)
      clear HU3 HU0
      go_enter Try.func21, Try.ntmps21
      go_wp2_with (first
        | (go_at_call 31; refine (HK _).mono ?_; rintro e X ⟨rfl, rfl⟩))
      all_goals
        go_ret
        exact ⟨by rw [HF.out]; rfl, below_next (box_below _ _) (box_below _ _)⟩
  · have pm : (0 : Int) < m := by omega
    have HF := hide (show (f : Int) = 3 by rw [HU3.out (by unfold unusedP netZ; first | (simp only; omega) | (simp; omega) | simp_all)]; rfl)
    clear HU3 HU0
    go_enter Try.func21, Try.ntmps21
    go_wp2_with (first
      | (go_at_call 31; refine (HK _).mono ?_; rintro e X ⟨rfl, rfl⟩))
    all_goals
      go_ret
      exact ⟨by rw [HF.out]; rfl, below_next (box_below _ _) (box_below _ _)⟩

theorem dcondF_any (nr : Nat) (hnr : nr < 9) (c : CD) (hc : CdOk c) (w : World) : Calls Try.prog 21 #[.int .i64 nr, condV c] w fun e w' => e = .returned (.int .i64 (condF nr c)) ∧ Below w.heap.size w w' := by
  by_cases h : c.arg < 0 ∨ 3 < c.arg ∨ c.op < 1 ∨ 9 < c.op
  · rw [show condF nr c = 1 from if_pos h]
    exact dcondF_bound nr c w h
  have hf : condF nr c = if kindAt nr c.arg.toNat ≠ kindOp c.op ∨ unusedP c then 3 else if c.op = 8 then globF c.glob else if c.op = 9 then netF c.net else 0 := if_neg h
  obtain ⟨arg, op, v, m, g, ⟨ip, b, lo, hi⟩⟩ := c
  simp only [not_or] at h hf
  obtain ⟨a, rfl⟩ : ∃ a : Nat, arg = a := ⟨arg.toNat, by omega⟩
  have ha : a ≤ 3 := by omega
  rw [Int.toNat_natCast] at hf
  by_cases hk : kindAt nr a = kindOp op
  · have h3 : unusedP ⟨a, op, v, m, g, ⟨ip, b, lo, hi⟩⟩ → condF nr ⟨a, op, v, m, g, ⟨ip, b, lo, hi⟩⟩ = 3 := fun hu => by rw [hf, if_pos (.inr hu)]
    have h0 : ¬ unusedP ⟨a, op, v, m, g, ⟨ip, b, lo, hi⟩⟩ → condF nr ⟨a, op, v, m, g, ⟨ip, b, lo, hi⟩⟩ = if op = 8 then globF g else if op = 9 then faultOf ip b lo hi else 0 := fun hu => by
      rw [hf, if_neg (by rw [not_or]; exact ⟨fun hc => hc hk, hu⟩)]
      rfl
    by_cases h8 : op = 8
    · subst h8
      exact dcondF_like nr a hnr ha v m g ip b lo hi w hk _ h3 h0
    by_cases h9 : op = 9
    · subst h9
      exact dcondF_net nr a hnr ha v m g ip b lo hi hc.net w hk _ h3 h0
    have hk1 : kindAt nr a = 1 := by rw [hk]; unfold kindOp; rw [if_neg h8, if_neg h9]
    rw [if_neg h8, if_neg h9] at h0
    by_cases h7 : op = 7
    · subst h7
      exact dcondF_mask nr a hnr ha v m g ip b lo hi w hk1 _ h3 h0
    · exact dcondF_num nr a hnr ha op h.2.2.1 (by omega) v m g ip b lo hi w hk1 _ h3 h0
  · rw [hf, if_pos (.inl hk)]
    exact dcondF_kind nr a hnr ha op v m g ip b lo hi h.2.2.1 h.2.2.2 w hk
end Go.Proofs.Ytphkhfeofoadcab

/- The document's PolicyFault. -/
namespace Go.Proofs.Ytphkhfeofoadcab
open Go.RowKit Go.Sort

theorem firstF_at {rs : List RL} {i f : Nat} (h : firstF ((rs.take i).map ruleF) = f) (hf : f ≠ 0) : firstF (rs.map ruleF) = f := by
  rw [← List.take_append_drop i rs, List.map_append, firstF_append, if_neg (by rw [h]; exact hf), h]
theorem firstC_at {cs : List CD} {k i f : Nat} (h : firstF ((cs.take i).map (condF k)) = f) (hf : f ≠ 0) : firstF (cs.map (condF k)) = f := by
  rw [← List.take_append_drop i cs, List.map_append, firstF_append, if_neg (by rw [h]; exact hf), h]

set_option maxHeartbeats 4000000 in
set_option maxRecDepth 100000 in
theorem dpolF_any (p : POL) (oa : Option Addr) (cap : Nat) (w : World) (h : IsPol oa cap p w) :
    Calls Try.prog 12 #[polV p oa cap] w fun e w' => e = .returned (.int .i64 (polF p)) ∧ Below w.heap.size w w' := by
  obtain ⟨n, hn⟩ : ∃ n, n = p.rules.length := ⟨_, rfl⟩
  have HC := hide (pol_parts h n hn)
  have hmax : n ≤ 9223372036854775807 := by have h1 := h.le; have h2 := h.cap; unfold maxLen at h2; omega
  clear h
  obtain ⟨rs, ⟨ak, ae⟩⟩ := p
  unfold polV
  simp only at HC hn ⊢
  rw [← hn]
  have hf0 : polF ⟨rs, ⟨ak, ae⟩⟩ = if 12 < n then 2 else if actF ⟨ak, ae⟩ = 0 then firstF (rs.map ruleF) else actF ⟨ak, ae⟩ := by rw [hn]; rfl
  obtain ⟨pf, hpf⟩ : ∃ x, x = polF ⟨rs, ⟨ak, ae⟩⟩ := ⟨_, rfl⟩
  rw [← hpf] at hf0 ⊢
  clear hpf
  by_cases h12 : 12 < n
  · have HF := hide (show (pf : Int) = 2 by rw [hf0, if_pos h12]; rfl)
    clear hf0 hn
    go_enter Try.func12, Try.ntmps12
    go_wp2
    go_ret
    exact ⟨by rw [HF.out]; rfl, box_below _ _⟩
  rw [if_neg h12] at hf0
  have HA := fun X => dactF_any ⟨ak, ae⟩ X
  obtain ⟨f0, hf⟩ : ∃ f, f = actF ⟨ak, ae⟩ := ⟨_, rfl⟩
  rw [← hf] at HA hf0
  have HF := hide hf0
  have HN := hide hn
  have HL := hide (show ∀ i, i < n → ∃ c, rs[i]? = some c ∧ rs.take (i + 1) = rs.take i ++ [c] from fun i h => take_next (by omega))
  clear hf0 hn hf
  unfold actV at HA
  simp only at HA
  obtain ⟨V, hV, hB, hsz, hx⟩ := one_box w #[.slice oa n cap, .int .i64 ak, .int .i64 ae] 27
  have x0 := hx 0
  simp only [List.getElem?_toArray, List.getElem?_cons_zero] at x0
  clear hx
  by_cases hz0 : f0 = 0
  case neg =>
    have p0 : (0 : Int) < f0 := by omega
    have HE := hide (show pf = f0 by rw [HF.out, if_neg hz0])
    clear HF
    go_enter Try.func12, Try.ntmps12
    go_wp2_with (go_at_call 20; refine (HA _).mono ?_; rintro e X ⟨rfl, hX⟩)
    go_ret
    exact ⟨by rw [HE.out]; rfl, below_next (box_below _ _) hX⟩
  subst hz0
  rw [if_pos rfl] at HF
  have hz : ((0 : Nat) : Int) = 0 := rfl
  rw [hz] at HA
  clear hz
  go_enter Try.func12, Try.ntmps12
  go_wp2_with (go_at_call 20; rw [← hV]; clear hV; refine (HA _).mono ?_; rintro e X ⟨rfl, hX⟩; have k0 := keep_cell hX x0)
  go_loopw [4] (fun I w' => ∃ i : Nat, i ≤ n ∧ I = .int .i64 i ∧ Hid (Below X.heap.size X w') ∧ Hid (firstF ((rs.take i).map ruleF) = 0)) (fun I _ => n - (intOf I).toNat)
  case atStart => exact ⟨0, by omega, rfl, hide (Below.refl _ _), hide rfl⟩
  case round =>
    obtain ⟨i, hi, rfl, HB, HG⟩ := hrel
    have HW := hide (below_next (below_next hB hX) HB.out)
    have g0 := keep_cell HB.out k0
    by_cases hlt : i < n
    · obtain ⟨c, hcs, hcat⟩ := HL.out i hlt
      obtain ⟨b, off, rfl, hbw, HA2⟩ := HC.out (by omega)
      obtain ⟨ca, cc, hR0⟩ := HA2.out i c hcs
      have hR := hR0.on hbw HW.out
      clear hR0
      obtain ⟨m, hm⟩ : ∃ m, m = c.conds.length := ⟨_, rfl⟩
      have hmm : m ≤ 9223372036854775807 := by have h1 := hR.le; have h2 := hR.cap; unfold maxLen at h2; omega
      have hq : firstF ((rs.take (i + 1)).map ruleF) = ruleF c := by rw [hcat, List.map_append, firstF_append, if_pos HG.out]; exact firstF_one _
      obtain ⟨W1, hW1, hW1b, _, hW1c⟩ := one_box wr #[.int .i64 c.nr, .slice ca m cc, .int .i64 c.act.kind, .int .i64 c.act.errno] 58
      have s0 := hW1c 0
      have s1 := hW1c 1
      have s2 := hW1c 2
      have s3 := hW1c 3
      simp only [List.getElem?_toArray, List.getElem?_cons_zero, List.getElem?_cons_succ] at s0 s1 s2 s3
      have HCC := hide (conds_parts (hR.conds.on hW1b) m hm)
      have HCL := hide (show ∀ j, j < m → ∃ x, c.conds[j]? = some x ∧ c.conds.take (j + 1) = c.conds.take j ++ [x] from fun j h => take_next (by omega))
      have HRF := hide (show ruleF c = if c.nr < 0 ∨ 8 < c.nr then 1 else if 4 < m then 2 else if firstF (c.conds.map (condF c.nr.toNat)) = 0 then actF c.act else firstF (c.conds.map (condF c.nr.toNat)) by rw [hm]; rfl)
      have HAC := fun X => dactF_any c.act X
      obtain ⟨p0, p1, p2, p3, _, _, _, _⟩ := hR
      rw [← hm] at p1
      have HM := hide hm
      have HQ := hide hq
      have lb : b < wr.heap.size := Nat.lt_of_lt_of_le hbw HW.out.size
      clear hm hq hcs hcat hW1c
      obtain ⟨nr, cs, ⟨rk, re⟩⟩ := c
      simp only at p0 p1 p2 p3 s0 s1 s2 s3 hW1 HCC HCL HRF HAC HM HQ
      unfold actV at HAC
      simp only at HAC
      by_cases hnr : nr < 0 ∨ 8 < nr
      · have HE := hide (show (pf : Int) = 1 by
          have h1 : ruleF ⟨nr, cs, ⟨rk, re⟩⟩ = 1 := by rw [HRF.out, if_pos hnr]
          rw [HF.out, firstF_at (HQ.out.trans h1) (by omega)]
          rfl)
        clear HRF HQ
        go_wp2
        all_goals first
          | omega
          | (go_ret
             exact ⟨by rw [HE.out]; rfl, below_next HW.out (box_below _ _)⟩)
      rw [if_neg hnr] at HRF
      obtain ⟨k, rfl⟩ : ∃ k : Nat, nr = k := ⟨nr.toNat, by omega⟩
      have hk8 : k < 9 := by omega
      rw [Int.toNat_natCast] at HRF
      have i1 : ¬ (k : Int) < 0 := by omega
      have i2 : ¬ 8 < (k : Int) := by omega
      clear hnr
      by_cases h4 : 4 < m
      · have HE := hide (show (pf : Int) = 2 by
          have h1 : ruleF ⟨(k : Int), cs, ⟨rk, re⟩⟩ = 2 := by rw [HRF.out, if_pos h4]
          rw [HF.out, firstF_at (HQ.out.trans h1) (by omega)]
          rfl)
        clear HRF HQ
        go_wp2
        go_ret
        exact ⟨by rw [HE.out]; rfl, below_next HW.out (box_below _ _)⟩
      rw [if_neg h4] at HRF
      go_wp2
      rw [← hW1]
      clear hW1 p0 p1 p2 p3
      go_loopw [6] (fun J w' => ∃ j : Nat, j ≤ m ∧ J = .int .i64 j ∧ Hid (Below W1.heap.size W1 w') ∧ Hid (firstF ((cs.take j).map (condF k)) = 0)) (fun J _ => m - (intOf J).toNat)
      case atStart => exact ⟨0, by omega, rfl, hide (Below.refl _ _), hide rfl⟩
      case round =>
        obtain ⟨j, hj, rfl, HBJ, HGJ⟩ := hrel
        have t0 := keep_cell HBJ.out s0
        have t1 := keep_cell HBJ.out s1
        by_cases hjl : j < m
        · obtain ⟨x, hxs, hxcat⟩ := HCL.out j hjl
          obtain ⟨b3, off3, rfl, hbw3, HA3⟩ := HCC.out (by omega)
          have hX3 := (HA3.out j x hxs).on fun q => (bcell HBJ.out).1 b3 q hbw3
          have HFX := fun X => dcondF_any k hk8 x hX3.ok X
          have hqx : firstF ((cs.take (j + 1)).map (condF k)) = condF k x := by rw [hxcat, List.map_append, firstF_append, if_pos HGJ.out]; exact firstF_one _
          obtain ⟨fx, hfx⟩ : ∃ f, f = condF k x := ⟨_, rfl⟩
          rw [← hfx] at HFX hqx
          have HQX := hide hqx
          obtain ⟨g0', g1, g2, g3, g4, g5, g6, g7, g8, _⟩ := hX3
          clear hfx hxs hxcat hqx
          obtain ⟨arg, op, vv, mm, gl, ⟨ip, bb, lo, hh⟩⟩ := x
          unfold condV at HFX
          simp only at g0' g1 g2 g3 g4 g5 g6 g7 g8 HFX
          replace t0 := cell_regrown t0
          replace t1 := cell_regrown t1
          replace g0' := cell_regrown g0'
          replace g1 := cell_regrown g1
          replace g2 := cell_regrown g2
          replace g3 := cell_regrown g3
          replace g4 := cell_regrown g4
          replace g5 := cell_regrown g5
          replace g6 := cell_regrown g6
          replace g7 := cell_regrown g7
          replace g8 := cell_regrown g8
          have i3 : (0 : Int) ≤ j := by omega
          have i4 : (j : Int) < m := by omega
          have t1p := keep_cell HBJ.out s1
          go_wp2
          clear t1p
          have cF : ∀ d os, Calls Try.prog 21 #[.int .i64 k, .agg #[.int .i64 arg, .int .i64 op, .int .u64 vv, .int .u64 mm, .string gl, .int .u32 ip, .int .i64 bb, .int .i64 lo, .int .i64 hh]] (grow (redrawn wr d) os) fun e w'' => e = .returned (.int .i64 fx) ∧ ∃ p : Regrown, w'' = grow (redrawn wr p.d) p.os := fun d os => Calls.regrown_of (HFX _)
          clear HFX
          refine wp_region_quiet_below (by kernel_rfl) (by kernel_rfl) ?_
          by_cases hfx0 : fx = 0
          · subst hfx0
            repeat (go_big_quiet_step (first | (go_at_call 21; exact cF _ _)))
            refine wpQuiet_nil ?_
            intro _ hw'
            obtain ⟨⟨dq, osq⟩, hw''⟩ := hw'
            subst hw''
            clear cF t0 t1 g0' g1 g2 g3 g4 g5 g6 g7 g8
            go_wp2
            go_round
            case rel => exact ⟨j + 1, by omega, by go_num, hide (below_next HBJ.out (below_regrown _ _ _)), HQX⟩
            case measure => simp [intOf]; omega
          · have HE := hide (show pf = fx by
              have h1 : ruleF ⟨(k : Int), cs, ⟨rk, re⟩⟩ = fx := by rw [HRF.out, firstC_at HQX.out hfx0, if_neg hfx0]
              rw [HF.out, firstF_at (HQ.out.trans h1) hfx0])
            have pfx : (0 : Int) < fx := by omega
            repeat (go_big_quiet_step (first | (go_at_call 21; exact cF _ _)))
            refine wpQuiet_nil ?_
            intro _ hw'
            obtain ⟨⟨dq, osq⟩, hw''⟩ := hw'
            subst hw''
            clear cF t0 t1 g0' g1 g2 g3 g4 g5 g6 g7 g8
            go_wp2
            go_ret
            exact ⟨by rw [HE.out]; rfl, below_next HW.out (below_next hW1b (below_next HBJ.out (below_regrown _ _ _)))⟩
        · obtain rfl : j = m := by omega
          have HRA := hide (show ruleF ⟨(k : Int), cs, ⟨rk, re⟩⟩ = actF ⟨rk, re⟩ by
            have := HGJ.out
            rw [List.take_of_length_le (by rw [HM.out]; exact Nat.le_refl _)] at this
            rw [HRF.out, this, if_pos rfl])
          obtain ⟨fa, hfa⟩ : ∃ f, f = actF ⟨rk, re⟩ := ⟨_, rfl⟩
          rw [← hfa] at HRA HAC
          have t2 := keep_cell HBJ.out s2
          have t3 := keep_cell HBJ.out s3
          clear hfa
          by_cases hfa0 : fa = 0
          · subst hfa0
            have HQ2 := hide (HQ.out.trans HRA.out)
            have hz : ((0 : Nat) : Int) = 0 := rfl
            rw [hz] at HAC
            clear hz
            go_wp2_with (go_at_call 20; refine (HAC _).mono ?_; rintro e X2 ⟨rfl, hX2⟩)
            go_round
            case rel => exact ⟨i + 1, by omega, by go_num, hide (below_next HB.out (below_next hW1b (below_next HBJ.out hX2))), HQ2⟩
            case measure => simp [intOf]; omega
          · have HE := hide (show pf = fa by rw [HF.out, firstF_at (HQ.out.trans HRA.out) hfa0])
            have pfa : (0 : Int) < fa := by omega
            go_wp2_with (go_at_call 20; refine (HAC _).mono ?_; rintro e X2 ⟨rfl, hX2⟩)
            go_ret
            exact ⟨by rw [HE.out]; rfl, below_next HW.out (below_next hW1b (below_next HBJ.out hX2))⟩
    · obtain rfl : i = n := by omega
      have HE := hide (show (pf : Int) = 0 by
        have := HG.out
        rw [List.take_of_length_le (by rw [HN.out]; exact Nat.le_refl _)] at this
        rw [HF.out, this]
        rfl)
      go_wp2
      go_ret
      exact ⟨by rw [HE.out]; rfl, HW.out⟩
end Go.Proofs.Ytphkhfeofoadcab

/- The walk of CompSays. -/
namespace Go.Proofs.Ytphkhfeofoadcab
open Go.RowKit Go.Sort
open Bp (IN InOk)

theorem one_pol (w : World) (a : ACT) (ha : AcOk a) : IsPol none 0 ⟨[], a⟩ w := ⟨IsRules.nil _ _, Nat.le_refl _, by unfold maxLen; omega, ⟨fun _ h => (by cases h), ha⟩⟩
/-- 'Compile(Policy{Else: Deny 3})'. -/
theorem compile_three (w : World) : Calls Try.prog 10 #[.agg #[.slice none 0 0, .int .i64 2, .int .i64 3]] w fun e w' => (∃ g cap', e = .returned (.tuple #[.slice (some ⟨g, 0, none⟩) 4 cap', .nilIface])) ∧ Below w.heap.size w w' :=
  (compile_ok ⟨[], ⟨2, 3⟩⟩ none 0 w (one_pol w _ ⟨by unfold I64; simp, by unfold I64; simp⟩) rfl).mono fun _ _ ⟨⟨g, c, he, _⟩, hb⟩ => ⟨⟨g, c, he⟩, hb⟩
theorem verdict_three (w : World) : Calls Try.prog 7 #[.int .u32 327683] w fun e w' => e = .returned (.tuple #[.agg #[.int .i64 2, .int .i64 3, .int .i64 0], .nilIface]) ∧ Below w.heap.size w w' :=
  (verdict_any 327683 (by omega) w).mono fun e w' ⟨he, hb⟩ => ⟨he.trans (by rfl), hb⟩

set_option maxRecDepth 20000 in
theorem compiles_any (w : World) : Calls Try.prog 5 #[] w fun e w' => e = .returned (.bool true) ∧ Below w.heap.size w w' := by
  go_enter Try.func5, Try.ntmps5
  go_wp2_with fail
  refine (compile_three _).mono ?_
  rintro e W1 ⟨⟨g0, c0, rfl⟩, hb1⟩
  go_wp2_with fail
  refine (verdict_three _).mono ?_
  rintro e W2 ⟨rfl, hb2⟩
  have HB := hide (below_next hb1 hb2)
  clear hb1 hb2
  go_wp2_with (go_at_call 9; refine (same_nil 0 _).mono ?_; rintro e w' ⟨rfl, rfl⟩)
  go_ret
  exact ⟨rfl, below_next HB.out (box_below _ _)⟩

theorem same_errV (f : Nat) (w : World) : Calls Try.prog 9 #[errV f, .int .i64 f] w fun e w' => e = .returned (.bool true) ∧ w' = w := by
  by_cases h : f = 0
  · subst h
    exact (same_nil 0 w).mono fun e w' ⟨he, hw⟩ => ⟨he, hw⟩
  · rw [errV_pos h]
    refine (same_errno f f w).mono fun e w' ⟨he, hw⟩ => ⟨?_, hw⟩
    rw [he]
    congr 2
    simp
    omega
theorem light_few {p : POL} (h : lightB p = true) : p.rules.length ≤ 14 ∧ ∀ r ∈ p.rules, r.conds.length ≤ 6 := by
  unfold lightB at h
  rw [Bool.and_eq_true, decide_eq_true_eq, List.all_eq_true] at h
  refine ⟨h.1, fun r hr => ?_⟩
  have := h.2 r hr
  unfold lightR at this
  rw [Bool.and_eq_true, decide_eq_true_eq] at this
  exact this.1

set_option maxHeartbeats 8000000 in
set_option maxRecDepth 100000 in
theorem compSays_any (n : Nat) (hn : n < 4294967296) (p : POL) (oa : Option Addr) (cap : Nat) (w : World) (hp : IsPol oa cap p w) :
    Calls Try.prog 3 #[.int .u32 n, polV p oa cap] w fun e w' => e = .returned (.bool true) ∧ Below w.heap.size w w' := by
  obtain ⟨np, hnp⟩ : ∃ n, n = p.rules.length := ⟨_, rfl⟩
  obtain ⟨V, hV, hB, hsz, hx⟩ := one_box w #[.slice oa p.rules.length cap, .int .i64 p.els.kind, .int .i64 p.els.errno] 27
  have x0 := hx 0
  have x1 := hx 1
  have x2 := hx 2
  simp only [List.getElem?_toArray, List.getElem?_cons_zero, List.getElem?_cons_succ] at x0 x1 x2
  have HP := hide hp
  have HLT := fun W h => lightPol_any p oa cap W h
  have HPF := fun W h => dpolF_any p oa cap W h
  have HVD := verdict_any n hn
  have HVO := vof_any n hn
  clear hx hp hn
  obtain ⟨lz, hlz⟩ : ∃ z, z = lightB p := ⟨_, rfl⟩
  rw [← hlz] at HLT
  have HLZ := hide hlz
  clear hlz
  unfold polV at HLT HPF ⊢
  rw [← hnp] at hV x0 HLT HPF ⊢
  have HNP := hide hnp
  clear hnp
  go_enter Try.func3, Try.ntmps3
  go_wp2_with fail
  rw [← hV]
  clear hV
  refine (compiles_any _).mono ?_
  rintro e W1 ⟨rfl, hb1⟩
  replace x0 := keep_cell hb1 x0
  replace x1 := keep_cell hb1 x1
  replace x2 := keep_cell hb1 x2
  have HB := hide (below_next hB hb1)
  clear hb1 hB hsz
  go_wp2_with fail
  refine (HLT _ (HP.out.on HB.out)).mono ?_
  rintro e W2 ⟨rfl, hb1⟩
  replace x0 := keep_cell hb1 x0
  replace x1 := keep_cell hb1 x1
  replace x2 := keep_cell hb1 x2
  replace HB := hide (below_next HB.out hb1)
  clear hb1 HLT
  cases lz with
  | false =>
    go_wp2
    go_ret
    exact ⟨rfl, HB.out⟩
  | true =>
    have hfew := light_few HLZ.out.symm
    have HOW := fun W h => own_any p hfew.1 hfew.2 oa cap W h
    clear hfew
    replace HOW := hide HOW
    cases hv : verdictR n with
    | none =>
      rw [show verdictV n = .tuple #[.agg #[.int .i64 0, .int .i64 0, .int .i64 0], .iface 63 (.int .i64 3)] by unfold verdictV; rw [hv]; rfl] at HVD
      rw [hv] at HVO
      clear hv
      go_wp2_with fail
      refine (HVD _).mono ?_
      rintro e W3 ⟨rfl, hb1⟩
      replace x0 := keep_cell hb1 x0
      replace x1 := keep_cell hb1 x1
      replace x2 := keep_cell hb1 x2
      replace HB := hide (below_next HB.out hb1)
      clear hb1 HVD
      replace HB := hide (below_next HB.out (box_below W3 (.cells #[.int .i64 0, .int .i64 0, .int .i64 0] 31)))
      obtain ⟨W4, hW4, hW4b, hW4s, hw⟩ := one_box W3 #[.int .i64 0, .int .i64 0, .int .i64 0] 31
      rw [← hW4] at HB
      replace x0 := keep_cell hW4b x0
      replace x1 := keep_cell hW4b x1
      replace x2 := keep_cell hW4b x2
      have y0 := hw 0
      have y1 := hw 1
      have y2 := hw 2
      simp only [List.getElem?_toArray, List.getElem?_cons_zero, List.getElem?_cons_succ] at y0 y1 y2
      clear hw
      go_wp2_with fail
      rw [← hW4]
      clear hW4 hW4b hW4s
      refine (HVO _).mono ?_
      rintro e W9 ⟨⟨a, i, rfl, _⟩, hb1⟩
      replace x0 := keep_cell hb1 x0
      replace x1 := keep_cell hb1 x1
      replace x2 := keep_cell hb1 x2
      replace HB := hide (below_next HB.out hb1)
      replace y0 := keep_cell hb1 y0
      replace y1 := keep_cell hb1 y1
      replace y2 := keep_cell hb1 y2
      clear hb1 HVO
      have hbx := box_below W9 (.cells #[.int .i64 a.kind, .int .i64 a.errno, .int .i64 i] 31)
      replace HB := hide (below_next HB.out hbx)
      obtain ⟨X9, hX9⟩ : ∃ X, X = W9.alloc (.cells #[.int .i64 a.kind, .int .i64 a.errno, .int .i64 i] 31) := ⟨_, rfl⟩
      rw [← hX9] at hbx HB
      replace x0 := keep_cell hbx x0
      replace x1 := keep_cell hbx x1
      replace x2 := keep_cell hbx x2
      replace y0 := keep_cell hbx y0
      replace y1 := keep_cell hbx y1
      replace y2 := keep_cell hbx y2
      clear hbx
      unfold verC
      go_wp2_with fail
      rw [← hX9]
      clear hX9
      refine (same_errno 3 0 _).mono ?_
      rintro e w' ⟨rfl, rfl⟩
      go_wp2_with fail
      refine (same_errno 3 3 _).mono ?_
      rintro e w' ⟨rfl, rfl⟩
      go_wp2_with fail
      rw [show (Value.agg #[.slice oa np cap, .int .i64 p.els.kind, .int .i64 p.els.errno]) = polV p oa cap by rw [HNP.out]; rfl]
      refine (HOW.out _ (HP.out.on HB.out)).mono ?_
      rintro e W5 ⟨⟨ob, cb, rfl, hI⟩, hb1⟩
      replace x0 := keep_cell hb1 x0
      replace x1 := keep_cell hb1 x1
      replace x2 := keep_cell hb1 x2
      replace HB := hide (below_next HB.out hb1)
      have HI := hide hI
      clear hb1 hI HOW
      by_cases hf : polF p = 0
      · have HCM := compile_ok p ob cb _ HI.out hf
        rw [hf] at HPF
        obtain ⟨m, hm⟩ : ∃ m, m = (progP p).length := ⟨_, rfl⟩
        have hm0 : 0 < m := by rw [hm, progP_eq]; simp; omega
        rw [← hm] at HCM
        clear hm hf
        go_wp2_with fail
        refine HCM.mono ?_
        rintro e W6 ⟨⟨g1, cap1, rfl, _⟩, hb1⟩
        replace x0 := keep_cell hb1 x0
        replace x1 := keep_cell hb1 x1
        replace x2 := keep_cell hb1 x2
        replace HB := hide (below_next HB.out hb1)
        clear hb1 HCM
        go_wp2_with fail
        refine (HPF _ (HP.out.on HB.out)).mono ?_
        rintro e W7 ⟨rfl, hb1⟩
        replace HB := hide (below_next HB.out hb1)
        clear hb1 HPF
        go_wp2_with (go_at_call 9; refine (same_nil 0 _).mono ?_; rintro e w' ⟨rfl, rfl⟩)
        go_ret
        exact ⟨rfl, HB.out⟩
      · have HCM := compile_bad p ob cb _ HI.out hf
        have HS := same_errno (polF p) (polF p)
        rw [errV_pos hf] at HCM
        obtain ⟨f, hfe⟩ : ∃ f, f = polF p := ⟨_, rfl⟩
        rw [← hfe] at HCM HS HPF hf
        have hf0 : 0 < f := by omega
        have hf1 : ((f : Int) == 0) = false := by simp; omega
        have hf2 : ¬ (f : Int) = 0 := by omega
        clear hfe
        go_wp2_with fail
        refine HCM.mono ?_
        rintro e W6 ⟨rfl, hb1⟩
        replace x0 := keep_cell hb1 x0
        replace x1 := keep_cell hb1 x1
        replace x2 := keep_cell hb1 x2
        replace HB := hide (below_next HB.out hb1)
        clear hb1 HCM
        go_wp2_with fail
        refine (HPF _ (HP.out.on HB.out)).mono ?_
        rintro e W7 ⟨rfl, hb1⟩
        replace HB := hide (below_next HB.out hb1)
        clear hb1 HPF
        go_wp2_with (go_at_call 9; refine (HS _).mono ?_; rintro e w' ⟨rfl, rfl⟩)
        go_ret
        exact ⟨rfl, HB.out⟩
    | some x =>
      obtain ⟨⟨ak, ae⟩, ai⟩ := x
      rw [show verdictV n = .tuple #[.agg #[.int .i64 ak, .int .i64 ae, .int .i64 ai], .nilIface] by unfold verdictV; rw [hv]; rfl] at HVD
      rw [hv] at HVO
      clear hv
      go_wp2_with fail
      refine (HVD _).mono ?_
      rintro e W3 ⟨rfl, hb1⟩
      replace x0 := keep_cell hb1 x0
      replace x1 := keep_cell hb1 x1
      replace x2 := keep_cell hb1 x2
      replace HB := hide (below_next HB.out hb1)
      clear hb1 HVD
      replace HB := hide (below_next HB.out (box_below W3 (.cells #[.int .i64 ak, .int .i64 ae, .int .i64 ai] 31)))
      obtain ⟨W4, hW4, hW4b, hW4s, hw⟩ := one_box W3 #[.int .i64 ak, .int .i64 ae, .int .i64 ai] 31
      rw [← hW4] at HB
      replace x0 := keep_cell hW4b x0
      replace x1 := keep_cell hW4b x1
      replace x2 := keep_cell hW4b x2
      have y0 := hw 0
      have y1 := hw 1
      have y2 := hw 2
      simp only [List.getElem?_toArray, List.getElem?_cons_zero, List.getElem?_cons_succ] at y0 y1 y2
      clear hw
      go_wp2_with fail
      rw [← hW4]
      clear hW4 hW4b hW4s
      refine (HVO _).mono ?_
      rintro e W9 ⟨⟨a, i, rfl, hai⟩, hb1⟩
      obtain ⟨rfl, rfl⟩ : a = ⟨ak, ae⟩ ∧ i = ai := by
        rcases hai with h | h
        · cases h
        · simp only [Option.some.injEq, Prod.mk.injEq] at h
          exact ⟨h.1.symm, h.2.symm⟩
      clear hai
      replace x0 := keep_cell hb1 x0
      replace x1 := keep_cell hb1 x1
      replace x2 := keep_cell hb1 x2
      replace HB := hide (below_next HB.out hb1)
      replace y0 := keep_cell hb1 y0
      replace y1 := keep_cell hb1 y1
      replace y2 := keep_cell hb1 y2
      clear hb1 HVO
      have hbx := box_below W9 (.cells #[.int .i64 ak, .int .i64 ae, .int .i64 i] 31)
      replace HB := hide (below_next HB.out hbx)
      obtain ⟨X9, hX9⟩ : ∃ X, X = W9.alloc (.cells #[.int .i64 ak, .int .i64 ae, .int .i64 i] 31) := ⟨_, rfl⟩
      rw [← hX9] at hbx HB
      replace x0 := keep_cell hbx x0
      replace x1 := keep_cell hbx x1
      replace x2 := keep_cell hbx x2
      replace y0 := keep_cell hbx y0
      replace y1 := keep_cell hbx y1
      replace y2 := keep_cell hbx y2
      clear hbx
      have z := fun j => cell_of_row X9 W9.heap.size j _ _ _ (by rw [hX9]; exact heap_alloc_new W9 (.cells #[.int .i64 ak, .int .i64 ae, .int .i64 i] 31))
      have z0 := z 0
      have z1 := z 1
      have z2 := z 2
      simp only [List.getElem?_toArray, List.getElem?_cons_zero, List.getElem?_cons_succ] at z0 z1 z2
      clear z
      unfold verC
      go_wp2_with fail
      rw [← hX9]
      clear hX9
      refine (same_nil 0 _).mono ?_
      rintro e w' ⟨rfl, rfl⟩
      go_wp2_with fail
      rw [show (Value.agg #[.slice oa np cap, .int .i64 p.els.kind, .int .i64 p.els.errno]) = polV p oa cap by rw [HNP.out]; rfl]
      refine (HOW.out _ (HP.out.on HB.out)).mono ?_
      rintro e W5 ⟨⟨ob, cb, rfl, hI⟩, hb1⟩
      replace x0 := keep_cell hb1 x0
      replace x1 := keep_cell hb1 x1
      replace x2 := keep_cell hb1 x2
      replace HB := hide (below_next HB.out hb1)
      have HI := hide hI
      clear hb1 hI HOW
      by_cases hf : polF p = 0
      · have HCM := compile_ok p ob cb _ HI.out hf
        rw [hf] at HPF
        obtain ⟨m, hm⟩ : ∃ m, m = (progP p).length := ⟨_, rfl⟩
        have hm0 : 0 < m := by rw [hm, progP_eq]; simp; omega
        rw [← hm] at HCM
        clear hm hf
        go_wp2_with fail
        refine HCM.mono ?_
        rintro e W6 ⟨⟨g1, cap1, rfl, _⟩, hb1⟩
        replace x0 := keep_cell hb1 x0
        replace x1 := keep_cell hb1 x1
        replace x2 := keep_cell hb1 x2
        replace HB := hide (below_next HB.out hb1)
        clear hb1 HCM
        go_wp2_with fail
        refine (HPF _ (HP.out.on HB.out)).mono ?_
        rintro e W7 ⟨rfl, hb1⟩
        replace HB := hide (below_next HB.out hb1)
        clear hb1 HPF
        go_wp2_with (go_at_call 9; refine (same_nil 0 _).mono ?_; rintro e w' ⟨rfl, rfl⟩)
        go_ret
        exact ⟨rfl, HB.out⟩
      · have HCM := compile_bad p ob cb _ HI.out hf
        have HS := same_errno (polF p) (polF p)
        rw [errV_pos hf] at HCM
        obtain ⟨f, hfe⟩ : ∃ f, f = polF p := ⟨_, rfl⟩
        rw [← hfe] at HCM HS HPF hf
        have hf0 : 0 < f := by omega
        have hf1 : ((f : Int) == 0) = false := by simp; omega
        have hf2 : ¬ (f : Int) = 0 := by omega
        clear hfe
        go_wp2_with fail
        refine HCM.mono ?_
        rintro e W6 ⟨rfl, hb1⟩
        replace x0 := keep_cell hb1 x0
        replace x1 := keep_cell hb1 x1
        replace x2 := keep_cell hb1 x2
        replace HB := hide (below_next HB.out hb1)
        clear hb1 HCM
        go_wp2_with fail
        refine (HPF _ (HP.out.on HB.out)).mono ?_
        rintro e W7 ⟨rfl, hb1⟩
        replace HB := hide (below_next HB.out hb1)
        clear hb1 HPF
        go_wp2_with (go_at_call 9; refine (HS _).mono ?_; rintro e w' ⟨rfl, rfl⟩)
        go_ret
        exact ⟨rfl, HB.out⟩
end Go.Proofs.Ytphkhfeofoadcab

/- The last step of a law's row: what 'post' asks, out of 'Below' (nothing that was there has turned), without the limb on frozen cells that 'again' alone wants. -/
namespace Go.Proofs.Ytphkhfeofoadcab
open Go.ChangeShapes Go.WideShapes Go.ChangeAt Go.RowKit

theorem post_law {H : Type} {enc : TypeId × Value → H} {P : Program} {f : Func} {s : ChangeSpec} {apart fresh handsOn : Bool} {W W' : World} {args : Array Value} {v : Value} {ds gs : List (DataW H)} {before pa pv : List MemPlace}
    (hW : DataW.Whole enc P f.params.toList s.vars apart W args.toList ds gs before)
    (hres : ∀ (b : Nat) (sp : Nat → Bool) (hd : Bool), DataW.TrodAll enc P W' b sp hd f.resultTypes.toList (v.resultList f.resultTypes.size) (s.fn H (ds ++ gs)).results [])
    (hargs : ∀ sp : Nat → Bool, (∀ p ∈ before, sp p.block = true) → DataW.TrodAll enc P W' 0 sp true f.params.toList args.toList (s.fn H (ds ++ gs)).args pa)
    (hvars : ∀ sp : Nat → Bool, (∀ p ∈ before, sp p.block = true) → DataW.TrodVars enc P W' sp s.vars (s.fn H (ds ++ gs)).vars pv)
    (hps : before = pa ++ pv) (hk : Below W.heap.size W W') :
    s.post enc P f apart fresh handsOn false W args v W' := by
  have hold : ∀ p ∈ before, (fun b => decide (b < W.heap.size)) p.block = true := fun p hp => by simpa using hW.lt p hp
  refine ⟨ds, gs, before, [], pa, pv, hW, hres _ _ _, hargs _ hold, hvars _ hold, World.keptBut_mono (fun p hp => ⟨hp, ?_⟩) (hk.frame (· ∈ before)), fun h => by cases h⟩
  rw [hps, List.mem_append] at hp
  exact Or.inr hp
end Go.Proofs.Ytphkhfeofoadcab

/- What the rows over slices of structs need besides: the last step, and cells of elements. -/
namespace Go.Proofs.Ytphkhfeofoadcab
open Go.ChangeShapes Go.WideShapes Go.ChangeAt Go.RowKit Go.WideMaps Go.WideElems

theorem own : ownKnob Try.prog.godebug = none := by kernel_rfl
theorem laidOut : laidOutB Try.prog = true := by kernel_rfl

/-- 'post_law', the arguments read again under the one mode that is asked. -/
theorem post_law' {H : Type} {enc : TypeId × Value → H} {P : Program} {f : Func} {s : ChangeSpec} {apart fresh handsOn : Bool} {W W' : World} {args : Array Value} {v : Value} {ds gs : List (DataW H)} {before pa pv : List MemPlace}
    (hW : DataW.Whole enc P f.params.toList s.vars apart W args.toList ds gs before)
    (hres : ∀ (b : Nat) (sp : Nat → Bool) (hd : Bool), DataW.TrodAll enc P W' b sp hd f.resultTypes.toList (v.resultList f.resultTypes.size) (s.fn H (ds ++ gs)).results [])
    (hargs : DataW.TrodAll enc P W' 0 (fun b => decide (b < W.heap.size)) true f.params.toList args.toList (s.fn H (ds ++ gs)).args pa)
    (hvars : ∀ sp : Nat → Bool, (∀ p ∈ before, sp p.block = true) → DataW.TrodVars enc P W' sp s.vars (s.fn H (ds ++ gs)).vars pv)
    (hps : before = pa ++ pv) (hk : Below W.heap.size W W') :
    s.post enc P f apart fresh handsOn false W args v W' := by
  have hold : ∀ p ∈ before, (fun b => decide (b < W.heap.size)) p.block = true := fun p hp => by simpa using hW.lt p hp
  refine ⟨ds, gs, before, [], pa, pv, hW, hres _ _ _, hargs, hvars _ hold, World.keptBut_mono (fun p hp => ⟨hp, ?_⟩) (hk.frame (· ∈ before)), fun h => by cases h⟩
  rw [hps, List.mem_append] at hp
  exact Or.inr hp

theorem u64_wf {n : Int} (h : (Lit.int .u64 n).wf = true) : ∃ k : Nat, n = k ∧ k < 18446744073709551616 := by
  simp [Lit.wf, IntKind.min, IntKind.max, IntKind.signed, IntKind.bits] at h
  exact ⟨n.toNat, by omega, by omega⟩
theorem i64_wf {n : Int} (h : (Lit.int .i64 n).wf = true) : -9223372036854775808 ≤ n ∧ n ≤ 9223372036854775807 := by
  simp [Lit.wf, IntKind.min, IntKind.max, IntKind.signed, IntKind.bits] at h
  omega

theorem u32_wf {n : Int} (h : (Lit.int .u32 n).wf = true) : ∃ k : Nat, n = k ∧ k < 4294967296 := by
  simp [Lit.wf, IntKind.min, IntKind.max, IntKind.signed, IntKind.bits] at h
  exact ⟨n.toNat, by omega, by omega⟩

/-- The cells of element i of a slice at a plain address. -/
theorem elem_cells {w : World} {b off k i : Nat} {cs : List Value} (h : w.cells? 0 ((⟨b, off, none⟩ : Addr).add (i * k)) k = some cs) (j : Nat) (hj : j < k) : w.cell? ⟨b, off + i * k + j, none⟩ = cs[j]? := by
  have hc := (World.cells?_some h).2.2 j hj
  rw [Go.Deep.add_add, add_plain] at hc
  rw [show off + i * k + j = off + (i * k + j) by omega]
  exact hc

end Go.Proofs.Ytphkhfeofoadcab

/- Policies, calls and values that came in, opened. -/
namespace Go.Proofs.Ytphkhfeofoadcab
open Go.ChangeShapes Go.WideShapes Go.ChangeAt Go.RowKit Go.WideMaps Go.WideElems

theorem cond_fields : ∃ f0 f1 f2 f3 f4 f5 : Field, Try.prog.underlying 62 = some (.struct #[f0, f1, f2, f3, f4, f5]) ∧ (f0.type = 3 ∧ f1.type = 3 ∧ f2.type = 50 ∧ f3.type = 50 ∧ f4.type = 9 ∧ f5.type = 60) ∧ (f0.offset = 0 ∧ f1.offset = 1 ∧ f2.offset = 2 ∧ f3.offset = 3 ∧ f4.offset = 4 ∧ f5.offset = 5) :=
  ⟨_, _, _, _, _, _, Try.underlying62, ⟨by kernel_rfl, by kernel_rfl, by kernel_rfl, by kernel_rfl, by kernel_rfl, by kernel_rfl⟩, by kernel_rfl, by kernel_rfl, by kernel_rfl, by kernel_rfl, by kernel_rfl, by kernel_rfl⟩
theorem net_fields : ∃ f0 f1 f2 f3 : Field, Try.prog.underlying 60 = some (.struct #[f0, f1, f2, f3]) ∧ (f0.type = 22 ∧ f1.type = 3 ∧ f2.type = 3 ∧ f3.type = 3) ∧ (f0.offset = 0 ∧ f1.offset = 1 ∧ f2.offset = 2 ∧ f3.offset = 3) :=
  ⟨_, _, _, _, Try.underlying60, ⟨by kernel_rfl, by kernel_rfl, by kernel_rfl, by kernel_rfl⟩, by kernel_rfl, by kernel_rfl, by kernel_rfl, by kernel_rfl⟩
theorem rule_fields : ∃ f0 f1 f2 : Field, Try.prog.underlying 58 = some (.struct #[f0, f1, f2]) ∧ (f0.type = 3 ∧ f1.type = 56 ∧ f2.type = 25) ∧ (f0.offset = 0 ∧ f1.offset = 1 ∧ f2.offset = 2) :=
  ⟨_, _, _, Try.underlying58, ⟨by kernel_rfl, by kernel_rfl, by kernel_rfl⟩, by kernel_rfl, by kernel_rfl, by kernel_rfl⟩
theorem action_fields : ∃ f0 f1 : Field, Try.prog.underlying 25 = some (.struct #[f0, f1]) ∧ (f0.type = 3 ∧ f1.type = 3) ∧ (f0.offset = 0 ∧ f1.offset = 1) :=
  ⟨_, _, Try.underlying25, ⟨by kernel_rfl, by kernel_rfl⟩, by kernel_rfl, by kernel_rfl⟩
theorem pol_fields : ∃ f0 f1 : Field, Try.prog.underlying 27 = some (.struct #[f0, f1]) ∧ (f0.type = 23 ∧ f1.type = 25) ∧ (f0.offset = 0 ∧ f1.offset = 1) :=
  ⟨_, _, Try.underlying27, ⟨by kernel_rfl, by kernel_rfl⟩, by kernel_rfl, by kernel_rfl⟩
theorem call_fields : ∃ f0 f1 f2 : Field, Try.prog.underlying 53 = some (.struct #[f0, f1, f2]) ∧ (f0.type = 22 ∧ f1.type = 22 ∧ f2.type = 51) ∧ (f0.offset = 0 ∧ f1.offset = 1 ∧ f2.offset = 2) :=
  ⟨_, _, _, Try.underlying53, ⟨by kernel_rfl, by kernel_rfl, by kernel_rfl⟩, by kernel_rfl, by kernel_rfl, by kernel_rfl⟩
theorem cells_cond : Try.prog.cellsOf 62 = 9 := by kernel_rfl
theorem cells_net : Try.prog.cellsOf 60 = 4 := by kernel_rfl
theorem cells_rule : Try.prog.cellsOf 58 = 4 := by kernel_rfl
theorem cells_action : Try.prog.cellsOf 25 = 2 := by kernel_rfl
theorem cells_pol : Try.prog.cellsOf 27 = 3 := by kernel_rfl
theorem cells_conds : Try.prog.cellsOf 56 = 1 := by kernel_rfl
theorem cells_rules : Try.prog.cellsOf 23 = 1 := by kernel_rfl
theorem cells_call : Try.prog.cellsOf 53 = 6 := by kernel_rfl
theorem cells_i : Try.prog.cellsOf 3 = 1 := by kernel_rfl
theorem cells_s : Try.prog.cellsOf 9 = 1 := by kernel_rfl
theorem cells_32 : Try.prog.cellsOf 22 = 1 := by kernel_rfl
theorem cells_64 : Try.prog.cellsOf 50 = 1 := by kernel_rfl
theorem cells_arr4 : Try.prog.cellsOf 51 = 4 := by kernel_rfl

theorem list2 {α : Type} {l : List α} (h : l.length = 2) : ∃ a0 a1, l = [a0, a1] := by
  match l, h with
  | [a0, a1], _ => exact ⟨a0, a1, rfl⟩
theorem list3 {α : Type} {l : List α} (h : l.length = 3) : ∃ a0 a1 a2, l = [a0, a1, a2] := by
  match l, h with
  | [a0, a1, a2], _ => exact ⟨a0, a1, a2, rfl⟩
theorem list4 {α : Type} {l : List α} (h : l.length = 4) : ∃ a0 a1 a2 a3, l = [a0, a1, a2, a3] := by
  match l, h with
  | [a0, a1, a2, a3], _ => exact ⟨a0, a1, a2, a3, rfl⟩
theorem list9 {α : Type} {l : List α} (h : l.length = 9) : ∃ a0 a1 a2 a3 a4 a5 a6 a7 a8, l = [a0, a1, a2, a3, a4, a5, a6, a7, a8] := by
  match l, h with
  | [a0, a1, a2, a3, a4, a5, a6, a7, a8], _ => exact ⟨a0, a1, a2, a3, a4, a5, a6, a7, a8, rfl⟩
theorem array3 {α : Type} {l : Array α} (h : l.size = 3) : ∃ a0 a1 a2, l = #[a0, a1, a2] := by
  obtain ⟨l⟩ := l
  match l, h with
  | [a0, a1, a2], _ => exact ⟨a0, a1, a2, rfl⟩
theorem array6 {α : Type} {l : Array α} (h : l.size = 6) : ∃ a0 a1 a2 a3 a4 a5, l = #[a0, a1, a2, a3, a4, a5] := by
  obtain ⟨l⟩ := l
  match l, h with
  | [a0, a1, a2, a3, a4, a5], _ => exact ⟨a0, a1, a2, a3, a4, a5, rfl⟩
theorem array12 {α : Type} {l : Array α} (h : l.size = 12) : ∃ a0 a1 a2 a3 a4 a5 a6 a7 a8 a9 a10 a11, l = #[a0, a1, a2, a3, a4, a5, a6, a7, a8, a9, a10, a11] := by
  obtain ⟨l⟩ := l
  match l, h with
  | [a0, a1, a2, a3, a4, a5, a6, a7, a8, a9, a10, a11], _ => exact ⟨a0, a1, a2, a3, a4, a5, a6, a7, a8, a9, a10, a11, rfl⟩
/-- Elements, one by one, as a list. -/
theorem list_of {α : Type} {n : Nat} {p : Nat → α → Prop} (h : ∀ i, i < n → ∃ x, p i x) : ∃ l : List α, l.length = n ∧ ∀ i x, l[i]? = some x → p i x := by
  induction n with
  | zero => exact ⟨[], rfl, fun i x hx => by simp at hx⟩
  | succ n ih =>
    obtain ⟨l, hl, hp⟩ := ih fun i hi => h i (by omega)
    obtain ⟨y, hy⟩ := h n (by omega)
    refine ⟨l ++ [y], by simp [hl], fun i x hx => ?_⟩
    by_cases hi : i < n
    · rw [List.getElem?_append_left (by omega)] at hx
      exact hp i x hx
    · rw [List.getElem?_append_right (by omega)] at hx
      have hlt := (List.getElem?_eq_some_iff.1 hx).1
      simp only [List.length_singleton] at hlt
      obtain rfl : i = n := by omega
      rw [hl, Nat.sub_self] at hx
      obtain rfl := Option.some.inj hx
      exact hy

variable {H : Type} {enc : TypeId × Value → H} {w : World} {base : Nat} {spare : Nat → Bool} {held : Bool} {n : Nat} {cs : List Value} {x : DataW H × List MemPlace}
theorem i64_ok {n : Int} (h : (Lit.int .i64 n).wf = true) : I64 n := i64_wf h
theorem action_read (h : DataW.trod enc Try.prog w base spare held n 25 cs = some x) : ∃ a : ACT, cs = [.int .i64 a.kind, .int .i64 a.errno] ∧ AcOk a := by
  obtain ⟨f0, f1, hu, ⟨t0, t1⟩, o0, o1⟩ := action_fields
  obtain ⟨xs, m, _, _, hl, hlen, hf⟩ := DataW.trod_struct hu h
  rw [cells_action] at hl
  obtain ⟨a0, a1, rfl⟩ := list2 hl
  have g0 := hf 0 f0 rfl
  have g1 := hf 1 f1 rfl
  have hlt : xs.length = 2 := hlen
  rw [t0, o0, cells_i, List.getElem?_eq_getElem (by omega)] at g0
  rw [t1, o1, cells_i, List.getElem?_eq_getElem (by omega)] at g1
  obtain ⟨s0, q0, _, w0⟩ := DataW.trod_int Try.underlying3 g0
  obtain ⟨s1, q1, _, w1⟩ := DataW.trod_int Try.underlying3 g1
  simp at q0 q1
  subst q0 q1
  exact ⟨⟨s0, s1⟩, rfl, ⟨i64_ok w0, i64_ok w1⟩⟩
theorem net_read (h : DataW.trod enc Try.prog w base spare held n 60 cs = some x) : ∃ a : NT, cs = [.int .u32 a.ip, .int .i64 a.bits, .int .i64 a.lo, .int .i64 a.hi] ∧ NtOk a := by
  obtain ⟨f0, f1, f2, f3, hu, ⟨t0, t1, t2, t3⟩, o0, o1, o2, o3⟩ := net_fields
  obtain ⟨xs, m, _, _, hl, hlen, hf⟩ := DataW.trod_struct hu h
  rw [cells_net] at hl
  obtain ⟨a0, a1, a2, a3, rfl⟩ := list4 hl
  have g0 := hf 0 f0 rfl
  have g1 := hf 1 f1 rfl
  have g2 := hf 2 f2 rfl
  have g3 := hf 3 f3 rfl
  have hlt : xs.length = 4 := hlen
  rw [t0, o0, cells_32, List.getElem?_eq_getElem (by omega)] at g0
  rw [t1, o1, cells_i, List.getElem?_eq_getElem (by omega)] at g1
  rw [t2, o2, cells_i, List.getElem?_eq_getElem (by omega)] at g2
  rw [t3, o3, cells_i, List.getElem?_eq_getElem (by omega)] at g3
  obtain ⟨s0, q0, _, w0⟩ := DataW.trod_int Try.underlying22 g0
  obtain ⟨s1, q1, _, w1⟩ := DataW.trod_int Try.underlying3 g1
  obtain ⟨s2, q2, _, w2⟩ := DataW.trod_int Try.underlying3 g2
  obtain ⟨s3, q3, _, w3⟩ := DataW.trod_int Try.underlying3 g3
  simp at q0 q1 q2 q3
  obtain ⟨k0, rfl, h0⟩ := u32_wf w0
  subst q0 q1 q2 q3
  exact ⟨⟨k0, s1, s2, s3⟩, rfl, ⟨h0, i64_ok w1, i64_ok w2, i64_ok w3⟩⟩
theorem cond_read (h : DataW.trod enc Try.prog w base spare held n 62 cs = some x) :
    ∃ c : CD, cs = [.int .i64 c.arg, .int .i64 c.op, .int .u64 c.v, .int .u64 c.m, .string c.glob, .int .u32 c.net.ip, .int .i64 c.net.bits, .int .i64 c.net.lo, .int .i64 c.net.hi] ∧ CdOk c := by
  obtain ⟨f0, f1, f2, f3, f4, f5, hu, ⟨t0, t1, t2, t3, t4, t5⟩, o0, o1, o2, o3, o4, o5⟩ := cond_fields
  obtain ⟨xs, m, _, _, hl, hlen, hf⟩ := DataW.trod_struct hu h
  rw [cells_cond] at hl
  obtain ⟨a0, a1, a2, a3, a4, a5, a6, a7, a8, rfl⟩ := list9 hl
  have g0 := hf 0 f0 rfl
  have g1 := hf 1 f1 rfl
  have g2 := hf 2 f2 rfl
  have g3 := hf 3 f3 rfl
  have g4 := hf 4 f4 rfl
  have g5 := hf 5 f5 rfl
  have hlt : xs.length = 6 := hlen
  rw [t0, o0, cells_i, List.getElem?_eq_getElem (by omega)] at g0
  rw [t1, o1, cells_i, List.getElem?_eq_getElem (by omega)] at g1
  rw [t2, o2, cells_64, List.getElem?_eq_getElem (by omega)] at g2
  rw [t3, o3, cells_64, List.getElem?_eq_getElem (by omega)] at g3
  rw [t4, o4, cells_s, List.getElem?_eq_getElem (by omega)] at g4
  rw [t5, o5, cells_net, List.getElem?_eq_getElem (by omega)] at g5
  obtain ⟨nt, q5, hnt⟩ := net_read g5
  obtain ⟨s0, q0, _, w0⟩ := DataW.trod_int Try.underlying3 g0
  obtain ⟨s1, q1, _, w1⟩ := DataW.trod_int Try.underlying3 g1
  obtain ⟨s2, q2, _, w2⟩ := DataW.trod_int Try.underlying50 g2
  obtain ⟨s3, q3, _, w3⟩ := DataW.trod_int Try.underlying50 g3
  obtain ⟨s4, q4, _, _⟩ := DataW.trod_string Try.underlying9 g4
  simp at q0 q1 q2 q3 q4 q5
  obtain ⟨k2, rfl, h2⟩ := u64_wf w2
  obtain ⟨k3, rfl, h3⟩ := u64_wf w3
  obtain ⟨q5, q6, q7, q8⟩ := q5
  subst q0 q1 q2 q3 q4 q5 q6 q7 q8
  exact ⟨⟨s0, s1, k2, k3, s4, nt⟩, rfl, ⟨i64_ok w0, i64_ok w1, h2, h3, hnt⟩⟩

set_option maxRecDepth 100000 in
theorem conds_read {W : World} (h : DataW.trod enc Try.prog W 0 (fun _ => true) true n 56 cs = some x) :
    ∃ (oa : Option Addr) (l : List CD) (cap : Nat), cs = [.slice oa l.length cap] ∧ l.length ≤ cap ∧ cap ≤ maxLen ∧ IsConds oa l W ∧ ∀ c ∈ l, CdOk c := by
  rcases Go.Deep.open_slice Try.underlying56 h with ⟨rfl, _⟩ | ⟨a, len, cap, m, fu, D, Pl, rfl, _, hl, hm, hmm, _, hx⟩
  · exact ⟨none, [], 0, rfl, Nat.le_refl _, Nat.zero_le _, IsConds.nil _ _, fun c hc => by simp at hc⟩
  · rw [if_pos rfl] at hmm
    subst hmm
    rw [cells_cond] at hx
    obtain ⟨l, hll, hp⟩ := list_of (n := len) (p := fun i (c : CD) => ∃ cs', W.cells? 0 (a.add (i * 9)) 9 = some cs' ∧ cs' = [.int .i64 c.arg, .int .i64 c.op, .int .u64 c.v, .int .u64 c.m, .string c.glob, .int .u32 c.net.ip, .int .i64 c.net.bits, .int .i64 c.net.lo, .int .i64 c.net.hi] ∧ CdOk c) fun i hi => by
      obtain ⟨cs', h1, h2⟩ := hx i (by omega)
      obtain ⟨c, h3, h4⟩ := cond_read h2
      exact ⟨c, cs', h1, h3, h4⟩
    subst hll
    refine ⟨some a, l, m, rfl, hl, hm, ⟨fun h0 => ?_⟩, fun c hc => ?_⟩
    · obtain ⟨b, off, spot⟩ := a
      obtain ⟨cs0, k1, k2, _⟩ := hp 0 l[0] (List.getElem?_eq_getElem h0)
      have hc0 := (World.cells?_some k1).2.2 0 (by omega)
      rw [k2] at hc0
      have hspot : spot = none := by simpa [Addr.add] using World.cell?_spot hc0
      subst hspot
      refine ⟨b, off, rfl, World.cells?_block (by rw [Nat.zero_mul] at k1; simpa [Addr.add] using k1) (by omega : 0 < 9), fun i c hi => ?_⟩
      obtain ⟨cs', k1, rfl, k3⟩ := hp i c hi
      exact ⟨elem_cells k1 0 (by omega), elem_cells k1 1 (by omega), elem_cells k1 2 (by omega), elem_cells k1 3 (by omega), elem_cells k1 4 (by omega), elem_cells k1 5 (by omega), elem_cells k1 6 (by omega), elem_cells k1 7 (by omega), elem_cells k1 8 (by omega), k3⟩
    · obtain ⟨i, hi, rfl⟩ := List.mem_iff_getElem.1 hc
      obtain ⟨_, _, _, k3⟩ := hp i _ (List.getElem?_eq_getElem hi)
      exact k3
theorem rule_read {W : World} (h : DataW.trod enc Try.prog W 0 (fun _ => true) true n 58 cs = some x) :
    ∃ (r : RL) (oa : Option Addr) (cap : Nat), cs = [.int .i64 r.nr, .slice oa r.conds.length cap, .int .i64 r.act.kind, .int .i64 r.act.errno] ∧ r.conds.length ≤ cap ∧ cap ≤ maxLen ∧ IsConds oa r.conds W ∧ RlOk r := by
  obtain ⟨f0, f1, f2, hu, ⟨t0, t1, t2⟩, o0, o1, o2⟩ := rule_fields
  obtain ⟨xs, m, _, _, hl, hlen, hf⟩ := DataW.trod_struct hu h
  rw [cells_rule] at hl
  obtain ⟨a0, a1, a2, a3, rfl⟩ := list4 hl
  have g0 := hf 0 f0 rfl
  have g1 := hf 1 f1 rfl
  have g2 := hf 2 f2 rfl
  have hlt : xs.length = 3 := hlen
  rw [t0, o0, cells_i, List.getElem?_eq_getElem (by omega)] at g0
  rw [t1, o1, cells_conds, List.getElem?_eq_getElem (by omega)] at g1
  rw [t2, o2, cells_action, List.getElem?_eq_getElem (by omega)] at g2
  obtain ⟨s0, q0, _, w0⟩ := DataW.trod_int Try.underlying3 g0
  obtain ⟨oa, l, cap, q1, hlc, hcm, hic, hok⟩ := conds_read g1
  obtain ⟨ac, q2, hac⟩ := action_read g2
  simp at q0 q1 q2
  obtain ⟨q2, q3⟩ := q2
  subst q0 q1 q2 q3
  exact ⟨⟨s0, l, ac⟩, oa, cap, rfl, hlc, hcm, hic, ⟨i64_ok w0, hok, hac⟩⟩

set_option maxRecDepth 100000 in
theorem rules_read {W : World} (h : DataW.trod enc Try.prog W 0 (fun _ => true) true n 23 cs = some x) :
    ∃ (oa : Option Addr) (l : List RL) (cap : Nat), cs = [.slice oa l.length cap] ∧ l.length ≤ cap ∧ cap ≤ maxLen ∧ IsRules oa l W ∧ ∀ r ∈ l, RlOk r := by
  rcases Go.Deep.open_slice Try.underlying23 h with ⟨rfl, _⟩ | ⟨a, len, cap, m, fu, D, Pl, rfl, _, hl, hm, hmm, _, hx⟩
  · exact ⟨none, [], 0, rfl, Nat.le_refl _, Nat.zero_le _, IsRules.nil _ _, fun c hc => by simp at hc⟩
  · rw [if_pos rfl] at hmm
    subst hmm
    rw [cells_rule] at hx
    obtain ⟨l, hll, hp⟩ := list_of (n := len) (p := fun i (r : RL) => ∃ cs', W.cells? 0 (a.add (i * 4)) 4 = some cs' ∧ ∃ (oa : Option Addr) (cap : Nat), cs' = [.int .i64 r.nr, .slice oa r.conds.length cap, .int .i64 r.act.kind, .int .i64 r.act.errno] ∧ r.conds.length ≤ cap ∧ cap ≤ maxLen ∧ IsConds oa r.conds W ∧ RlOk r) fun i hi => by
      obtain ⟨cs', h1, h2⟩ := hx i (by omega)
      obtain ⟨r, oa, cap, h3, h4⟩ := rule_read h2
      exact ⟨r, cs', h1, oa, cap, h3, h4⟩
    subst hll
    refine ⟨some a, l, m, rfl, hl, hm, ⟨fun h0 => ?_⟩, fun c hc => ?_⟩
    · obtain ⟨b, off, spot⟩ := a
      obtain ⟨cs0, k1, _, _, k2, _⟩ := hp 0 l[0] (List.getElem?_eq_getElem h0)
      have hc0 := (World.cells?_some k1).2.2 0 (by omega)
      rw [k2] at hc0
      have hspot : spot = none := by simpa [Addr.add] using World.cell?_spot hc0
      subst hspot
      refine ⟨b, off, rfl, World.cells?_block (by rw [Nat.zero_mul] at k1; simpa [Addr.add] using k1) (by omega : 0 < 4), fun i c hi => ?_⟩
      obtain ⟨cs', k1, oa, cc, rfl, k3, k4, k5, k6⟩ := hp i c hi
      exact ⟨oa, cc, elem_cells k1 0 (by omega), elem_cells k1 1 (by omega), elem_cells k1 2 (by omega), elem_cells k1 3 (by omega), k5, k3, k4, k6⟩
    · obtain ⟨i, hi, rfl⟩ := List.mem_iff_getElem.1 hc
      obtain ⟨_, _, _, _, _, _, _, _, k6⟩ := hp i _ (List.getElem?_eq_getElem hi)
      exact k6

set_option maxRecDepth 100000 in
/-- A policy that came in, opened. -/
theorem open_pol {W : World} {v : Value} {d : DataW H} {p : List MemPlace} {r : Reach} {b0 : Nat} (hv : Value.okWide Try.prog W r b0 27 v) (h : DataW.Trod enc Try.prog W 0 (fun _ => true) true 27 v d p) :
    ∃ (q : POL) (oa : Option Addr) (cap : Nat), v = polV q oa cap ∧ IsPol oa cap q W := by
  obtain ⟨f0, f1, hu, ⟨t0, t1⟩, o0, o1⟩ := pol_fields
  obtain ⟨cs, rfl, hsz⟩ := okWide_struct hu hv
  obtain ⟨a0, a1, a2, rfl⟩ := array3 (hsz.trans cells_pol)
  obtain ⟨fuel, hf⟩ := h
  obtain ⟨xs, m, _, _, hl, hlen, hf⟩ := DataW.trod_struct hu hf
  have g0 := hf 0 f0 rfl
  have g1 := hf 1 f1 rfl
  have hlt : xs.length = 2 := hlen
  rw [t0, o0, cells_rules, List.getElem?_eq_getElem (by omega)] at g0
  rw [t1, o1, cells_action, List.getElem?_eq_getElem (by omega)] at g1
  obtain ⟨oa, l, cap, q0, hlc, hcm, hir, hok⟩ := rules_read g0
  obtain ⟨ac, q1, hac⟩ := action_read g1
  simp [Value.cells] at q0 q1
  obtain ⟨q1, q2⟩ := q1
  subst q0 q1 q2
  exact ⟨⟨l, ac⟩, oa, cap, rfl, ⟨hir, hlc, hcm, ⟨hok, hac⟩⟩⟩

set_option maxRecDepth 100000 in
/-- A call that came in, opened. -/
theorem open_call {W : World} {v : Value} {d : DataW H} {p : List MemPlace} {r : Reach} {b0 : Nat} (hv : Value.okWide Try.prog W r b0 53 v) (h : DataW.Trod enc Try.prog W base spare held 53 v d p) :
    ∃ c : KL, v = klV c ∧ KlOk c := by
  obtain ⟨f0, f1, f2, hu, ⟨t0, t1, t2⟩, o0, o1, o2⟩ := call_fields
  obtain ⟨cs, rfl, hsz⟩ := okWide_struct hu hv
  obtain ⟨a0, a1, a2, a3, a4, a5, rfl⟩ := array6 (hsz.trans cells_call)
  obtain ⟨fuel, hf⟩ := h
  obtain ⟨xs, m, _, _, hl, hlen, hf⟩ := DataW.trod_struct hu hf
  have g0 := hf 0 f0 rfl
  have g1 := hf 1 f1 rfl
  have g2 := hf 2 f2 rfl
  have hlt : xs.length = 3 := hlen
  rw [t0, o0, cells_32, List.getElem?_eq_getElem (by omega)] at g0
  rw [t1, o1, cells_32, List.getElem?_eq_getElem (by omega)] at g1
  rw [t2, o2, cells_arr4, List.getElem?_eq_getElem (by omega)] at g2
  obtain ⟨s0, q0, _, w0⟩ := DataW.trod_int Try.underlying22 g0
  obtain ⟨s1, q1, _, w1⟩ := DataW.trod_int Try.underlying22 g1
  obtain ⟨ys, m', _, _, _, hyl, hy⟩ := DataW.trod_array Try.underlying51 g2
  have y0 := hy 0 (by omega)
  have y1 := hy 1 (by omega)
  have y2 := hy 2 (by omega)
  have y3 := hy 3 (by omega)
  rw [cells_64, List.getElem?_eq_getElem (by omega)] at y0 y1 y2 y3
  obtain ⟨s2, q2, _, w2⟩ := DataW.trod_int Try.underlying50 y0
  obtain ⟨s3, q3, _, w3⟩ := DataW.trod_int Try.underlying50 y1
  obtain ⟨s4, q4, _, w4⟩ := DataW.trod_int Try.underlying50 y2
  obtain ⟨s5, q5, _, w5⟩ := DataW.trod_int Try.underlying50 y3
  simp [Value.cells] at q0 q1 q2 q3 q4 q5
  obtain ⟨k0, rfl, h0⟩ := u32_wf w0
  obtain ⟨k1, rfl, h1⟩ := u32_wf w1
  obtain ⟨k2, rfl, h2⟩ := u64_wf w2
  obtain ⟨k3, rfl, h3⟩ := u64_wf w3
  obtain ⟨k4, rfl, h4⟩ := u64_wf w4
  obtain ⟨k5, rfl, h5⟩ := u64_wf w5
  subst q0 q1 q2 q3 q4 q5
  exact ⟨⟨k0, k1, k2, k3, k4, k5⟩, rfl, ⟨h0, h1, h2, h3, h4, h5⟩⟩

theorem okWide_arr {P : Program} {w : World} {r : Reach} {base : Nat} {t : TypeId} {v : Value} {n : Nat} {e : TypeId} (ht : P.underlying t = some (.array n e)) (h : Value.okWide P w r base t v) : ∃ cs, v = .agg cs ∧ cs.size = P.cellsOf t := by
  simp only [Value.okWide, ht] at h
  obtain ⟨cs, h1, h2, _⟩ := h
  exact ⟨cs, h1, h2⟩
/-- What is known of values that come in. -/
def VsIn (v : VS) : Prop := ∀ i, i ≤ 3 → (v.at i).path.size ≤ maxLen ∧ (v.at i).ip < 4294967296 ∧ I64 (v.at i).port
end Go.Proofs.Ytphkhfeofoadcab
