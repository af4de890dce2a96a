/- The document's condFault where the kind is right, and PolicyFault. -/
import Derived.Test.YtklibmijiecbfaaGreatK45
namespace Go.Proofs.YtklibmijiecbfaaGreat
open Go.RowKit Go.Sort

set_option maxHeartbeats 8000000 in
set_option maxRecDepth 100000 in
theorem dcondF_num (nr a : Nat) (hnr : nr < 9) (ha : a ≤ 3) (op : Int) (h1 : ¬ op < 1) (h6 : ¬ 6 < op) (v m : Nat) (g : ByteArray) (ip : Nat) (b lo hi : Int) (w : World) (hk : kindAt nr a = 1) (f : Nat) (hu3 : unusedP ⟨a, op, v, m, g, ⟨ip, b, lo, hi⟩⟩ → f = 3) (hu0 : ¬ unusedP ⟨a, op, v, m, g, ⟨ip, b, lo, hi⟩⟩ → f = 0) :
  Calls Tryz.prog 23 #[.int .i64 nr, condV ⟨a, op, v, m, g, ⟨ip, b, lo, hi⟩⟩] w fun e w' => e = .returned (.int .i64 f) ∧ Below w.heap.size w w' := by
 have HK := fun X => dkind_any nr a hnr (by omega) X
 rw [hk] at HK
 have HU3 := hide hu3
 have HU0 := hide hu0
 clear hk hu3 hu0 hnr
 unfold condV
 simp only
 have i1 : ¬ (a : Int) < 0 := by omega
 have i2 : ¬ 3 < (a : Int) := by omega
 have n7 : ¬ op = 7 := by omega
 have n8 : ¬ op = 8 := by omega
 have n9 : ¬ op = 9 := by omega
 have b7 : (op != 7) = true := by simpa using n7
 have b8 : (op != 8) = true := by simpa using n8
 have b9 : (op != 9) = true := by simpa using n9
 have m7 : ¬ 7 < op := by omega
 have m9 : ¬ 9 < op := by omega
 by_cases hm : m = 0
 ·
  subst hm
  by_cases hv : v = 0
  ·
   subst hv
   by_cases hg : g.size = 0
   ·
    have pg : ¬ (0 : Int) < g.size := by omega
    by_cases hip : ip = 0
    ·
     subst hip
     by_cases hb : b = 0
     ·
      subst hb
      by_cases hlo : lo = 0
      ·
       subst hlo
       by_cases hhi : hi = 0
       ·
        subst hhi
        have HF := hide (show (f : Int) = 0 by rw [HU0.out (by unfold unusedP netZ; first | (simp only; omega) | (simp; omega) | simp_all)]; rfl)
        clear HU3 HU0
        go_enter Tryz.func23, Tryz.ntmps23
        go_wp2_with (first
         | (go_at_call 44; refine (HK _).mono ?_; rintro e X ⟨rfl, rfl⟩))
        all_goals
         go_ret
         exact ⟨by rw [HF.out]; rfl, below_next (box_below _ _) (box_below _ _)⟩
       ·
        have phi : ¬ (hi : Int) = 0 := by omega
        have HF := hide (show (f : Int) = 3 by rw [HU3.out (by unfold unusedP netZ; first | (simp only; omega) | (simp; omega) | simp_all)]; rfl)
        clear HU3 HU0
        go_enter Tryz.func23, Tryz.ntmps23
        go_wp2_with (first
         | (go_at_call 44; refine (HK _).mono ?_; rintro e X ⟨rfl, rfl⟩))
        all_goals
         go_ret
         exact ⟨by rw [HF.out]; rfl, below_next (box_below _ _) (box_below _ _)⟩
      ·
       have plo : ¬ (lo : Int) = 0 := by omega
       have HF := hide (show (f : Int) = 3 by rw [HU3.out (by unfold unusedP netZ; first | (simp only; omega) | (simp; omega) | simp_all)]; rfl)
       clear HU3 HU0
       go_enter Tryz.func23, Tryz.ntmps23
       go_wp2_with (first
        | (go_at_call 44; refine (HK _).mono ?_; rintro e X ⟨rfl, rfl⟩))
       all_goals
        go_ret
        exact ⟨by rw [HF.out]; rfl, below_next (box_below _ _) (box_below _ _)⟩
     ·
      have pb : ¬ (b : Int) = 0 := by omega
      have HF := hide (show (f : Int) = 3 by rw [HU3.out (by unfold unusedP netZ; first | (simp only; omega) | (simp; omega) | simp_all)]; rfl)
      clear HU3 HU0
      go_enter Tryz.func23, Tryz.ntmps23
      go_wp2_with (first
       | (go_at_call 44; refine (HK _).mono ?_; rintro e X ⟨rfl, rfl⟩))
      all_goals
       go_ret
       exact ⟨by rw [HF.out]; rfl, below_next (box_below _ _) (box_below _ _)⟩
    ·
     have pip : ¬ (ip : Int) = 0 := by omega
     have HF := hide (show (f : Int) = 3 by rw [HU3.out (by unfold unusedP netZ; first | (simp only; omega) | (simp; omega) | simp_all)]; rfl)
     clear HU3 HU0
     go_enter Tryz.func23, Tryz.ntmps23
     go_wp2_with (first
      | (go_at_call 44; refine (HK _).mono ?_; rintro e X ⟨rfl, rfl⟩))
     all_goals
      go_ret
      exact ⟨by rw [HF.out]; rfl, below_next (box_below _ _) (box_below _ _)⟩
   ·
    have pg : (0 : Int) < g.size := by omega
    have HF := hide (show (f : Int) = 3 by rw [HU3.out (by unfold unusedP netZ; first | (simp only; omega) | (simp; omega) | simp_all)]; rfl)
    clear HU3 HU0
    go_enter Tryz.func23, Tryz.ntmps23
    go_wp2_with (first
     | (go_at_call 44; refine (HK _).mono ?_; rintro e X ⟨rfl, rfl⟩))
    all_goals
     go_ret
     exact ⟨by rw [HF.out]; rfl, below_next (box_below _ _) (box_below _ _)⟩
  ·
   have pv : (0 : Int) < v := by omega
   by_cases hg : g.size = 0
   ·
    have pg : ¬ (0 : Int) < g.size := by omega
    by_cases hip : ip = 0
    ·
     subst hip
     by_cases hb : b = 0
     ·
      subst hb
      by_cases hlo : lo = 0
      ·
       subst hlo
       by_cases hhi : hi = 0
       ·
        subst hhi
        have HF := hide (show (f : Int) = 0 by rw [HU0.out (by unfold unusedP netZ; first | (simp only; omega) | (simp; omega) | simp_all)]; rfl)
        clear HU3 HU0
        go_enter Tryz.func23, Tryz.ntmps23
        go_wp2_with (first
         | (go_at_call 44; refine (HK _).mono ?_; rintro e X ⟨rfl, rfl⟩))
        all_goals
         go_ret
         exact ⟨by rw [HF.out]; rfl, below_next (box_below _ _) (box_below _ _)⟩
       ·
        have phi : ¬ (hi : Int) = 0 := by omega
        have HF := hide (show (f : Int) = 3 by rw [HU3.out (by unfold unusedP netZ; first | (simp only; omega) | (simp; omega) | simp_all)]; rfl)
        clear HU3 HU0
        go_enter Tryz.func23, Tryz.ntmps23
        go_wp2_with (first
         | (go_at_call 44; refine (HK _).mono ?_; rintro e X ⟨rfl, rfl⟩))
        all_goals
         go_ret
         exact ⟨by rw [HF.out]; rfl, below_next (box_below _ _) (box_below _ _)⟩
      ·
       have plo : ¬ (lo : Int) = 0 := by omega
       have HF := hide (show (f : Int) = 3 by rw [HU3.out (by unfold unusedP netZ; first | (simp only; omega) | (simp; omega) | simp_all)]; rfl)
       clear HU3 HU0
       go_enter Tryz.func23, Tryz.ntmps23
       go_wp2_with (first
        | (go_at_call 44; refine (HK _).mono ?_; rintro e X ⟨rfl, rfl⟩))
       all_goals
        go_ret
        exact ⟨by rw [HF.out]; rfl, below_next (box_below _ _) (box_below _ _)⟩
     ·
      have pb : ¬ (b : Int) = 0 := by omega
      have HF := hide (show (f : Int) = 3 by rw [HU3.out (by unfold unusedP netZ; first | (simp only; omega) | (simp; omega) | simp_all)]; rfl)
      clear HU3 HU0
      go_enter Tryz.func23, Tryz.ntmps23
      go_wp2_with (first
       | (go_at_call 44; refine (HK _).mono ?_; rintro e X ⟨rfl, rfl⟩))
      all_goals
       go_ret
       exact ⟨by rw [HF.out]; rfl, below_next (box_below _ _) (box_below _ _)⟩
    ·
     have pip : ¬ (ip : Int) = 0 := by omega
     have HF := hide (show (f : Int) = 3 by rw [HU3.out (by unfold unusedP netZ; first | (simp only; omega) | (simp; omega) | simp_all)]; rfl)
     clear HU3 HU0
     go_enter Tryz.func23, Tryz.ntmps23
     go_wp2_with (first
      | (go_at_call 44; refine (HK _).mono ?_; rintro e X ⟨rfl, rfl⟩))
     all_goals
      go_ret
      exact ⟨by rw [HF.out]; rfl, below_next (box_below _ _) (box_below _ _)⟩
   ·
    have pg : (0 : Int) < g.size := by omega
    have HF := hide (show (f : Int) = 3 by rw [HU3.out (by unfold unusedP netZ; first | (simp only; omega) | (simp; omega) | simp_all)]; rfl)
    clear HU3 HU0
    go_enter Tryz.func23, Tryz.ntmps23
    go_wp2_with (first
     | (go_at_call 44; refine (HK _).mono ?_; rintro e X ⟨rfl, rfl⟩))
    all_goals
     go_ret
     exact ⟨by rw [HF.out]; rfl, below_next (box_below _ _) (box_below _ _)⟩
 ·
  have pm : (0 : Int) < m := by omega
  have HF := hide (show (f : Int) = 3 by rw [HU3.out (by unfold unusedP netZ; first | (simp only; omega) | (simp; omega) | simp_all)]; rfl)
  clear HU3 HU0
  go_enter Tryz.func23, Tryz.ntmps23
  go_wp2_with (first
   | (go_at_call 44; refine (HK _).mono ?_; rintro e X ⟨rfl, rfl⟩))
  all_goals
   go_ret
   exact ⟨by rw [HF.out]; rfl, below_next (box_below _ _) (box_below _ _)⟩

set_option maxHeartbeats 8000000 in
set_option maxRecDepth 100000 in
theorem dcondF_mask (nr a : Nat) (hnr : nr < 9) (ha : a ≤ 3) (v m : Nat) (g : ByteArray) (ip : Nat) (b lo hi : Int) (w : World) (hk : kindAt nr a = 1) (f : Nat) (hu3 : unusedP ⟨a, 7, v, m, g, ⟨ip, b, lo, hi⟩⟩ → f = 3) (hu0 : ¬ unusedP ⟨a, 7, v, m, g, ⟨ip, b, lo, hi⟩⟩ → f = 0) :
  Calls Tryz.prog 23 #[.int .i64 nr, condV ⟨a, 7, v, m, g, ⟨ip, b, lo, hi⟩⟩] w fun e w' => e = .returned (.int .i64 f) ∧ Below w.heap.size w w' := by
 have HK := fun X => dkind_any nr a hnr (by omega) X
 rw [hk] at HK
 have HU3 := hide hu3
 have HU0 := hide hu0
 clear hk hu3 hu0 hnr
 unfold condV
 simp only
 have i1 : ¬ (a : Int) < 0 := by omega
 have i2 : ¬ 3 < (a : Int) := by omega
 by_cases hm : m = 0
 ·
  subst hm
  by_cases hv : v = 0
  ·
   subst hv
   by_cases hg : g.size = 0
   ·
    have pg : ¬ (0 : Int) < g.size := by omega
    by_cases hip : ip = 0
    ·
     subst hip
     by_cases hb : b = 0
     ·
      subst hb
      by_cases hlo : lo = 0
      ·
       subst hlo
       by_cases hhi : hi = 0
       ·
        subst hhi
        have HF := hide (show (f : Int) = 0 by rw [HU0.out (by unfold unusedP netZ; first | (simp only; omega) | (simp; omega) | simp_all)]; rfl)
        clear HU3 HU0
        go_enter Tryz.func23, Tryz.ntmps23
        go_wp2_with (first
         | (go_at_call 44; refine (HK _).mono ?_; rintro e X ⟨rfl, rfl⟩))
        all_goals
         go_ret
         exact ⟨by rw [HF.out]; rfl, below_next (box_below _ _) (box_below _ _)⟩
       ·
        have phi : ¬ (hi : Int) = 0 := by omega
        have HF := hide (show (f : Int) = 3 by rw [HU3.out (by unfold unusedP netZ; first | (simp only; omega) | (simp; omega) | simp_all)]; rfl)
        clear HU3 HU0
        go_enter Tryz.func23, Tryz.ntmps23
        go_wp2_with (first
         | (go_at_call 44; refine (HK _).mono ?_; rintro e X ⟨rfl, rfl⟩))
        all_goals
         go_ret
         exact ⟨by rw [HF.out]; rfl, below_next (box_below _ _) (box_below _ _)⟩
      ·
       have plo : ¬ (lo : Int) = 0 := by omega
       have HF := hide (show (f : Int) = 3 by rw [HU3.out (by unfold unusedP netZ; first | (simp only; omega) | (simp; omega) | simp_all)]; rfl)
       clear HU3 HU0
       go_enter Tryz.func23, Tryz.ntmps23
       go_wp2_with (first
        | (go_at_call 44; refine (HK _).mono ?_; rintro e X ⟨rfl, rfl⟩))
       all_goals
        go_ret
        exact ⟨by rw [HF.out]; rfl, below_next (box_below _ _) (box_below _ _)⟩
     ·
      have pb : ¬ (b : Int) = 0 := by omega
      have HF := hide (show (f : Int) = 3 by rw [HU3.out (by unfold unusedP netZ; first | (simp only; omega) | (simp; omega) | simp_all)]; rfl)
      clear HU3 HU0
      go_enter Tryz.func23, Tryz.ntmps23
      go_wp2_with (first
       | (go_at_call 44; refine (HK _).mono ?_; rintro e X ⟨rfl, rfl⟩))
      all_goals
       go_ret
       exact ⟨by rw [HF.out]; rfl, below_next (box_below _ _) (box_below _ _)⟩
    ·
     have pip : ¬ (ip : Int) = 0 := by omega
     have HF := hide (show (f : Int) = 3 by rw [HU3.out (by unfold unusedP netZ; first | (simp only; omega) | (simp; omega) | simp_all)]; rfl)
     clear HU3 HU0
     go_enter Tryz.func23, Tryz.ntmps23
     go_wp2_with (first
      | (go_at_call 44; refine (HK _).mono ?_; rintro e X ⟨rfl, rfl⟩))
     all_goals
      go_ret
      exact ⟨by rw [HF.out]; rfl, below_next (box_below _ _) (box_below _ _)⟩
   ·
    have pg : (0 : Int) < g.size := by omega
    have HF := hide (show (f : Int) = 3 by rw [HU3.out (by unfold unusedP netZ; first | (simp only; omega) | (simp; omega) | simp_all)]; rfl)
    clear HU3 HU0
    go_enter Tryz.func23, Tryz.ntmps23
    go_wp2_with (first
     | (go_at_call 44; refine (HK _).mono ?_; rintro e X ⟨rfl, rfl⟩))
    all_goals
     go_ret
     exact ⟨by rw [HF.out]; rfl, below_next (box_below _ _) (box_below _ _)⟩
  ·
   have pv : (0 : Int) < v := by omega
   by_cases hg : g.size = 0
   ·
    have pg : ¬ (0 : Int) < g.size := by omega
    by_cases hip : ip = 0
    ·
     subst hip
     by_cases hb : b = 0
     ·
      subst hb
      by_cases hlo : lo = 0
      ·
       subst hlo
       by_cases hhi : hi = 0
       ·
        subst hhi
        have HF := hide (show (f : Int) = 0 by rw [HU0.out (by unfold unusedP netZ; first | (simp only; omega) | (simp; omega) | simp_all)]; rfl)
        clear HU3 HU0
        go_enter Tryz.func23, Tryz.ntmps23
        go_wp2_with (first
         | (go_at_call 44; refine (HK _).mono ?_; rintro e X ⟨rfl, rfl⟩))
        all_goals
         go_ret
         exact ⟨by rw [HF.out]; rfl, below_next (box_below _ _) (box_below _ _)⟩
       ·
        have phi : ¬ (hi : Int) = 0 := by omega
        have HF := hide (show (f : Int) = 3 by rw [HU3.out (by unfold unusedP netZ; first | (simp only; omega) | (simp; omega) | simp_all)]; rfl)
        clear HU3 HU0
        go_enter Tryz.func23, Tryz.ntmps23
        go_wp2_with (first
         | (go_at_call 44; refine (HK _).mono ?_; rintro e X ⟨rfl, rfl⟩))
        all_goals
         go_ret
         exact ⟨by rw [HF.out]; rfl, below_next (box_below _ _) (box_below _ _)⟩
      ·
       have plo : ¬ (lo : Int) = 0 := by omega
       have HF := hide (show (f : Int) = 3 by rw [HU3.out (by unfold unusedP netZ; first | (simp only; omega) | (simp; omega) | simp_all)]; rfl)
       clear HU3 HU0
       go_enter Tryz.func23, Tryz.ntmps23
       go_wp2_with (first
        | (go_at_call 44; refine (HK _).mono ?_; rintro e X ⟨rfl, rfl⟩))
       all_goals
        go_ret
        exact ⟨by rw [HF.out]; rfl, below_next (box_below _ _) (box_below _ _)⟩
     ·
      have pb : ¬ (b : Int) = 0 := by omega
      have HF := hide (show (f : Int) = 3 by rw [HU3.out (by unfold unusedP netZ; first | (simp only; omega) | (simp; omega) | simp_all)]; rfl)
      clear HU3 HU0
      go_enter Tryz.func23, Tryz.ntmps23
      go_wp2_with (first
       | (go_at_call 44; refine (HK _).mono ?_; rintro e X ⟨rfl, rfl⟩))
      all_goals
       go_ret
       exact ⟨by rw [HF.out]; rfl, below_next (box_below _ _) (box_below _ _)⟩
    ·
     have pip : ¬ (ip : Int) = 0 := by omega
     have HF := hide (show (f : Int) = 3 by rw [HU3.out (by unfold unusedP netZ; first | (simp only; omega) | (simp; omega) | simp_all)]; rfl)
     clear HU3 HU0
     go_enter Tryz.func23, Tryz.ntmps23
     go_wp2_with (first
      | (go_at_call 44; refine (HK _).mono ?_; rintro e X ⟨rfl, rfl⟩))
     all_goals
      go_ret
      exact ⟨by rw [HF.out]; rfl, below_next (box_below _ _) (box_below _ _)⟩
   ·
    have pg : (0 : Int) < g.size := by omega
    have HF := hide (show (f : Int) = 3 by rw [HU3.out (by unfold unusedP netZ; first | (simp only; omega) | (simp; omega) | simp_all)]; rfl)
    clear HU3 HU0
    go_enter Tryz.func23, Tryz.ntmps23
    go_wp2_with (first
     | (go_at_call 44; refine (HK _).mono ?_; rintro e X ⟨rfl, rfl⟩))
    all_goals
     go_ret
     exact ⟨by rw [HF.out]; rfl, below_next (box_below _ _) (box_below _ _)⟩
 ·
  have pm : (0 : Int) < m := by omega
  by_cases hv : v = 0
  ·
   subst hv
   by_cases hg : g.size = 0
   ·
    have pg : ¬ (0 : Int) < g.size := by omega
    by_cases hip : ip = 0
    ·
     subst hip
     by_cases hb : b = 0
     ·
      subst hb
      by_cases hlo : lo = 0
      ·
       subst hlo
       by_cases hhi : hi = 0
       ·
        subst hhi
        have HF := hide (show (f : Int) = 0 by rw [HU0.out (by unfold unusedP netZ; first | (simp only; omega) | (simp; omega) | simp_all)]; rfl)
        clear HU3 HU0
        go_enter Tryz.func23, Tryz.ntmps23
        go_wp2_with (first
         | (go_at_call 44; refine (HK _).mono ?_; rintro e X ⟨rfl, rfl⟩))
        all_goals
         go_ret
         exact ⟨by rw [HF.out]; rfl, below_next (box_below _ _) (box_below _ _)⟩
       ·
        have phi : ¬ (hi : Int) = 0 := by omega
        have HF := hide (show (f : Int) = 3 by rw [HU3.out (by unfold unusedP netZ; first | (simp only; omega) | (simp; omega) | simp_all)]; rfl)
        clear HU3 HU0
        go_enter Tryz.func23, Tryz.ntmps23
        go_wp2_with (first
         | (go_at_call 44; refine (HK _).mono ?_; rintro e X ⟨rfl, rfl⟩))
        all_goals
         go_ret
         exact ⟨by rw [HF.out]; rfl, below_next (box_below _ _) (box_below _ _)⟩
      ·
       have plo : ¬ (lo : Int) = 0 := by omega
       have HF := hide (show (f : Int) = 3 by rw [HU3.out (by unfold unusedP netZ; first | (simp only; omega) | (simp; omega) | simp_all)]; rfl)
       clear HU3 HU0
       go_enter Tryz.func23, Tryz.ntmps23
       go_wp2_with (first
        | (go_at_call 44; refine (HK _).mono ?_; rintro e X ⟨rfl, rfl⟩))
       all_goals
        go_ret
        exact ⟨by rw [HF.out]; rfl, below_next (box_below _ _) (box_below _ _)⟩
     ·
      have pb : ¬ (b : Int) = 0 := by omega
      have HF := hide (show (f : Int) = 3 by rw [HU3.out (by unfold unusedP netZ; first | (simp only; omega) | (simp; omega) | simp_all)]; rfl)
      clear HU3 HU0
      go_enter Tryz.func23, Tryz.ntmps23
      go_wp2_with (first
       | (go_at_call 44; refine (HK _).mono ?_; rintro e X ⟨rfl, rfl⟩))
      all_goals
       go_ret
       exact ⟨by rw [HF.out]; rfl, below_next (box_below _ _) (box_below _ _)⟩
    ·
     have pip : ¬ (ip : Int) = 0 := by omega
     have HF := hide (show (f : Int) = 3 by rw [HU3.out (by unfold unusedP netZ; first | (simp only; omega) | (simp; omega) | simp_all)]; rfl)
     clear HU3 HU0
     go_enter Tryz.func23, Tryz.ntmps23
     go_wp2_with (first
      | (go_at_call 44; refine (HK _).mono ?_; rintro e X ⟨rfl, rfl⟩))
     all_goals
      go_ret
      exact ⟨by rw [HF.out]; rfl, below_next (box_below _ _) (box_below _ _)⟩
   ·
    have pg : (0 : Int) < g.size := by omega
    have HF := hide (show (f : Int) = 3 by rw [HU3.out (by unfold unusedP netZ; first | (simp only; omega) | (simp; omega) | simp_all)]; rfl)
    clear HU3 HU0
    go_enter Tryz.func23, Tryz.ntmps23
    go_wp2_with (first
     | (go_at_call 44; refine (HK _).mono ?_; rintro e X ⟨rfl, rfl⟩))
    all_goals
     go_ret
     exact ⟨by rw [HF.out]; rfl, below_next (box_below _ _) (box_below _ _)⟩
  ·
   have pv : (0 : Int) < v := by omega
   by_cases hg : g.size = 0
   ·
    have pg : ¬ (0 : Int) < g.size := by omega
    by_cases hip : ip = 0
    ·
     subst hip
     by_cases hb : b = 0
     ·
      subst hb
      by_cases hlo : lo = 0
      ·
       subst hlo
       by_cases hhi : hi = 0
       ·
        subst hhi
        have HF := hide (show (f : Int) = 0 by rw [HU0.out (by unfold unusedP netZ; first | (simp only; omega) | (simp; omega) | simp_all)]; rfl)
        clear HU3 HU0
        go_enter Tryz.func23, Tryz.ntmps23
        go_wp2_with (first
         | (go_at_call 44; refine (HK _).mono ?_; rintro e X ⟨rfl, rfl⟩))
        all_goals
         go_ret
         exact ⟨by rw [HF.out]; rfl, below_next (box_below _ _) (box_below _ _)⟩
       ·
        have phi : ¬ (hi : Int) = 0 := by omega
        have HF := hide (show (f : Int) = 3 by rw [HU3.out (by unfold unusedP netZ; first | (simp only; omega) | (simp; omega) | simp_all)]; rfl)
        clear HU3 HU0
        go_enter Tryz.func23, Tryz.ntmps23
        go_wp2_with (first
         | (go_at_call 44; refine (HK _).mono ?_; rintro e X ⟨rfl, rfl⟩))
        all_goals
         go_ret
         exact ⟨by rw [HF.out]; rfl, below_next (box_below _ _) (box_below _ _)⟩
      ·
       have plo : ¬ (lo : Int) = 0 := by omega
       have HF := hide (show (f : Int) = 3 by rw [HU3.out (by unfold unusedP netZ; first | (simp only; omega) | (simp; omega) | simp_all)]; rfl)
       clear HU3 HU0
       go_enter Tryz.func23, Tryz.ntmps23
       go_wp2_with (first
        | (go_at_call 44; refine (HK _).mono ?_; rintro e X ⟨rfl, rfl⟩))
       all_goals
        go_ret
        exact ⟨by rw [HF.out]; rfl, below_next (box_below _ _) (box_below _ _)⟩
     ·
      have pb : ¬ (b : Int) = 0 := by omega
      have HF := hide (show (f : Int) = 3 by rw [HU3.out (by unfold unusedP netZ; first | (simp only; omega) | (simp; omega) | simp_all)]; rfl)
      clear HU3 HU0
      go_enter Tryz.func23, Tryz.ntmps23
      go_wp2_with (first
       | (go_at_call 44; refine (HK _).mono ?_; rintro e X ⟨rfl, rfl⟩))
      all_goals
       go_ret
       exact ⟨by rw [HF.out]; rfl, below_next (box_below _ _) (box_below _ _)⟩
    ·
     have pip : ¬ (ip : Int) = 0 := by omega
     have HF := hide (show (f : Int) = 3 by rw [HU3.out (by unfold unusedP netZ; first | (simp only; omega) | (simp; omega) | simp_all)]; rfl)
     clear HU3 HU0
     go_enter Tryz.func23, Tryz.ntmps23
     go_wp2_with (first
      | (go_at_call 44; refine (HK _).mono ?_; rintro e X ⟨rfl, rfl⟩))
     all_goals
      go_ret
      exact ⟨by rw [HF.out]; rfl, below_next (box_below _ _) (box_below _ _)⟩
   ·
    have pg : (0 : Int) < g.size := by omega
    have HF := hide (show (f : Int) = 3 by rw [HU3.out (by unfold unusedP netZ; first | (simp only; omega) | (simp; omega) | simp_all)]; rfl)
    clear HU3 HU0
    go_enter Tryz.func23, Tryz.ntmps23
    go_wp2_with (first
     | (go_at_call 44; refine (HK _).mono ?_; rintro e X ⟨rfl, rfl⟩))
    all_goals
     go_ret
     exact ⟨by rw [HF.out]; rfl, below_next (box_below _ _) (box_below _ _)⟩

set_option maxHeartbeats 8000000 in
set_option maxRecDepth 100000 in
theorem dcondF_like (nr a : Nat) (hnr : nr < 9) (ha : a ≤ 3) (v m : Nat) (g : ByteArray) (ip : Nat) (b lo hi : Int) (w : World) (hk : kindAt nr a = 2) (f : Nat) (hu3 : unusedP ⟨a, 8, v, m, g, ⟨ip, b, lo, hi⟩⟩ → f = 3) (hu0 : ¬ unusedP ⟨a, 8, v, m, g, ⟨ip, b, lo, hi⟩⟩ → f = globF g) :
  Calls Tryz.prog 23 #[.int .i64 nr, condV ⟨a, 8, v, m, g, ⟨ip, b, lo, hi⟩⟩] w fun e w' => e = .returned (.int .i64 f) ∧ Below w.heap.size w w' := by
 have HK := fun X => dkind_any nr a hnr (by omega) X
 rw [hk] at HK
 have HU3 := hide hu3
 have HU0 := hide hu0
 clear hk hu3 hu0 hnr
 unfold condV
 simp only
 have i1 : ¬ (a : Int) < 0 := by omega
 have i2 : ¬ 3 < (a : Int) := by omega
 by_cases hm : m = 0
 ·
  subst hm
  by_cases hv : v = 0
  ·
   subst hv
   by_cases hg : g.size = 0
   ·
    have pg : ¬ (0 : Int) < g.size := by omega
    by_cases hip : ip = 0
    ·
     subst hip
     by_cases hb : b = 0
     ·
      subst hb
      by_cases hlo : lo = 0
      ·
       subst hlo
       by_cases hhi : hi = 0
       ·
        subst hhi
        have HF := hide (HU0.out (by unfold unusedP netZ; first | (simp only; omega) | (simp; omega) | simp_all))
        have HG := fun X => dglobF_any g X
        clear HU3 HU0
        go_enter Tryz.func23, Tryz.ntmps23
        go_wp2_with (first
         | (go_at_call 44; refine (HK _).mono ?_; rintro e X ⟨rfl, rfl⟩)
         | (go_at_call 45; refine (HG _).mono ?_; rintro e X ⟨rfl, hX⟩))
        all_goals
         go_ret
         exact ⟨by rw [HF.out]; rfl, below_next (below_next (box_below _ _) (box_below _ _)) hX⟩
       ·
        have phi : ¬ (hi : Int) = 0 := by omega
        have HF := hide (show (f : Int) = 3 by rw [HU3.out (by unfold unusedP netZ; first | (simp only; omega) | (simp; omega) | simp_all)]; rfl)
        clear HU3 HU0
        go_enter Tryz.func23, Tryz.ntmps23
        go_wp2_with (first
         | (go_at_call 44; refine (HK _).mono ?_; rintro e X ⟨rfl, rfl⟩))
        all_goals
         go_ret
         exact ⟨by rw [HF.out]; rfl, below_next (box_below _ _) (box_below _ _)⟩
      ·
       have plo : ¬ (lo : Int) = 0 := by omega
       have HF := hide (show (f : Int) = 3 by rw [HU3.out (by unfold unusedP netZ; first | (simp only; omega) | (simp; omega) | simp_all)]; rfl)
       clear HU3 HU0
       go_enter Tryz.func23, Tryz.ntmps23
       go_wp2_with (first
        | (go_at_call 44; refine (HK _).mono ?_; rintro e X ⟨rfl, rfl⟩))
       all_goals
        go_ret
        exact ⟨by rw [HF.out]; rfl, below_next (box_below _ _) (box_below _ _)⟩
     ·
      have pb : ¬ (b : Int) = 0 := by omega
      have HF := hide (show (f : Int) = 3 by rw [HU3.out (by unfold unusedP netZ; first | (simp only; omega) | (simp; omega) | simp_all)]; rfl)
      clear HU3 HU0
      go_enter Tryz.func23, Tryz.ntmps23
      go_wp2_with (first
       | (go_at_call 44; refine (HK _).mono ?_; rintro e X ⟨rfl, rfl⟩))
      all_goals
       go_ret
       exact ⟨by rw [HF.out]; rfl, below_next (box_below _ _) (box_below _ _)⟩
    ·
     have pip : ¬ (ip : Int) = 0 := by omega
     have HF := hide (show (f : Int) = 3 by rw [HU3.out (by unfold unusedP netZ; first | (simp only; omega) | (simp; omega) | simp_all)]; rfl)
     clear HU3 HU0
     go_enter Tryz.func23, Tryz.ntmps23
     go_wp2_with (first
      | (go_at_call 44; refine (HK _).mono ?_; rintro e X ⟨rfl, rfl⟩))
     all_goals
      go_ret
      exact ⟨by rw [HF.out]; rfl, below_next (box_below _ _) (box_below _ _)⟩
   ·
    have pg : (0 : Int) < g.size := by omega
    by_cases hip : ip = 0
    ·
     subst hip
     by_cases hb : b = 0
     ·
      subst hb
      by_cases hlo : lo = 0
      ·
       subst hlo
       by_cases hhi : hi = 0
       ·
        subst hhi
        have HF := hide (HU0.out (by unfold unusedP netZ; first | (simp only; omega) | (simp; omega) | simp_all))
        have HG := fun X => dglobF_any g X
        clear HU3 HU0
        go_enter Tryz.func23, Tryz.ntmps23
        go_wp2_with (first
         | (go_at_call 44; refine (HK _).mono ?_; rintro e X ⟨rfl, rfl⟩)
         | (go_at_call 45; refine (HG _).mono ?_; rintro e X ⟨rfl, hX⟩))
        all_goals
         go_ret
         exact ⟨by rw [HF.out]; rfl, below_next (below_next (box_below _ _) (box_below _ _)) hX⟩
       ·
        have phi : ¬ (hi : Int) = 0 := by omega
        have HF := hide (show (f : Int) = 3 by rw [HU3.out (by unfold unusedP netZ; first | (simp only; omega) | (simp; omega) | simp_all)]; rfl)
        clear HU3 HU0
        go_enter Tryz.func23, Tryz.ntmps23
        go_wp2_with (first
         | (go_at_call 44; refine (HK _).mono ?_; rintro e X ⟨rfl, rfl⟩))
        all_goals
         go_ret
         exact ⟨by rw [HF.out]; rfl, below_next (box_below _ _) (box_below _ _)⟩
      ·
       have plo : ¬ (lo : Int) = 0 := by omega
       have HF := hide (show (f : Int) = 3 by rw [HU3.out (by unfold unusedP netZ; first | (simp only; omega) | (simp; omega) | simp_all)]; rfl)
       clear HU3 HU0
       go_enter Tryz.func23, Tryz.ntmps23
       go_wp2_with (first
        | (go_at_call 44; refine (HK _).mono ?_; rintro e X ⟨rfl, rfl⟩))
       all_goals
        go_ret
        exact ⟨by rw [HF.out]; rfl, below_next (box_below _ _) (box_below _ _)⟩
     ·
      have pb : ¬ (b : Int) = 0 := by omega
      have HF := hide (show (f : Int) = 3 by rw [HU3.out (by unfold unusedP netZ; first | (simp only; omega) | (simp; omega) | simp_all)]; rfl)
      clear HU3 HU0
      go_enter Tryz.func23, Tryz.ntmps23
      go_wp2_with (first
       | (go_at_call 44; refine (HK _).mono ?_; rintro e X ⟨rfl, rfl⟩))
      all_goals
       go_ret
       exact ⟨by rw [HF.out]; rfl, below_next (box_below _ _) (box_below _ _)⟩
    ·
     have pip : ¬ (ip : Int) = 0 := by omega
     have HF := hide (show (f : Int) = 3 by rw [HU3.out (by unfold unusedP netZ; first | (simp only; omega) | (simp; omega) | simp_all)]; rfl)
     clear HU3 HU0
     go_enter Tryz.func23, Tryz.ntmps23
     go_wp2_with (first
      | (go_at_call 44; refine (HK _).mono ?_; rintro e X ⟨rfl, rfl⟩))
     all_goals
      go_ret
      exact ⟨by rw [HF.out]; rfl, below_next (box_below _ _) (box_below _ _)⟩
  ·
   have pv : (0 : Int) < v := by omega
   have HF := hide (show (f : Int) = 3 by rw [HU3.out (by unfold unusedP netZ; first | (simp only; omega) | (simp; omega) | simp_all)]; rfl)
   clear HU3 HU0
   go_enter Tryz.func23, Tryz.ntmps23
   go_wp2_with (first
    | (go_at_call 44; refine (HK _).mono ?_; rintro e X ⟨rfl, rfl⟩))
   all_goals
    go_ret
    exact ⟨by rw [HF.out]; rfl, below_next (box_below _ _) (box_below _ _)⟩
 ·
  have pm : (0 : Int) < m := by omega
  have HF := hide (show (f : Int) = 3 by rw [HU3.out (by unfold unusedP netZ; first | (simp only; omega) | (simp; omega) | simp_all)]; rfl)
  clear HU3 HU0
  go_enter Tryz.func23, Tryz.ntmps23
  go_wp2_with (first
   | (go_at_call 44; refine (HK _).mono ?_; rintro e X ⟨rfl, rfl⟩))
  all_goals
   go_ret
   exact ⟨by rw [HF.out]; rfl, below_next (box_below _ _) (box_below _ _)⟩

set_option maxHeartbeats 8000000 in
set_option maxRecDepth 100000 in
theorem dcondF_net (nr a : Nat) (hnr : nr < 9) (ha : a ≤ 3) (v m : Nat) (g : ByteArray) (ip : Nat) (b lo hi : Int) (hc : NtOk ⟨ip, b, lo, hi⟩) (w : World) (hk : kindAt nr a = 3) (f : Nat) (hu3 : unusedP ⟨a, 9, v, m, g, ⟨ip, b, lo, hi⟩⟩ → f = 3) (hu0 : ¬ unusedP ⟨a, 9, v, m, g, ⟨ip, b, lo, hi⟩⟩ → f = faultOf ip b lo hi) :
  Calls Tryz.prog 23 #[.int .i64 nr, condV ⟨a, 9, v, m, g, ⟨ip, b, lo, hi⟩⟩] w fun e w' => e = .returned (.int .i64 f) ∧ Below w.heap.size w w' := by
 have HK := fun X => dkind_any nr a hnr (by omega) X
 rw [hk] at HK
 have HG := fun X => netFault_any ip hc.ip b lo hi hc.bits hc.lo hc.hi X
 unfold netV at HG
 obtain ⟨ff, hff⟩ : ∃ x, x = faultOf ip b lo hi := ⟨_, rfl⟩
 rw [← hff] at HG hu0
 clear hff hc
 have HU3 := hide hu3
 have HU0 := hide hu0
 clear hk hu3 hu0 hnr
 unfold condV
 simp only
 have i1 : ¬ (a : Int) < 0 := by omega
 have i2 : ¬ 3 < (a : Int) := by omega
 by_cases hm : m = 0
 ·
  subst hm
  by_cases hv : v = 0
  ·
   subst hv
   by_cases hg : g.size = 0
   ·
    have pg : ¬ (0 : Int) < g.size := by omega
    by_cases hip : ip = 0
    case neg =>
     have pip : ¬ (ip : Int) = 0 := by omega
     have HF := hide (HU0.out (by unfold unusedP netZ; first | (simp only; omega) | (simp; omega) | simp_all))
     clear HU3 HU0
     go_enter Tryz.func23, Tryz.ntmps23
     go_wp2_with (first
      | (go_at_call 44; refine (HK _).mono ?_; rintro e X ⟨rfl, rfl⟩)
      | (go_at_call 46; refine (HG _).mono ?_; rintro e X ⟨rfl, hX⟩))
     all_goals
      go_ret
      exact ⟨by rw [HF.out]; rfl, below_next (below_next (box_below _ _) (box_below _ _)) hX⟩
    subst hip
    have hz : ((0 : Nat) : Int) = 0 := rfl
    try simp only [hz] at HG
    clear hz
    by_cases hb : b = 0
    case neg =>
     have pb : ¬ (b : Int) = 0 := by omega
     have HF := hide (HU0.out (by unfold unusedP netZ; first | (simp only; omega) | (simp; omega) | simp_all))
     clear HU3 HU0
     go_enter Tryz.func23, Tryz.ntmps23
     go_wp2_with (first
      | (go_at_call 44; refine (HK _).mono ?_; rintro e X ⟨rfl, rfl⟩)
      | (go_at_call 46; refine (HG _).mono ?_; rintro e X ⟨rfl, hX⟩))
     all_goals
      go_ret
      exact ⟨by rw [HF.out]; rfl, below_next (below_next (box_below _ _) (box_below _ _)) hX⟩
    subst hb
    by_cases hlo : lo = 0
    case neg =>
     have plo : ¬ (lo : Int) = 0 := by omega
     have HF := hide (HU0.out (by unfold unusedP netZ; first | (simp only; omega) | (simp; omega) | simp_all))
     clear HU3 HU0
     go_enter Tryz.func23, Tryz.ntmps23
     go_wp2_with (first
      | (go_at_call 44; refine (HK _).mono ?_; rintro e X ⟨rfl, rfl⟩)
      | (go_at_call 46; refine (HG _).mono ?_; rintro e X ⟨rfl, hX⟩))
     all_goals
      go_ret
      exact ⟨by rw [HF.out]; rfl, below_next (below_next (box_below _ _) (box_below _ _)) hX⟩
    subst hlo
    by_cases hhi : hi = 0
    case neg =>
     have phi : ¬ (hi : Int) = 0 := by omega
     have HF := hide (HU0.out (by unfold unusedP netZ; first | (simp only; omega) | (simp; omega) | simp_all))
     clear HU3 HU0
     go_enter Tryz.func23, Tryz.ntmps23
     go_wp2_with (first
      | (go_at_call 44; refine (HK _).mono ?_; rintro e X ⟨rfl, rfl⟩)
      | (go_at_call 46; refine (HG _).mono ?_; rintro e X ⟨rfl, hX⟩))
     all_goals
      go_ret
      exact ⟨by rw [HF.out]; rfl, below_next (below_next (box_below _ _) (box_below _ _)) hX⟩
    subst hhi
    have HF := hide (HU0.out (by unfold unusedP netZ; first | (simp only; omega) | (simp; omega) | simp_all))
    clear HU3 HU0
    go_enter Tryz.func23, Tryz.ntmps23
    go_wp2_with (first
     | (go_at_call 44; refine (HK _).mono ?_; rintro e X ⟨rfl, rfl⟩)
     | (go_at_call 46; refine (HG _).mono ?_; rintro e X ⟨rfl, hX⟩))
    all_goals
     go_ret
     exact ⟨by rw [HF.out]; rfl, below_next (below_next (box_below _ _) (box_below _ _)) hX⟩
   ·
    have pg : (0 : Int) < g.size := by omega
    have HF := hide (show (f : Int) = 3 by rw [HU3.out (by unfold unusedP netZ; first | (simp only; omega) | (simp; omega) | simp_all)]; rfl)
    clear HU3 HU0
    go_enter Tryz.func23, Tryz.ntmps23
    go_wp2_with (first
     | (go_at_call 44; refine (HK _).mono ?_; rintro e X ⟨rfl, rfl⟩))
    all_goals
     go_ret
     exact ⟨by rw [HF.out]; rfl, below_next (box_below _ _) (box_below _ _)⟩
  ·
   have pv : (0 : Int) < v := by omega
   have HF := hide (show (f : Int) = 3 by rw [HU3.out (by unfold unusedP netZ; first | (simp only; omega) | (simp; omega) | simp_all)]; rfl)
   clear HU3 HU0
   go_enter Tryz.func23, Tryz.ntmps23
   go_wp2_with (first
    | (go_at_call 44; refine (HK _).mono ?_; rintro e X ⟨rfl, rfl⟩))
   all_goals
    go_ret
    exact ⟨by rw [HF.out]; rfl, below_next (box_below _ _) (box_below _ _)⟩
 ·
  have pm : (0 : Int) < m := by omega
  have HF := hide (show (f : Int) = 3 by rw [HU3.out (by unfold unusedP netZ; first | (simp only; omega) | (simp; omega) | simp_all)]; rfl)
  clear HU3 HU0
  go_enter Tryz.func23, Tryz.ntmps23
  go_wp2_with (first
   | (go_at_call 44; refine (HK _).mono ?_; rintro e X ⟨rfl, rfl⟩))
  all_goals
   go_ret
   exact ⟨by rw [HF.out]; rfl, below_next (box_below _ _) (box_below _ _)⟩

theorem dcondF_any (nr : Nat) (hnr : nr < 9) (c : CD) (hc : CdOk c) (w : World) : Calls Tryz.prog 23 #[.int .i64 nr, condV c] w fun e w' => e = .returned (.int .i64 (condF nr c)) ∧ Below w.heap.size w w' := by
 by_cases h : c.arg < 0 ∨ 3 < c.arg ∨ c.op < 1 ∨ 9 < c.op
 ·
  rw [show condF nr c = 1 from if_pos h]
  exact dcondF_bound nr c w h
 have hf : condF nr c = if kindAt nr c.arg.toNat ≠ kindOp c.op ∨ unusedP c then 3 else if c.op = 8 then globF c.glob else if c.op = 9 then netF c.net else 0 := if_neg h
 obtain ⟨arg, op, v, m, g, ⟨ip, b, lo, hi⟩⟩ := c
 simp only [not_or] at h hf
 obtain ⟨a, rfl⟩ : ∃ a : Nat, arg = a := ⟨arg.toNat, by omega⟩
 have ha : a ≤ 3 := by omega
 rw [Int.toNat_natCast] at hf
 by_cases hk : kindAt nr a = kindOp op
 ·
  have h3 : unusedP ⟨a, op, v, m, g, ⟨ip, b, lo, hi⟩⟩ → condF nr ⟨a, op, v, m, g, ⟨ip, b, lo, hi⟩⟩ = 3 := fun hu => by rw [hf, if_pos (.inr hu)]
  have h0 : ¬ unusedP ⟨a, op, v, m, g, ⟨ip, b, lo, hi⟩⟩ → condF nr ⟨a, op, v, m, g, ⟨ip, b, lo, hi⟩⟩ = if op = 8 then globF g else if op = 9 then faultOf ip b lo hi else 0 := fun hu => by
   rw [hf, if_neg (by rw [not_or]; exact ⟨fun hc => hc hk, hu⟩)]
   rfl
  by_cases h8 : op = 8
  ·
   subst h8
   exact dcondF_like nr a hnr ha v m g ip b lo hi w hk _ h3 h0
  by_cases h9 : op = 9
  ·
   subst h9
   exact dcondF_net nr a hnr ha v m g ip b lo hi hc.net w hk _ h3 h0
  have hk1 : kindAt nr a = 1 := by rw [hk]; unfold kindOp; rw [if_neg h8, if_neg h9]
  rw [if_neg h8, if_neg h9] at h0
  by_cases h7 : op = 7
  ·
   subst h7
   exact dcondF_mask nr a hnr ha v m g ip b lo hi w hk1 _ h3 h0
  ·
   exact dcondF_num nr a hnr ha op h.2.2.1 (by omega) v m g ip b lo hi w hk1 _ h3 h0
 ·
  rw [hf, if_pos (.inl hk)]
  exact dcondF_kind nr a hnr ha op v m g ip b lo hi h.2.2.1 h.2.2.2 w hk
end Go.Proofs.YtklibmijiecbfaaGreat
