/- The document's PolicyFault. -/
import Derived.Test.YtkogafponpjdnaaGreatDoorK9
import Derived.Test.YtkogafponpjdnaaGreatDoorK11
import Derived.Test.YtkogafponpjdnaaGreatDoorK4
import Derived.Test.YtkogafponpjdnaaGreatDoorK7
import Derived.Test.YtkogafponpjdnaaGreatDoorK10
namespace Go.Proofs.YtkogafponpjdnaaGreatDoor
open Go.RowKit Go.Sort

set_option maxHeartbeats 1000000 in
theorem dactF_any (a : ACT) (w : World) : Calls Tryz.prog 21 #[actV a] w fun e w' => e = .returned (.int .i64 (actF a)) ∧ Below w.heap.size w w' := by
  obtain ⟨k, e⟩ := a
  have HF := hide (show actF ⟨k, e⟩ = if k ≠ 1 ∧ k ≠ 2 ∧ k ≠ 3 then 3 else if k ≠ 2 ∧ e ≠ 0 then 3 else if k = 2 ∧ (e < 1 ∨ 255 < e) then 1 else 0 from rfl)
  obtain ⟨f, hf⟩ : ∃ f, f = actF ⟨k, e⟩ := ⟨_, rfl⟩
  rw [← hf] at HF ⊢
  clear hf
  unfold actV
  simp only
  by_cases h2 : k = 2
  · subst h2
    have HF2 := hide (show f = if e < 1 ∨ 255 < e then 1 else 0 by rw [HF.out, if_neg (by omega), if_neg (by omega)]; simp)
    clear HF
    by_cases h1 : e < 1
    · have HF3 := hide (show (f : Int) = 1 by rw [HF2.out, if_pos (by omega)]; rfl)
      clear HF2
      go_enter Tryz.func21, Tryz.ntmps21
      go_wp2
      go_ret
      exact ⟨by rw [HF3.out]; rfl, box_below _ _⟩
    · by_cases h5 : 255 < e
      · have HF3 := hide (show (f : Int) = 1 by rw [HF2.out, if_pos (by omega)]; rfl)
        clear HF2
        go_enter Tryz.func21, Tryz.ntmps21
        go_wp2
        go_ret
        exact ⟨by rw [HF3.out]; rfl, box_below _ _⟩
      · have HF3 := hide (show (f : Int) = 0 by rw [HF2.out, if_neg (by omega)]; rfl)
        clear HF2
        go_enter Tryz.func21, Tryz.ntmps21
        go_wp2
        go_ret
        exact ⟨by rw [HF3.out]; rfl, box_below _ _⟩
  · by_cases h0 : e = 0
    · subst h0
      by_cases h1 : k = 1
      · subst h1
        have HF3 := hide (show (f : Int) = 0 by rw [HF.out]; rfl)
        clear HF
        go_enter Tryz.func21, Tryz.ntmps21
        go_wp2
        go_ret
        exact ⟨by rw [HF3.out]; rfl, box_below _ _⟩
      · by_cases h3 : k = 3
        · subst h3
          have HF3 := hide (show (f : Int) = 0 by rw [HF.out]; rfl)
          clear HF
          go_enter Tryz.func21, Tryz.ntmps21
          go_wp2
          go_ret
          exact ⟨by rw [HF3.out]; rfl, box_below _ _⟩
        · have HF3 := hide (show (f : Int) = 3 by rw [HF.out, if_pos ⟨h1, h2, h3⟩]; rfl)
          clear HF
          go_enter Tryz.func21, Tryz.ntmps21
          go_wp2
          go_ret
          exact ⟨by rw [HF3.out]; rfl, box_below _ _⟩
    · have HF3 := hide (show (f : Int) = 3 by
        rw [HF.out]
        by_cases h : k ≠ 1 ∧ k ≠ 2 ∧ k ≠ 3
        · rw [if_pos h]; rfl
        · rw [if_neg h, if_pos ⟨h2, h0⟩]; rfl)
      clear HF
      go_enter Tryz.func21, Tryz.ntmps21
      go_wp2
      all_goals
        go_ret
        exact ⟨by rw [HF3.out]; rfl, box_below _ _⟩

theorem dglobF_any (p : ByteArray) (w : World) : Calls Tryz.prog 40 #[.string p] w fun e w' => e = .returned (.int .i64 (globF p)) ∧ Below w.heap.size w w' := by
  by_cases h : 24 < p.size
  · have HE := hide (show (globF p : Int) = 2 by
      unfold globF Gl.parseR
      rw [if_pos h]
      rfl)
    go_enter Tryz.func40, Tryz.ntmps40
    go_wp2
    go_ret
    exact ⟨by rw [HE.out]; rfl, Below.refl _ _⟩
  · refine (Gl.globFault_any p (by omega) w).mono ?_
    rintro e w' ⟨rfl, hb⟩
    refine ⟨?_, hb⟩
    unfold globF Gl.faultR
    cases hp : Gl.parseR p with
    | inr ps => rfl
    | inl n => rfl

theorem dcondF_bound (nr : Int) (c : CD) (w : World) (h : c.arg < 0 ∨ 3 < c.arg ∨ c.op < 1 ∨ 9 < c.op) : Calls Tryz.prog 22 #[.int .i64 nr, condV c] w fun e w' => e = .returned (.int .i64 1) ∧ Below w.heap.size w w' := by
  obtain ⟨arg, op, v, m, g, ⟨ip, b, lo, hi⟩⟩ := c
  unfold condV
  simp only at h ⊢
  go_enter Tryz.func22, Tryz.ntmps22
  go_wp2
  all_goals first
    | omega
    | (go_ret
       exact ⟨rfl, box_below _ _⟩)

set_option maxHeartbeats 4000000 in
set_option maxRecDepth 100000 in
theorem dcondF_kind (nr a : Nat) (hnr : nr < 9) (ha : a ≤ 3) (op : Int) (v m : Nat) (g : ByteArray) (ip : Nat) (b lo hi : Int) (h1 : ¬ op < 1) (h9 : ¬ 9 < op) (w : World) (h : kindAt nr a ≠ kindOp op) :
    Calls Tryz.prog 22 #[.int .i64 nr, condV ⟨a, op, v, m, g, ⟨ip, b, lo, hi⟩⟩] w fun e w' => e = .returned (.int .i64 3) ∧ Below w.heap.size w w' := by
  have HK := fun X => dkind_any nr a hnr (by omega) X
  obtain ⟨ka, hka⟩ : ∃ k, k = kindAt nr a := ⟨_, rfl⟩
  rw [← hka] at HK h
  clear hka
  unfold condV
  simp only
  have i1 : ¬ (a : Int) < 0 := by omega
  have i2 : ¬ 3 < (a : Int) := by omega
  by_cases h8 : op = 8
  · subst h8
    have hne : ¬ (ka : Int) = 2 := by unfold kindOp at h; simp at h; omega
    have hnb : ((ka : Int) != 2) = true := by simpa using hne
    go_enter Tryz.func22, Tryz.ntmps22
    go_wp2_with (go_at_call 39; refine (HK _).mono ?_; rintro e X ⟨rfl, rfl⟩)
    go_ret
    exact ⟨rfl, below_next (box_below _ _) (box_below _ _)⟩
  by_cases h9 : op = 9
  · subst h9
    have hne : ¬ (ka : Int) = 3 := by unfold kindOp at h; simp at h; omega
    have hnb : ((ka : Int) != 3) = true := by simpa using hne
    go_enter Tryz.func22, Tryz.ntmps22
    go_wp2_with (go_at_call 39; refine (HK _).mono ?_; rintro e X ⟨rfl, rfl⟩)
    go_ret
    exact ⟨rfl, below_next (box_below _ _) (box_below _ _)⟩
  · have hne : ¬ (ka : Int) = 1 := by unfold kindOp at h; rw [if_neg h8, if_neg h9] at h; omega
    have hnb : ((ka : Int) != 1) = true := by simpa using hne
    go_enter Tryz.func22, Tryz.ntmps22
    go_wp2_with (go_at_call 39; refine (HK _).mono ?_; rintro e X ⟨rfl, rfl⟩)
    go_ret
    exact ⟨rfl, below_next (box_below _ _) (box_below _ _)⟩
end Go.Proofs.YtkogafponpjdnaaGreatDoor

/- The document's condFault where the kind is right, and PolicyFault. -/
namespace Go.Proofs.YtkogafponpjdnaaGreatDoor
open Go.RowKit Go.Sort

set_option maxHeartbeats 8000000 in
set_option maxRecDepth 100000 in
theorem dcondF_num (nr a : Nat) (hnr : nr < 9) (ha : a ≤ 3) (op : Int) (h1 : ¬ op < 1) (h6 : ¬ 6 < op) (v m : Nat) (g : ByteArray) (ip : Nat) (b lo hi : Int) (w : World) (hk : kindAt nr a = 1) (f : Nat) (hu3 : unusedP ⟨a, op, v, m, g, ⟨ip, b, lo, hi⟩⟩ → f = 3) (hu0 : ¬ unusedP ⟨a, op, v, m, g, ⟨ip, b, lo, hi⟩⟩ → f = 0) :
    Calls Tryz.prog 22 #[.int .i64 nr, condV ⟨a, op, v, m, g, ⟨ip, b, lo, hi⟩⟩] w fun e w' => e = .returned (.int .i64 f) ∧ Below w.heap.size w w' := by
  have HK := fun X => dkind_any nr a hnr (by omega) X
  rw [hk] at HK
  have HU3 := hide hu3
  have HU0 := hide hu0
  clear hk hu3 hu0 hnr
  unfold condV
  simp only
  have i1 : ¬ (a : Int) < 0 := by omega
  have i2 : ¬ 3 < (a : Int) := by omega
  have n7 : ¬ op = 7 := by omega
  have n8 : ¬ op = 8 := by omega
  have n9 : ¬ op = 9 := by omega
  have b7 : (op != 7) = true := by simpa using n7
  have b8 : (op != 8) = true := by simpa using n8
  have b9 : (op != 9) = true := by simpa using n9
  have m7 : ¬ 7 < op := by omega
  have m9 : ¬ 9 < op := by omega
  by_cases hm : m = 0
  · subst hm
    by_cases hv : v = 0
    · subst hv
      by_cases hg : g.size = 0
      · have pg : ¬ (0 : Int) < g.size := by omega
        by_cases hip : ip = 0
        · subst hip
          by_cases hb : b = 0
          · subst hb
            by_cases hlo : lo = 0
            · subst hlo
              by_cases hhi : hi = 0
              · subst hhi
                have HF := hide (show (f : Int) = 0 by rw [HU0.out (by unfold unusedP netZ; first | (simp only; omega) | (simp; omega) | simp_all)]; rfl)
                clear HU3 HU0
                go_enter Tryz.func22, Tryz.ntmps22
                go_wp2_with (first
                  | (go_at_call 39; refine (HK _).mono ?_; rintro e X ⟨rfl, rfl⟩))
                all_goals
                  go_ret
                  exact ⟨by rw [HF.out]; rfl, below_next (box_below _ _) (box_below _ _)⟩
              · have phi : ¬ (hi : Int) = 0 := by omega
                have HF := hide (show (f : Int) = 3 by rw [HU3.out (by unfold unusedP netZ; first | (simp only; omega) | (simp; omega) | simp_all)]; rfl)
                clear HU3 HU0
                go_enter Tryz.func22, Tryz.ntmps22
                go_wp2_with (first
                  | (go_at_call 39; refine (HK _).mono ?_; rintro e X ⟨rfl, rfl⟩))
                all_goals
                  go_ret
                  exact ⟨by rw [HF.out]; rfl, below_next (box_below _ _) (box_below _ _)⟩
            · have plo : ¬ (lo : Int) = 0 := by omega
              have HF := hide (show (f : Int) = 3 by rw [HU3.out (by unfold unusedP netZ; first | (simp only; omega) | (simp; omega) | simp_all)]; rfl)
              clear HU3 HU0
              go_enter Tryz.func22, Tryz.ntmps22
              go_wp2_with (first
                | (go_at_call 39; refine (HK _).mono ?_; rintro e X ⟨rfl, rfl⟩))
              all_goals
                go_ret
                exact ⟨by rw [HF.out]; rfl, below_next (box_below _ _) (box_below _ _)⟩
          · have pb : ¬ (b : Int) = 0 := by omega
            have HF := hide (show (f : Int) = 3 by rw [HU3.out (by unfold unusedP netZ; first | (simp only; omega) | (simp; omega) | simp_all)]; rfl)
            clear HU3 HU0
            go_enter Tryz.func22, Tryz.ntmps22
            go_wp2_with (first
              | (go_at_call 39; refine (HK _).mono ?_; rintro e X ⟨rfl, rfl⟩))
            all_goals
              go_ret
              exact ⟨by rw [HF.out]; rfl, below_next (box_below _ _) (box_below _ _)⟩
        · have pip : ¬ (ip : Int) = 0 := by omega
          have HF := hide (show (f : Int) = 3 by rw [HU3.out (by unfold unusedP netZ; first | (simp only; omega) | (simp; omega) | simp_all)]; rfl)
          clear HU3 HU0
          go_enter Tryz.func22, Tryz.ntmps22
          go_wp2_with (first
            | (go_at_call 39; refine (HK _).mono ?_; rintro e X ⟨rfl, rfl⟩))
          all_goals
            go_ret
            exact ⟨by rw [HF.out]; rfl, below_next (box_below _ _) (box_below _ _)⟩
      · have pg : (0 : Int) < g.size := by omega
        have HF := hide (show (f : Int) = 3 by rw [HU3.out (by unfold unusedP netZ; first | (simp only; omega) | (simp; omega) | simp_all)]; rfl)
        clear HU3 HU0
        go_enter Tryz.func22, Tryz.ntmps22
        go_wp2_with (first
          | (go_at_call 39; refine (HK _).mono ?_; rintro e X ⟨rfl, rfl⟩))
        all_goals
          go_ret
          exact ⟨by rw [HF.out]; rfl, below_next (box_below _ _) (box_below _ _)⟩
    · have pv : (0 : Int) < v := by omega
      by_cases hg : g.size = 0
      · have pg : ¬ (0 : Int) < g.size := by omega
        by_cases hip : ip = 0
        · subst hip
          by_cases hb : b = 0
          · subst hb
            by_cases hlo : lo = 0
            · subst hlo
              by_cases hhi : hi = 0
              · subst hhi
                have HF := hide (show (f : Int) = 0 by rw [HU0.out (by unfold unusedP netZ; first | (simp only; omega) | (simp; omega) | simp_all)]; rfl)
                clear HU3 HU0
                go_enter Tryz.func22, Tryz.ntmps22
                go_wp2_with (first
                  | (go_at_call 39; refine (HK _).mono ?_; rintro e X ⟨rfl, rfl⟩))
                all_goals
                  go_ret
                  exact ⟨by rw [HF.out]; rfl, below_next (box_below _ _) (box_below _ _)⟩
              · have phi : ¬ (hi : Int) = 0 := by omega
                have HF := hide (show (f : Int) = 3 by rw [HU3.out (by unfold unusedP netZ; first | (simp only; omega) | (simp; omega) | simp_all)]; rfl)
                clear HU3 HU0
                go_enter Tryz.func22, Tryz.ntmps22
                go_wp2_with (first
                  | (go_at_call 39; refine (HK _).mono ?_; rintro e X ⟨rfl, rfl⟩))
                all_goals
                  go_ret
                  exact ⟨by rw [HF.out]; rfl, below_next (box_below _ _) (box_below _ _)⟩
            · have plo : ¬ (lo : Int) = 0 := by omega
              have HF := hide (show (f : Int) = 3 by rw [HU3.out (by unfold unusedP netZ; first | (simp only; omega) | (simp; omega) | simp_all)]; rfl)
              clear HU3 HU0
              go_enter Tryz.func22, Tryz.ntmps22
              go_wp2_with (first
                | (go_at_call 39; refine (HK _).mono ?_; rintro e X ⟨rfl, rfl⟩))
              all_goals
                go_ret
                exact ⟨by rw [HF.out]; rfl, below_next (box_below _ _) (box_below _ _)⟩
          · have pb : ¬ (b : Int) = 0 := by omega
            have HF := hide (show (f : Int) = 3 by rw [HU3.out (by unfold unusedP netZ; first | (simp only; omega) | (simp; omega) | simp_all)]; rfl)
            clear HU3 HU0
            go_enter Tryz.func22, Tryz.ntmps22
            go_wp2_with (first
              | (go_at_call 39; refine (HK _).mono ?_; rintro e X ⟨rfl, rfl⟩))
            all_goals
              go_ret
              exact ⟨by rw [HF.out]; rfl, below_next (box_below _ _) (box_below _ _)⟩
        · have pip : ¬ (ip : Int) = 0 := by omega
          have HF := hide (show (f : Int) = 3 by rw [HU3.out (by unfold unusedP netZ; first | (simp only; omega) | (simp; omega) | simp_all)]; rfl)
          clear HU3 HU0
          go_enter Tryz.func22, Tryz.ntmps22
          go_wp2_with (first
            | (go_at_call 39; refine (HK _).mono ?_; rintro e X ⟨rfl, rfl⟩))
          all_goals
            go_ret
            exact ⟨by rw [HF.out]; rfl, below_next (box_below _ _) (box_below _ _)⟩
      · have pg : (0 : Int) < g.size := by omega
        have HF := hide (show (f : Int) = 3 by rw [HU3.out (by unfold unusedP netZ; first | (simp only; omega) | (simp; omega) | simp_all)]; rfl)
        clear HU3 HU0
        go_enter Tryz.func22, Tryz.ntmps22
        go_wp2_with (first
          | (go_at_call 39; refine (HK _).mono ?_; rintro e X ⟨rfl, rfl⟩))
        all_goals
          go_ret
          exact ⟨by rw [HF.out]; rfl, below_next (box_below _ _) (box_below _ _)⟩
  · have pm : (0 : Int) < m := by omega
    have HF := hide (show (f : Int) = 3 by rw [HU3.out (by unfold unusedP netZ; first | (simp only; omega) | (simp; omega) | simp_all)]; rfl)
    clear HU3 HU0
    go_enter Tryz.func22, Tryz.ntmps22
    go_wp2_with (first
      | (go_at_call 39; refine (HK _).mono ?_; rintro e X ⟨rfl, rfl⟩))
    all_goals
      go_ret
      exact ⟨by rw [HF.out]; rfl, below_next (box_below _ _) (box_below _ _)⟩

set_option maxHeartbeats 8000000 in
set_option maxRecDepth 100000 in
theorem dcondF_mask (nr a : Nat) (hnr : nr < 9) (ha : a ≤ 3) (v m : Nat) (g : ByteArray) (ip : Nat) (b lo hi : Int) (w : World) (hk : kindAt nr a = 1) (f : Nat) (hu3 : unusedP ⟨a, 7, v, m, g, ⟨ip, b, lo, hi⟩⟩ → f = 3) (hu0 : ¬ unusedP ⟨a, 7, v, m, g, ⟨ip, b, lo, hi⟩⟩ → f = 0) :
    Calls Tryz.prog 22 #[.int .i64 nr, condV ⟨a, 7, v, m, g, ⟨ip, b, lo, hi⟩⟩] w fun e w' => e = .returned (.int .i64 f) ∧ Below w.heap.size w w' := by
  have HK := fun X => dkind_any nr a hnr (by omega) X
  rw [hk] at HK
  have HU3 := hide hu3
  have HU0 := hide hu0
  clear hk hu3 hu0 hnr
  unfold condV
  simp only
  have i1 : ¬ (a : Int) < 0 := by omega
  have i2 : ¬ 3 < (a : Int) := by omega
  by_cases hm : m = 0
  · subst hm
    by_cases hv : v = 0
    · subst hv
      by_cases hg : g.size = 0
      · have pg : ¬ (0 : Int) < g.size := by omega
        by_cases hip : ip = 0
        · subst hip
          by_cases hb : b = 0
          · subst hb
            by_cases hlo : lo = 0
            · subst hlo
              by_cases hhi : hi = 0
              · subst hhi
                have HF := hide (show (f : Int) = 0 by rw [HU0.out (by unfold unusedP netZ; first | (simp only; omega) | (simp; omega) | simp_all)]; rfl)
                clear HU3 HU0
                go_enter Tryz.func22, Tryz.ntmps22
                go_wp2_with (first
                  | (go_at_call 39; refine (HK _).mono ?_; rintro e X ⟨rfl, rfl⟩))
                all_goals
                  go_ret
                  exact ⟨by rw [HF.out]; rfl, below_next (box_below _ _) (box_below _ _)⟩
              · have phi : ¬ (hi : Int) = 0 := by omega
                have HF := hide (show (f : Int) = 3 by rw [HU3.out (by unfold unusedP netZ; first | (simp only; omega) | (simp; omega) | simp_all)]; rfl)
                clear HU3 HU0
                go_enter Tryz.func22, Tryz.ntmps22
                go_wp2_with (first
                  | (go_at_call 39; refine (HK _).mono ?_; rintro e X ⟨rfl, rfl⟩))
                all_goals
                  go_ret
                  exact ⟨by rw [HF.out]; rfl, below_next (box_below _ _) (box_below _ _)⟩
            · have plo : ¬ (lo : Int) = 0 := by omega
              have HF := hide (show (f : Int) = 3 by rw [HU3.out (by unfold unusedP netZ; first | (simp only; omega) | (simp; omega) | simp_all)]; rfl)
              clear HU3 HU0
              go_enter Tryz.func22, Tryz.ntmps22
              go_wp2_with (first
                | (go_at_call 39; refine (HK _).mono ?_; rintro e X ⟨rfl, rfl⟩))
              all_goals
                go_ret
                exact ⟨by rw [HF.out]; rfl, below_next (box_below _ _) (box_below _ _)⟩
          · have pb : ¬ (b : Int) = 0 := by omega
            have HF := hide (show (f : Int) = 3 by rw [HU3.out (by unfold unusedP netZ; first | (simp only; omega) | (simp; omega) | simp_all)]; rfl)
            clear HU3 HU0
            go_enter Tryz.func22, Tryz.ntmps22
            go_wp2_with (first
              | (go_at_call 39; refine (HK _).mono ?_; rintro e X ⟨rfl, rfl⟩))
            all_goals
              go_ret
              exact ⟨by rw [HF.out]; rfl, below_next (box_below _ _) (box_below _ _)⟩
        · have pip : ¬ (ip : Int) = 0 := by omega
          have HF := hide (show (f : Int) = 3 by rw [HU3.out (by unfold unusedP netZ; first | (simp only; omega) | (simp; omega) | simp_all)]; rfl)
          clear HU3 HU0
          go_enter Tryz.func22, Tryz.ntmps22
          go_wp2_with (first
            | (go_at_call 39; refine (HK _).mono ?_; rintro e X ⟨rfl, rfl⟩))
          all_goals
            go_ret
            exact ⟨by rw [HF.out]; rfl, below_next (box_below _ _) (box_below _ _)⟩
      · have pg : (0 : Int) < g.size := by omega
        have HF := hide (show (f : Int) = 3 by rw [HU3.out (by unfold unusedP netZ; first | (simp only; omega) | (simp; omega) | simp_all)]; rfl)
        clear HU3 HU0
        go_enter Tryz.func22, Tryz.ntmps22
        go_wp2_with (first
          | (go_at_call 39; refine (HK _).mono ?_; rintro e X ⟨rfl, rfl⟩))
        all_goals
          go_ret
          exact ⟨by rw [HF.out]; rfl, below_next (box_below _ _) (box_below _ _)⟩
    · have pv : (0 : Int) < v := by omega
      by_cases hg : g.size = 0
      · have pg : ¬ (0 : Int) < g.size := by omega
        by_cases hip : ip = 0
        · subst hip
          by_cases hb : b = 0
          · subst hb
            by_cases hlo : lo = 0
            · subst hlo
              by_cases hhi : hi = 0
              · subst hhi
                have HF := hide (show (f : Int) = 0 by rw [HU0.out (by unfold unusedP netZ; first | (simp only; omega) | (simp; omega) | simp_all)]; rfl)
                clear HU3 HU0
                go_enter Tryz.func22, Tryz.ntmps22
                go_wp2_with (first
                  | (go_at_call 39; refine (HK _).mono ?_; rintro e X ⟨rfl, rfl⟩))
                all_goals
                  go_ret
                  exact ⟨by rw [HF.out]; rfl, below_next (box_below _ _) (box_below _ _)⟩
              · have phi : ¬ (hi : Int) = 0 := by omega
                have HF := hide (show (f : Int) = 3 by rw [HU3.out (by unfold unusedP netZ; first | (simp only; omega) | (simp; omega) | simp_all)]; rfl)
                clear HU3 HU0
                go_enter Tryz.func22, Tryz.ntmps22
                go_wp2_with (first
                  | (go_at_call 39; refine (HK _).mono ?_; rintro e X ⟨rfl, rfl⟩))
                all_goals
                  go_ret
                  exact ⟨by rw [HF.out]; rfl, below_next (box_below _ _) (box_below _ _)⟩
            · have plo : ¬ (lo : Int) = 0 := by omega
              have HF := hide (show (f : Int) = 3 by rw [HU3.out (by unfold unusedP netZ; first | (simp only; omega) | (simp; omega) | simp_all)]; rfl)
              clear HU3 HU0
              go_enter Tryz.func22, Tryz.ntmps22
              go_wp2_with (first
                | (go_at_call 39; refine (HK _).mono ?_; rintro e X ⟨rfl, rfl⟩))
              all_goals
                go_ret
                exact ⟨by rw [HF.out]; rfl, below_next (box_below _ _) (box_below _ _)⟩
          · have pb : ¬ (b : Int) = 0 := by omega
            have HF := hide (show (f : Int) = 3 by rw [HU3.out (by unfold unusedP netZ; first | (simp only; omega) | (simp; omega) | simp_all)]; rfl)
            clear HU3 HU0
            go_enter Tryz.func22, Tryz.ntmps22
            go_wp2_with (first
              | (go_at_call 39; refine (HK _).mono ?_; rintro e X ⟨rfl, rfl⟩))
            all_goals
              go_ret
              exact ⟨by rw [HF.out]; rfl, below_next (box_below _ _) (box_below _ _)⟩
        · have pip : ¬ (ip : Int) = 0 := by omega
          have HF := hide (show (f : Int) = 3 by rw [HU3.out (by unfold unusedP netZ; first | (simp only; omega) | (simp; omega) | simp_all)]; rfl)
          clear HU3 HU0
          go_enter Tryz.func22, Tryz.ntmps22
          go_wp2_with (first
            | (go_at_call 39; refine (HK _).mono ?_; rintro e X ⟨rfl, rfl⟩))
          all_goals
            go_ret
            exact ⟨by rw [HF.out]; rfl, below_next (box_below _ _) (box_below _ _)⟩
      · have pg : (0 : Int) < g.size := by omega
        have HF := hide (show (f : Int) = 3 by rw [HU3.out (by unfold unusedP netZ; first | (simp only; omega) | (simp; omega) | simp_all)]; rfl)
        clear HU3 HU0
        go_enter Tryz.func22, Tryz.ntmps22
        go_wp2_with (first
          | (go_at_call 39; refine (HK _).mono ?_; rintro e X ⟨rfl, rfl⟩))
        all_goals
          go_ret
          exact ⟨by rw [HF.out]; rfl, below_next (box_below _ _) (box_below _ _)⟩
  · have pm : (0 : Int) < m := by omega
    by_cases hv : v = 0
    · subst hv
      by_cases hg : g.size = 0
      · have pg : ¬ (0 : Int) < g.size := by omega
        by_cases hip : ip = 0
        · subst hip
          by_cases hb : b = 0
          · subst hb
            by_cases hlo : lo = 0
            · subst hlo
              by_cases hhi : hi = 0
              · subst hhi
                have HF := hide (show (f : Int) = 0 by rw [HU0.out (by unfold unusedP netZ; first | (simp only; omega) | (simp; omega) | simp_all)]; rfl)
                clear HU3 HU0
                go_enter Tryz.func22, Tryz.ntmps22
                go_wp2_with (first
                  | (go_at_call 39; refine (HK _).mono ?_; rintro e X ⟨rfl, rfl⟩))
                all_goals
                  go_ret
                  exact ⟨by rw [HF.out]; rfl, below_next (box_below _ _) (box_below _ _)⟩
              · have phi : ¬ (hi : Int) = 0 := by omega
                have HF := hide (show (f : Int) = 3 by rw [HU3.out (by unfold unusedP netZ; first | (simp only; omega) | (simp; omega) | simp_all)]; rfl)
                clear HU3 HU0
                go_enter Tryz.func22, Tryz.ntmps22
                go_wp2_with (first
                  | (go_at_call 39; refine (HK _).mono ?_; rintro e X ⟨rfl, rfl⟩))
                all_goals
                  go_ret
                  exact ⟨by rw [HF.out]; rfl, below_next (box_below _ _) (box_below _ _)⟩
            · have plo : ¬ (lo : Int) = 0 := by omega
              have HF := hide (show (f : Int) = 3 by rw [HU3.out (by unfold unusedP netZ; first | (simp only; omega) | (simp; omega) | simp_all)]; rfl)
              clear HU3 HU0
              go_enter Tryz.func22, Tryz.ntmps22
              go_wp2_with (first
                | (go_at_call 39; refine (HK _).mono ?_; rintro e X ⟨rfl, rfl⟩))
              all_goals
                go_ret
                exact ⟨by rw [HF.out]; rfl, below_next (box_below _ _) (box_below _ _)⟩
          · have pb : ¬ (b : Int) = 0 := by omega
            have HF := hide (show (f : Int) = 3 by rw [HU3.out (by unfold unusedP netZ; first | (simp only; omega) | (simp; omega) | simp_all)]; rfl)
            clear HU3 HU0
            go_enter Tryz.func22, Tryz.ntmps22
            go_wp2_with (first
              | (go_at_call 39; refine (HK _).mono ?_; rintro e X ⟨rfl, rfl⟩))
            all_goals
              go_ret
              exact ⟨by rw [HF.out]; rfl, below_next (box_below _ _) (box_below _ _)⟩
        · have pip : ¬ (ip : Int) = 0 := by omega
          have HF := hide (show (f : Int) = 3 by rw [HU3.out (by unfold unusedP netZ; first | (simp only; omega) | (simp; omega) | simp_all)]; rfl)
          clear HU3 HU0
          go_enter Tryz.func22, Tryz.ntmps22
          go_wp2_with (first
            | (go_at_call 39; refine (HK _).mono ?_; rintro e X ⟨rfl, rfl⟩))
          all_goals
            go_ret
            exact ⟨by rw [HF.out]; rfl, below_next (box_below _ _) (box_below _ _)⟩
      · have pg : (0 : Int) < g.size := by omega
        have HF := hide (show (f : Int) = 3 by rw [HU3.out (by unfold unusedP netZ; first | (simp only; omega) | (simp; omega) | simp_all)]; rfl)
        clear HU3 HU0
        go_enter Tryz.func22, Tryz.ntmps22
        go_wp2_with (first
          | (go_at_call 39; refine (HK _).mono ?_; rintro e X ⟨rfl, rfl⟩))
        all_goals
          go_ret
          exact ⟨by rw [HF.out]; rfl, below_next (box_below _ _) (box_below _ _)⟩
    · have pv : (0 : Int) < v := by omega
      by_cases hg : g.size = 0
      · have pg : ¬ (0 : Int) < g.size := by omega
        by_cases hip : ip = 0
        · subst hip
          by_cases hb : b = 0
          · subst hb
            by_cases hlo : lo = 0
            · subst hlo
              by_cases hhi : hi = 0
              · subst hhi
                have HF := hide (show (f : Int) = 0 by rw [HU0.out (by unfold unusedP netZ; first | (simp only; omega) | (simp; omega) | simp_all)]; rfl)
                clear HU3 HU0
                go_enter Tryz.func22, Tryz.ntmps22
                go_wp2_with (first
                  | (go_at_call 39; refine (HK _).mono ?_; rintro e X ⟨rfl, rfl⟩))
                all_goals
                  go_ret
                  exact ⟨by rw [HF.out]; rfl, below_next (box_below _ _) (box_below _ _)⟩
              · have phi : ¬ (hi : Int) = 0 := by omega
                have HF := hide (show (f : Int) = 3 by rw [HU3.out (by unfold unusedP netZ; first | (simp only; omega) | (simp; omega) | simp_all)]; rfl)
                clear HU3 HU0
                go_enter Tryz.func22, Tryz.ntmps22
                go_wp2_with (first
                  | (go_at_call 39; refine (HK _).mono ?_; rintro e X ⟨rfl, rfl⟩))
                all_goals
                  go_ret
                  exact ⟨by rw [HF.out]; rfl, below_next (box_below _ _) (box_below _ _)⟩
            · have plo : ¬ (lo : Int) = 0 := by omega
              have HF := hide (show (f : Int) = 3 by rw [HU3.out (by unfold unusedP netZ; first | (simp only; omega) | (simp; omega) | simp_all)]; rfl)
              clear HU3 HU0
              go_enter Tryz.func22, Tryz.ntmps22
              go_wp2_with (first
                | (go_at_call 39; refine (HK _).mono ?_; rintro e X ⟨rfl, rfl⟩))
              all_goals
                go_ret
                exact ⟨by rw [HF.out]; rfl, below_next (box_below _ _) (box_below _ _)⟩
          · have pb : ¬ (b : Int) = 0 := by omega
            have HF := hide (show (f : Int) = 3 by rw [HU3.out (by unfold unusedP netZ; first | (simp only; omega) | (simp; omega) | simp_all)]; rfl)
            clear HU3 HU0
            go_enter Tryz.func22, Tryz.ntmps22
            go_wp2_with (first
              | (go_at_call 39; refine (HK _).mono ?_; rintro e X ⟨rfl, rfl⟩))
            all_goals
              go_ret
              exact ⟨by rw [HF.out]; rfl, below_next (box_below _ _) (box_below _ _)⟩
        · have pip : ¬ (ip : Int) = 0 := by omega
          have HF := hide (show (f : Int) = 3 by rw [HU3.out (by unfold unusedP netZ; first | (simp only; omega) | (simp; omega) | simp_all)]; rfl)
          clear HU3 HU0
          go_enter Tryz.func22, Tryz.ntmps22
          go_wp2_with (first
            | (go_at_call 39; refine (HK _).mono ?_; rintro e X ⟨rfl, rfl⟩))
          all_goals
            go_ret
            exact ⟨by rw [HF.out]; rfl, below_next (box_below _ _) (box_below _ _)⟩
      · have pg : (0 : Int) < g.size := by omega
        have HF := hide (show (f : Int) = 3 by rw [HU3.out (by unfold unusedP netZ; first | (simp only; omega) | (simp; omega) | simp_all)]; rfl)
        clear HU3 HU0
        go_enter Tryz.func22, Tryz.ntmps22
        go_wp2_with (first
          | (go_at_call 39; refine (HK _).mono ?_; rintro e X ⟨rfl, rfl⟩))
        all_goals
          go_ret
          exact ⟨by rw [HF.out]; rfl, below_next (box_below _ _) (box_below _ _)⟩

set_option maxHeartbeats 8000000 in
set_option maxRecDepth 100000 in
theorem dcondF_like (nr a : Nat) (hnr : nr < 9) (ha : a ≤ 3) (v m : Nat) (g : ByteArray) (ip : Nat) (b lo hi : Int) (w : World) (hk : kindAt nr a = 2) (f : Nat) (hu3 : unusedP ⟨a, 8, v, m, g, ⟨ip, b, lo, hi⟩⟩ → f = 3) (hu0 : ¬ unusedP ⟨a, 8, v, m, g, ⟨ip, b, lo, hi⟩⟩ → f = globF g) :
    Calls Tryz.prog 22 #[.int .i64 nr, condV ⟨a, 8, v, m, g, ⟨ip, b, lo, hi⟩⟩] w fun e w' => e = .returned (.int .i64 f) ∧ Below w.heap.size w w' := by
  have HK := fun X => dkind_any nr a hnr (by omega) X
  rw [hk] at HK
  have HU3 := hide hu3
  have HU0 := hide hu0
  clear hk hu3 hu0 hnr
  unfold condV
  simp only
  have i1 : ¬ (a : Int) < 0 := by omega
  have i2 : ¬ 3 < (a : Int) := by omega
  by_cases hm : m = 0
  · subst hm
    by_cases hv : v = 0
    · subst hv
      by_cases hg : g.size = 0
      · have pg : ¬ (0 : Int) < g.size := by omega
        by_cases hip : ip = 0
        · subst hip
          by_cases hb : b = 0
          · subst hb
            by_cases hlo : lo = 0
            · subst hlo
              by_cases hhi : hi = 0
              · subst hhi
                have HF := hide (HU0.out (by unfold unusedP netZ; first | (simp only; omega) | (simp; omega) | simp_all))
                have HG := fun X => dglobF_any g X
                clear HU3 HU0
                go_enter Tryz.func22, Tryz.ntmps22
                go_wp2_with (first
                  | (go_at_call 39; refine (HK _).mono ?_; rintro e X ⟨rfl, rfl⟩)
                  | (go_at_call 40; refine (HG _).mono ?_; rintro e X ⟨rfl, hX⟩))
                all_goals
                  go_ret
                  exact ⟨by rw [HF.out]; rfl, below_next (below_next (box_below _ _) (box_below _ _)) hX⟩
              · have phi : ¬ (hi : Int) = 0 := by omega
                have HF := hide (show (f : Int) = 3 by rw [HU3.out (by unfold unusedP netZ; first | (simp only; omega) | (simp; omega) | simp_all)]; rfl)
                clear HU3 HU0
                go_enter Tryz.func22, Tryz.ntmps22
                go_wp2_with (first
                  | (go_at_call 39; refine (HK _).mono ?_; rintro e X ⟨rfl, rfl⟩))
                all_goals
                  go_ret
                  exact ⟨by rw [HF.out]; rfl, below_next (box_below _ _) (box_below _ _)⟩
            · have plo : ¬ (lo : Int) = 0 := by omega
              have HF := hide (show (f : Int) = 3 by rw [HU3.out (by unfold unusedP netZ; first | (simp only; omega) | (simp; omega) | simp_all)]; rfl)
              clear HU3 HU0
              go_enter Tryz.func22, Tryz.ntmps22
              go_wp2_with (first
                | (go_at_call 39; refine (HK _).mono ?_; rintro e X ⟨rfl, rfl⟩))
              all_goals
                go_ret
                exact ⟨by rw [HF.out]; rfl, below_next (box_below _ _) (box_below _ _)⟩
          · have pb : ¬ (b : Int) = 0 := by omega
            have HF := hide (show (f : Int) = 3 by rw [HU3.out (by unfold unusedP netZ; first | (simp only; omega) | (simp; omega) | simp_all)]; rfl)
            clear HU3 HU0
            go_enter Tryz.func22, Tryz.ntmps22
            go_wp2_with (first
              | (go_at_call 39; refine (HK _).mono ?_; rintro e X ⟨rfl, rfl⟩))
            all_goals
              go_ret
              exact ⟨by rw [HF.out]; rfl, below_next (box_below _ _) (box_below _ _)⟩
        · have pip : ¬ (ip : Int) = 0 := by omega
          have HF := hide (show (f : Int) = 3 by rw [HU3.out (by unfold unusedP netZ; first | (simp only; omega) | (simp; omega) | simp_all)]; rfl)
          clear HU3 HU0
          go_enter Tryz.func22, Tryz.ntmps22
          go_wp2_with (first
            | (go_at_call 39; refine (HK _).mono ?_; rintro e X ⟨rfl, rfl⟩))
          all_goals
            go_ret
            exact ⟨by rw [HF.out]; rfl, below_next (box_below _ _) (box_below _ _)⟩
      · have pg : (0 : Int) < g.size := by omega
        by_cases hip : ip = 0
        · subst hip
          by_cases hb : b = 0
          · subst hb
            by_cases hlo : lo = 0
            · subst hlo
              by_cases hhi : hi = 0
              · subst hhi
                have HF := hide (HU0.out (by unfold unusedP netZ; first | (simp only; omega) | (simp; omega) | simp_all))
                have HG := fun X => dglobF_any g X
                clear HU3 HU0
                go_enter Tryz.func22, Tryz.ntmps22
                go_wp2_with (first
                  | (go_at_call 39; refine (HK _).mono ?_; rintro e X ⟨rfl, rfl⟩)
                  | (go_at_call 40; refine (HG _).mono ?_; rintro e X ⟨rfl, hX⟩))
                all_goals
                  go_ret
                  exact ⟨by rw [HF.out]; rfl, below_next (below_next (box_below _ _) (box_below _ _)) hX⟩
              · have phi : ¬ (hi : Int) = 0 := by omega
                have HF := hide (show (f : Int) = 3 by rw [HU3.out (by unfold unusedP netZ; first | (simp only; omega) | (simp; omega) | simp_all)]; rfl)
                clear HU3 HU0
                go_enter Tryz.func22, Tryz.ntmps22
                go_wp2_with (first
                  | (go_at_call 39; refine (HK _).mono ?_; rintro e X ⟨rfl, rfl⟩))
                all_goals
                  go_ret
                  exact ⟨by rw [HF.out]; rfl, below_next (box_below _ _) (box_below _ _)⟩
            · have plo : ¬ (lo : Int) = 0 := by omega
              have HF := hide (show (f : Int) = 3 by rw [HU3.out (by unfold unusedP netZ; first | (simp only; omega) | (simp; omega) | simp_all)]; rfl)
              clear HU3 HU0
              go_enter Tryz.func22, Tryz.ntmps22
              go_wp2_with (first
                | (go_at_call 39; refine (HK _).mono ?_; rintro e X ⟨rfl, rfl⟩))
              all_goals
                go_ret
                exact ⟨by rw [HF.out]; rfl, below_next (box_below _ _) (box_below _ _)⟩
          · have pb : ¬ (b : Int) = 0 := by omega
            have HF := hide (show (f : Int) = 3 by rw [HU3.out (by unfold unusedP netZ; first | (simp only; omega) | (simp; omega) | simp_all)]; rfl)
            clear HU3 HU0
            go_enter Tryz.func22, Tryz.ntmps22
            go_wp2_with (first
              | (go_at_call 39; refine (HK _).mono ?_; rintro e X ⟨rfl, rfl⟩))
            all_goals
              go_ret
              exact ⟨by rw [HF.out]; rfl, below_next (box_below _ _) (box_below _ _)⟩
        · have pip : ¬ (ip : Int) = 0 := by omega
          have HF := hide (show (f : Int) = 3 by rw [HU3.out (by unfold unusedP netZ; first | (simp only; omega) | (simp; omega) | simp_all)]; rfl)
          clear HU3 HU0
          go_enter Tryz.func22, Tryz.ntmps22
          go_wp2_with (first
            | (go_at_call 39; refine (HK _).mono ?_; rintro e X ⟨rfl, rfl⟩))
          all_goals
            go_ret
            exact ⟨by rw [HF.out]; rfl, below_next (box_below _ _) (box_below _ _)⟩
    · have pv : (0 : Int) < v := by omega
      have HF := hide (show (f : Int) = 3 by rw [HU3.out (by unfold unusedP netZ; first | (simp only; omega) | (simp; omega) | simp_all)]; rfl)
      clear HU3 HU0
      go_enter Tryz.func22, Tryz.ntmps22
      go_wp2_with (first
        | (go_at_call 39; refine (HK _).mono ?_; rintro e X ⟨rfl, rfl⟩))
      all_goals
        go_ret
        exact ⟨by rw [HF.out]; rfl, below_next (box_below _ _) (box_below _ _)⟩
  · have pm : (0 : Int) < m := by omega
    have HF := hide (show (f : Int) = 3 by rw [HU3.out (by unfold unusedP netZ; first | (simp only; omega) | (simp; omega) | simp_all)]; rfl)
    clear HU3 HU0
    go_enter Tryz.func22, Tryz.ntmps22
    go_wp2_with (first
      | (go_at_call 39; refine (HK _).mono ?_; rintro e X ⟨rfl, rfl⟩))
    all_goals
      go_ret
      exact ⟨by rw [HF.out]; rfl, below_next (box_below _ _) (box_below _ _)⟩

set_option maxHeartbeats 8000000 in
set_option maxRecDepth 100000 in
theorem dcondF_net (nr a : Nat) (hnr : nr < 9) (ha : a ≤ 3) (v m : Nat) (g : ByteArray) (ip : Nat) (b lo hi : Int) (hc : NtOk ⟨ip, b, lo, hi⟩) (w : World) (hk : kindAt nr a = 3) (f : Nat) (hu3 : unusedP ⟨a, 9, v, m, g, ⟨ip, b, lo, hi⟩⟩ → f = 3) (hu0 : ¬ unusedP ⟨a, 9, v, m, g, ⟨ip, b, lo, hi⟩⟩ → f = faultOf ip b lo hi) :
    Calls Tryz.prog 22 #[.int .i64 nr, condV ⟨a, 9, v, m, g, ⟨ip, b, lo, hi⟩⟩] w fun e w' => e = .returned (.int .i64 f) ∧ Below w.heap.size w w' := by
  have HK := fun X => dkind_any nr a hnr (by omega) X
  rw [hk] at HK
  have HG := fun X => netFault_any ip hc.ip b lo hi hc.bits hc.lo hc.hi X
  unfold netV at HG
  obtain ⟨ff, hff⟩ : ∃ x, x = faultOf ip b lo hi := ⟨_, rfl⟩
  rw [← hff] at HG hu0
  clear hff hc
  have HU3 := hide hu3
  have HU0 := hide hu0
  clear hk hu3 hu0 hnr
  unfold condV
  simp only
  have i1 : ¬ (a : Int) < 0 := by omega
  have i2 : ¬ 3 < (a : Int) := by omega
  by_cases hm : m = 0
  · subst hm
    by_cases hv : v = 0
    · subst hv
      by_cases hg : g.size = 0
      · have pg : ¬ (0 : Int) < g.size := by omega
        by_cases hip : ip = 0
        case neg =>
          have pip : ¬ (ip : Int) = 0 := by omega
          have HF := hide (HU0.out (by unfold unusedP netZ; first | (simp only; omega) | (simp; omega) | simp_all))
          clear HU3 HU0
          go_enter Tryz.func22, Tryz.ntmps22
          go_wp2_with (first
            | (go_at_call 39; refine (HK _).mono ?_; rintro e X ⟨rfl, rfl⟩)
            | (go_at_call 41; refine (HG _).mono ?_; rintro e X ⟨rfl, hX⟩))
          all_goals
            go_ret
            exact ⟨by rw [HF.out]; rfl, below_next (below_next (box_below _ _) (box_below _ _)) hX⟩
        subst hip
        have hz : ((0 : Nat) : Int) = 0 := rfl
        try simp only [hz] at HG
        clear hz
        by_cases hb : b = 0
        case neg =>
          have pb : ¬ (b : Int) = 0 := by omega
          have HF := hide (HU0.out (by unfold unusedP netZ; first | (simp only; omega) | (simp; omega) | simp_all))
          clear HU3 HU0
          go_enter Tryz.func22, Tryz.ntmps22
          go_wp2_with (first
            | (go_at_call 39; refine (HK _).mono ?_; rintro e X ⟨rfl, rfl⟩)
            | (go_at_call 41; refine (HG _).mono ?_; rintro e X ⟨rfl, hX⟩))
          all_goals
            go_ret
            exact ⟨by rw [HF.out]; rfl, below_next (below_next (box_below _ _) (box_below _ _)) hX⟩
        subst hb
        by_cases hlo : lo = 0
        case neg =>
          have plo : ¬ (lo : Int) = 0 := by omega
          have HF := hide (HU0.out (by unfold unusedP netZ; first | (simp only; omega) | (simp; omega) | simp_all))
          clear HU3 HU0
          go_enter Tryz.func22, Tryz.ntmps22
          go_wp2_with (first
            | (go_at_call 39; refine (HK _).mono ?_; rintro e X ⟨rfl, rfl⟩)
            | (go_at_call 41; refine (HG _).mono ?_; rintro e X ⟨rfl, hX⟩))
          all_goals
            go_ret
            exact ⟨by rw [HF.out]; rfl, below_next (below_next (box_below _ _) (box_below _ _)) hX⟩
        subst hlo
        by_cases hhi : hi = 0
        case neg =>
          have phi : ¬ (hi : Int) = 0 := by omega
          have HF := hide (HU0.out (by unfold unusedP netZ; first | (simp only; omega) | (simp; omega) | simp_all))
          clear HU3 HU0
          go_enter Tryz.func22, Tryz.ntmps22
          go_wp2_with (first
            | (go_at_call 39; refine (HK _).mono ?_; rintro e X ⟨rfl, rfl⟩)
            | (go_at_call 41; refine (HG _).mono ?_; rintro e X ⟨rfl, hX⟩))
          all_goals
            go_ret
            exact ⟨by rw [HF.out]; rfl, below_next (below_next (box_below _ _) (box_below _ _)) hX⟩
        subst hhi
        have HF := hide (HU0.out (by unfold unusedP netZ; first | (simp only; omega) | (simp; omega) | simp_all))
        clear HU3 HU0
        go_enter Tryz.func22, Tryz.ntmps22
        go_wp2_with (first
          | (go_at_call 39; refine (HK _).mono ?_; rintro e X ⟨rfl, rfl⟩)
          | (go_at_call 41; refine (HG _).mono ?_; rintro e X ⟨rfl, hX⟩))
        all_goals
          go_ret
          exact ⟨by rw [HF.out]; rfl, below_next (below_next (box_below _ _) (box_below _ _)) hX⟩
      · have pg : (0 : Int) < g.size := by omega
        have HF := hide (show (f : Int) = 3 by rw [HU3.out (by unfold unusedP netZ; first | (simp only; omega) | (simp; omega) | simp_all)]; rfl)
        clear HU3 HU0
        go_enter Tryz.func22, Tryz.ntmps22
        go_wp2_with (first
          | (go_at_call 39; refine (HK _).mono ?_; rintro e X ⟨rfl, rfl⟩))
        all_goals
          go_ret
          exact ⟨by rw [HF.out]; rfl, below_next (box_below _ _) (box_below _ _)⟩
    · have pv : (0 : Int) < v := by omega
      have HF := hide (show (f : Int) = 3 by rw [HU3.out (by unfold unusedP netZ; first | (simp only; omega) | (simp; omega) | simp_all)]; rfl)
      clear HU3 HU0
      go_enter Tryz.func22, Tryz.ntmps22
      go_wp2_with (first
        | (go_at_call 39; refine (HK _).mono ?_; rintro e X ⟨rfl, rfl⟩))
      all_goals
        go_ret
        exact ⟨by rw [HF.out]; rfl, below_next (box_below _ _) (box_below _ _)⟩
  · have pm : (0 : Int) < m := by omega
    have HF := hide (show (f : Int) = 3 by rw [HU3.out (by unfold unusedP netZ; first | (simp only; omega) | (simp; omega) | simp_all)]; rfl)
    clear HU3 HU0
    go_enter Tryz.func22, Tryz.ntmps22
    go_wp2_with (first
      | (go_at_call 39; refine (HK _).mono ?_; rintro e X ⟨rfl, rfl⟩))
    all_goals
      go_ret
      exact ⟨by rw [HF.out]; rfl, below_next (box_below _ _) (box_below _ _)⟩

theorem dcondF_any (nr : Nat) (hnr : nr < 9) (c : CD) (hc : CdOk c) (w : World) : Calls Tryz.prog 22 #[.int .i64 nr, condV c] w fun e w' => e = .returned (.int .i64 (condF nr c)) ∧ Below w.heap.size w w' := by
  by_cases h : c.arg < 0 ∨ 3 < c.arg ∨ c.op < 1 ∨ 9 < c.op
  · rw [show condF nr c = 1 from if_pos h]
    exact dcondF_bound nr c w h
  have hf : condF nr c = if kindAt nr c.arg.toNat ≠ kindOp c.op ∨ unusedP c then 3 else if c.op = 8 then globF c.glob else if c.op = 9 then netF c.net else 0 := if_neg h
  obtain ⟨arg, op, v, m, g, ⟨ip, b, lo, hi⟩⟩ := c
  simp only [not_or] at h hf
  obtain ⟨a, rfl⟩ : ∃ a : Nat, arg = a := ⟨arg.toNat, by omega⟩
  have ha : a ≤ 3 := by omega
  rw [Int.toNat_natCast] at hf
  by_cases hk : kindAt nr a = kindOp op
  · have h3 : unusedP ⟨a, op, v, m, g, ⟨ip, b, lo, hi⟩⟩ → condF nr ⟨a, op, v, m, g, ⟨ip, b, lo, hi⟩⟩ = 3 := fun hu => by rw [hf, if_pos (.inr hu)]
    have h0 : ¬ unusedP ⟨a, op, v, m, g, ⟨ip, b, lo, hi⟩⟩ → condF nr ⟨a, op, v, m, g, ⟨ip, b, lo, hi⟩⟩ = if op = 8 then globF g else if op = 9 then faultOf ip b lo hi else 0 := fun hu => by
      rw [hf, if_neg (by rw [not_or]; exact ⟨fun hc => hc hk, hu⟩)]
      rfl
    by_cases h8 : op = 8
    · subst h8
      exact dcondF_like nr a hnr ha v m g ip b lo hi w hk _ h3 h0
    by_cases h9 : op = 9
    · subst h9
      exact dcondF_net nr a hnr ha v m g ip b lo hi hc.net w hk _ h3 h0
    have hk1 : kindAt nr a = 1 := by rw [hk]; unfold kindOp; rw [if_neg h8, if_neg h9]
    rw [if_neg h8, if_neg h9] at h0
    by_cases h7 : op = 7
    · subst h7
      exact dcondF_mask nr a hnr ha v m g ip b lo hi w hk1 _ h3 h0
    · exact dcondF_num nr a hnr ha op h.2.2.1 (by omega) v m g ip b lo hi w hk1 _ h3 h0
  · rw [hf, if_pos (.inl hk)]
    exact dcondF_kind nr a hnr ha op v m g ip b lo hi h.2.2.1 h.2.2.2 w hk
end Go.Proofs.YtkogafponpjdnaaGreatDoor

/- The document's PolicyFault. -/
namespace Go.Proofs.YtkogafponpjdnaaGreatDoor
open Go.RowKit Go.Sort

theorem firstF_at {rs : List RL} {i f : Nat} (h : firstF ((rs.take i).map ruleF) = f) (hf : f ≠ 0) : firstF (rs.map ruleF) = f := by
  rw [← List.take_append_drop i rs, List.map_append, firstF_append, if_neg (by rw [h]; exact hf), h]
theorem firstC_at {cs : List CD} {k i f : Nat} (h : firstF ((cs.take i).map (condF k)) = f) (hf : f ≠ 0) : firstF (cs.map (condF k)) = f := by
  rw [← List.take_append_drop i cs, List.map_append, firstF_append, if_neg (by rw [h]; exact hf), h]

set_option maxHeartbeats 4000000 in
set_option maxRecDepth 100000 in
theorem dpolF_any (p : POL) (oa : Option Addr) (cap : Nat) (w : World) (h : IsPol oa cap p w) :
    Calls Tryz.prog 9 #[polV p oa cap] w fun e w' => e = .returned (.int .i64 (polF p)) ∧ Below w.heap.size w w' := by
  obtain ⟨n, hn⟩ : ∃ n, n = p.rules.length := ⟨_, rfl⟩
  have HC := hide (pol_parts h n hn)
  have hmax : n ≤ 9223372036854775807 := by have h1 := h.le; have h2 := h.cap; unfold maxLen at h2; omega
  clear h
  obtain ⟨rs, ⟨ak, ae⟩⟩ := p
  unfold polV
  simp only at HC hn ⊢
  rw [← hn]
  have hf0 : polF ⟨rs, ⟨ak, ae⟩⟩ = if 12 < n then 2 else if actF ⟨ak, ae⟩ = 0 then firstF (rs.map ruleF) else actF ⟨ak, ae⟩ := by rw [hn]; rfl
  obtain ⟨pf, hpf⟩ : ∃ x, x = polF ⟨rs, ⟨ak, ae⟩⟩ := ⟨_, rfl⟩
  rw [← hpf] at hf0 ⊢
  clear hpf
  by_cases h12 : 12 < n
  · have HF := hide (show (pf : Int) = 2 by rw [hf0, if_pos h12]; rfl)
    clear hf0 hn
    go_enter Tryz.func9, Tryz.ntmps9
    go_wp2
    go_ret
    exact ⟨by rw [HF.out]; rfl, box_below _ _⟩
  rw [if_neg h12] at hf0
  have HA := fun X => dactF_any ⟨ak, ae⟩ X
  obtain ⟨f0, hf⟩ : ∃ f, f = actF ⟨ak, ae⟩ := ⟨_, rfl⟩
  rw [← hf] at HA hf0
  have HF := hide hf0
  have HN := hide hn
  have HL := hide (show ∀ i, i < n → ∃ c, rs[i]? = some c ∧ rs.take (i + 1) = rs.take i ++ [c] from fun i h => take_next (by omega))
  clear hf0 hn hf
  unfold actV at HA
  simp only at HA
  obtain ⟨V, hV, hB, hsz, hx⟩ := one_box w #[.slice oa n cap, .int .i64 ak, .int .i64 ae] 26
  have x0 := hx 0
  simp only [List.getElem?_toArray, List.getElem?_cons_zero] at x0
  clear hx
  by_cases hz0 : f0 = 0
  case neg =>
    have p0 : (0 : Int) < f0 := by omega
    have HE := hide (show pf = f0 by rw [HF.out, if_neg hz0])
    clear HF
    go_enter Tryz.func9, Tryz.ntmps9
    go_wp2_with (go_at_call 21; refine (HA _).mono ?_; rintro e X ⟨rfl, hX⟩)
    go_ret
    exact ⟨by rw [HE.out]; rfl, below_next (box_below _ _) hX⟩
  subst hz0
  rw [if_pos rfl] at HF
  have hz : ((0 : Nat) : Int) = 0 := rfl
  rw [hz] at HA
  clear hz
  go_enter Tryz.func9, Tryz.ntmps9
  go_wp2_with (go_at_call 21; rw [← hV]; clear hV; refine (HA _).mono ?_; rintro e X ⟨rfl, hX⟩; have k0 := keep_cell hX x0)
  go_loopw [4] (fun I w' => ∃ i : Nat, i ≤ n ∧ I = .int .i64 i ∧ Hid (Below X.heap.size X w') ∧ Hid (firstF ((rs.take i).map ruleF) = 0)) (fun I _ => n - (intOf I).toNat)
  case atStart => exact ⟨0, by omega, rfl, hide (Below.refl _ _), hide rfl⟩
  case round =>
    obtain ⟨i, hi, rfl, HB, HG⟩ := hrel
    have HW := hide (below_next (below_next hB hX) HB.out)
    have g0 := keep_cell HB.out k0
    by_cases hlt : i < n
    · obtain ⟨c, hcs, hcat⟩ := HL.out i hlt
      obtain ⟨b, off, rfl, hbw, HA2⟩ := HC.out (by omega)
      obtain ⟨ca, cc, hR0⟩ := HA2.out i c hcs
      have hR := hR0.on hbw HW.out
      clear hR0
      obtain ⟨m, hm⟩ : ∃ m, m = c.conds.length := ⟨_, rfl⟩
      have hmm : m ≤ 9223372036854775807 := by have h1 := hR.le; have h2 := hR.cap; unfold maxLen at h2; omega
      have hq : firstF ((rs.take (i + 1)).map ruleF) = ruleF c := by rw [hcat, List.map_append, firstF_append, if_pos HG.out]; exact firstF_one _
      obtain ⟨W1, hW1, hW1b, _, hW1c⟩ := one_box wr #[.int .i64 c.nr, .slice ca m cc, .int .i64 c.act.kind, .int .i64 c.act.errno] 65
      have s0 := hW1c 0
      have s1 := hW1c 1
      have s2 := hW1c 2
      have s3 := hW1c 3
      simp only [List.getElem?_toArray, List.getElem?_cons_zero, List.getElem?_cons_succ] at s0 s1 s2 s3
      have HCC := hide (conds_parts (hR.conds.on hW1b) m hm)
      have HCL := hide (show ∀ j, j < m → ∃ x, c.conds[j]? = some x ∧ c.conds.take (j + 1) = c.conds.take j ++ [x] from fun j h => take_next (by omega))
      have HRF := hide (show ruleF c = if c.nr < 0 ∨ 8 < c.nr then 1 else if 4 < m then 2 else if firstF (c.conds.map (condF c.nr.toNat)) = 0 then actF c.act else firstF (c.conds.map (condF c.nr.toNat)) by rw [hm]; rfl)
      have HAC := fun X => dactF_any c.act X
      obtain ⟨p0, p1, p2, p3, _, _, _, _⟩ := hR
      rw [← hm] at p1
      have HM := hide hm
      have HQ := hide hq
      have lb : b < wr.heap.size := Nat.lt_of_lt_of_le hbw HW.out.size
      clear hm hq hcs hcat hW1c
      obtain ⟨nr, cs, ⟨rk, re⟩⟩ := c
      simp only at p0 p1 p2 p3 s0 s1 s2 s3 hW1 HCC HCL HRF HAC HM HQ
      unfold actV at HAC
      simp only at HAC
      by_cases hnr : nr < 0 ∨ 8 < nr
      · have HE := hide (show (pf : Int) = 1 by
          have h1 : ruleF ⟨nr, cs, ⟨rk, re⟩⟩ = 1 := by rw [HRF.out, if_pos hnr]
          rw [HF.out, firstF_at (HQ.out.trans h1) (by omega)]
          rfl)
        clear HRF HQ
        go_wp2
        all_goals first
          | omega
          | (go_ret
             exact ⟨by rw [HE.out]; rfl, below_next HW.out (box_below _ _)⟩)
      rw [if_neg hnr] at HRF
      obtain ⟨k, rfl⟩ : ∃ k : Nat, nr = k := ⟨nr.toNat, by omega⟩
      have hk8 : k < 9 := by omega
      rw [Int.toNat_natCast] at HRF
      have i1 : ¬ (k : Int) < 0 := by omega
      have i2 : ¬ 8 < (k : Int) := by omega
      clear hnr
      by_cases h4 : 4 < m
      · have HE := hide (show (pf : Int) = 2 by
          have h1 : ruleF ⟨(k : Int), cs, ⟨rk, re⟩⟩ = 2 := by rw [HRF.out, if_pos h4]
          rw [HF.out, firstF_at (HQ.out.trans h1) (by omega)]
          rfl)
        clear HRF HQ
        go_wp2
        go_ret
        exact ⟨by rw [HE.out]; rfl, below_next HW.out (box_below _ _)⟩
      rw [if_neg h4] at HRF
      go_wp2
      rw [← hW1]
      clear hW1 p0 p1 p2 p3
      go_loopw [6] (fun J w' => ∃ j : Nat, j ≤ m ∧ J = .int .i64 j ∧ Hid (Below W1.heap.size W1 w') ∧ Hid (firstF ((cs.take j).map (condF k)) = 0)) (fun J _ => m - (intOf J).toNat)
      case atStart => exact ⟨0, by omega, rfl, hide (Below.refl _ _), hide rfl⟩
      case round =>
        obtain ⟨j, hj, rfl, HBJ, HGJ⟩ := hrel
        have t0 := keep_cell HBJ.out s0
        have t1 := keep_cell HBJ.out s1
        by_cases hjl : j < m
        · obtain ⟨x, hxs, hxcat⟩ := HCL.out j hjl
          obtain ⟨b3, off3, rfl, hbw3, HA3⟩ := HCC.out (by omega)
          have hX3 := (HA3.out j x hxs).on fun q => (bcell HBJ.out).1 b3 q hbw3
          have HFX := fun X => dcondF_any k hk8 x hX3.ok X
          have hqx : firstF ((cs.take (j + 1)).map (condF k)) = condF k x := by rw [hxcat, List.map_append, firstF_append, if_pos HGJ.out]; exact firstF_one _
          obtain ⟨fx, hfx⟩ : ∃ f, f = condF k x := ⟨_, rfl⟩
          rw [← hfx] at HFX hqx
          have HQX := hide hqx
          obtain ⟨g0', g1, g2, g3, g4, g5, g6, g7, g8, _⟩ := hX3
          clear hfx hxs hxcat hqx
          obtain ⟨arg, op, vv, mm, gl, ⟨ip, bb, lo, hh⟩⟩ := x
          unfold condV at HFX
          simp only at g0' g1 g2 g3 g4 g5 g6 g7 g8 HFX
          replace t0 := cell_regrown t0
          replace t1 := cell_regrown t1
          replace g0' := cell_regrown g0'
          replace g1 := cell_regrown g1
          replace g2 := cell_regrown g2
          replace g3 := cell_regrown g3
          replace g4 := cell_regrown g4
          replace g5 := cell_regrown g5
          replace g6 := cell_regrown g6
          replace g7 := cell_regrown g7
          replace g8 := cell_regrown g8
          have i3 : (0 : Int) ≤ j := by omega
          have i4 : (j : Int) < m := by omega
          have t1p := keep_cell HBJ.out s1
          go_wp2
          clear t1p
          have cF : ∀ d os, Calls Tryz.prog 22 #[.int .i64 k, .agg #[.int .i64 arg, .int .i64 op, .int .u64 vv, .int .u64 mm, .string gl, .int .u32 ip, .int .i64 bb, .int .i64 lo, .int .i64 hh]] (grow (redrawn wr d) os) fun e w'' => e = .returned (.int .i64 fx) ∧ ∃ p : Regrown, w'' = grow (redrawn wr p.d) p.os := fun d os => Calls.regrown_of (HFX _)
          clear HFX
          refine wp_region_quiet_below (by kernel_rfl) (by kernel_rfl) ?_
          by_cases hfx0 : fx = 0
          · subst hfx0
            repeat (go_big_quiet_step (first | (go_at_call 22; exact cF _ _)))
            refine wpQuiet_nil ?_
            intro _ hw'
            obtain ⟨⟨dq, osq⟩, hw''⟩ := hw'
            subst hw''
            clear cF t0 t1 g0' g1 g2 g3 g4 g5 g6 g7 g8
            go_wp2
            go_round
            case rel => exact ⟨j + 1, by omega, by go_num, hide (below_next HBJ.out (below_regrown _ _ _)), HQX⟩
            case measure => simp [intOf]; omega
          · have HE := hide (show pf = fx by
              have h1 : ruleF ⟨(k : Int), cs, ⟨rk, re⟩⟩ = fx := by rw [HRF.out, firstC_at HQX.out hfx0, if_neg hfx0]
              rw [HF.out, firstF_at (HQ.out.trans h1) hfx0])
            have pfx : (0 : Int) < fx := by omega
            repeat (go_big_quiet_step (first | (go_at_call 22; exact cF _ _)))
            refine wpQuiet_nil ?_
            intro _ hw'
            obtain ⟨⟨dq, osq⟩, hw''⟩ := hw'
            subst hw''
            clear cF t0 t1 g0' g1 g2 g3 g4 g5 g6 g7 g8
            go_wp2
            go_ret
            exact ⟨by rw [HE.out]; rfl, below_next HW.out (below_next hW1b (below_next HBJ.out (below_regrown _ _ _)))⟩
        · obtain rfl : j = m := by omega
          have HRA := hide (show ruleF ⟨(k : Int), cs, ⟨rk, re⟩⟩ = actF ⟨rk, re⟩ by
            have := HGJ.out
            rw [List.take_of_length_le (by rw [HM.out]; exact Nat.le_refl _)] at this
            rw [HRF.out, this, if_pos rfl])
          obtain ⟨fa, hfa⟩ : ∃ f, f = actF ⟨rk, re⟩ := ⟨_, rfl⟩
          rw [← hfa] at HRA HAC
          have t2 := keep_cell HBJ.out s2
          have t3 := keep_cell HBJ.out s3
          clear hfa
          by_cases hfa0 : fa = 0
          · subst hfa0
            have HQ2 := hide (HQ.out.trans HRA.out)
            have hz : ((0 : Nat) : Int) = 0 := rfl
            rw [hz] at HAC
            clear hz
            go_wp2_with (go_at_call 21; refine (HAC _).mono ?_; rintro e X2 ⟨rfl, hX2⟩)
            go_round
            case rel => exact ⟨i + 1, by omega, by go_num, hide (below_next HB.out (below_next hW1b (below_next HBJ.out hX2))), HQ2⟩
            case measure => simp [intOf]; omega
          · have HE := hide (show pf = fa by rw [HF.out, firstF_at (HQ.out.trans HRA.out) hfa0])
            have pfa : (0 : Int) < fa := by omega
            go_wp2_with (go_at_call 21; refine (HAC _).mono ?_; rintro e X2 ⟨rfl, hX2⟩)
            go_ret
            exact ⟨by rw [HE.out]; rfl, below_next HW.out (below_next hW1b (below_next HBJ.out hX2))⟩
    · obtain rfl : i = n := by omega
      have HE := hide (show (pf : Int) = 0 by
        have := HG.out
        rw [List.take_of_length_le (by rw [HN.out]; exact Nat.le_refl _)] at this
        rw [HF.out, this]
        rfl)
      go_wp2
      go_ret
      exact ⟨by rw [HE.out]; rfl, HW.out⟩
end Go.Proofs.YtkogafponpjdnaaGreatDoor

/- The document's PolicyOf: the laws. -/
namespace Go.Proofs.YtkogafponpjdnaaGreatDoor
open Go.RowKit Go.Sort

theorem docConds_ok : ∀ (n : Nat) (f : Bool) (l : List W8) (cs : List CD), docConds n f l = some cs → ∀ c ∈ cs, CdOk c
  | n, f, [], cs, h, c, hc => by
    cases n <;> simp [docConds] at h <;> subst h <;> cases hc
  | 0, f, w :: r, cs, h, c, hc => by simp [docConds] at h
  | n + 1, f, w :: r, cs, h, c, hc => by
    rw [docConds] at h
    by_cases hw : w = (if f = true then wIf else wAnd)
    · rw [if_pos hw] at h
      cases hd : docCond r with
      | none => rw [hd] at h; simp at h
      | some x =>
        obtain ⟨y, k⟩ := x
        rw [hd] at h
        simp only [Option.map_eq_some_iff] at h
        obtain ⟨t, h1, h2⟩ := h
        subst h2
        rcases List.mem_cons.1 hc with rfl | hc
        · exact (docCond_le hd).2.2.2
        · exact docConds_ok n false _ t h1 c hc
    · rw [if_neg hw] at h
      simp at h
theorem docAct_ok {ws : List W8} {a : ACT} {n : Nat} (h : docAct ws = some (a, n)) : AcOk a := by
  cases ws with
  | nil => simp [docAct] at h
  | cons w r =>
    rw [docAct_cons] at h
    split at h
    · simp only [Option.some.injEq, Prod.mk.injEq] at h
      rw [← h.1]
      exact ⟨i64_nat (k := 1) (by omega), i64_nat (k := 0) (by omega)⟩
    · split at h
      · simp only [Option.some.injEq, Prod.mk.injEq] at h
        rw [← h.1]
        exact ⟨i64_nat (k := 3) (by omega), i64_nat (k := 0) (by omega)⟩
      · split at h
        · cases r with
          | nil => simp [docDeny] at h
          | cons x t =>
            simp only [docDeny] at h
            split at h
            · rename_i hx
              simp only [Option.some.injEq, Prod.mk.injEq] at h
              rw [← h.1]
              exact ⟨i64_nat (k := 2) (by omega), i64_nat (by omega)⟩
            · simp at h
        · simp at h
theorem docRule_ok {l : List W8} {r : RL} (h : docRule l = some r) : RlOk r := by
  unfold docRule at h
  cases ha : docAct l with
  | none => rw [ha] at h; simp at h
  | some x =>
    obtain ⟨a, n⟩ := x
    rw [ha] at h
    simp only at h
    split at h
    · cases hc : docConds l.length true (l.drop (n + 1)) with
      | none => rw [hc] at h; simp at h
      | some cs =>
        rw [hc] at h
        simp only at h
        split at h
        · simp at h
        · simp only [Option.some.injEq] at h
          rw [← h]
          exact ⟨findCall_ok _, docConds_ok _ _ _ _ hc, docAct_ok ha⟩
    · simp at h
theorem docRules_snoc : ∀ (l : List W8) (x : W8), docRules (l ++ [x]) = (docRules l).bind fun rs => (docRule (splitC 32 x)).map fun r => rs ++ [r]
  | [], x => by
    simp only [List.nil_append, docRules]
    cases docRule (splitC 32 x) <;> rfl
  | w :: t, x => by
    rw [List.cons_append, docRules, docRules, docRules_snoc t x]
    cases docRule (splitC 32 w) with
    | none => rfl
    | some r =>
      simp only
      cases docRules t with
      | none => rfl
      | some rs =>
        simp only [Option.map_some, Option.bind_some]
        cases docRule (splitC 32 x) <;> rfl
theorem docRules_none : ∀ (l : List W8) (i : Nat) (x : W8), l[i]? = some x → docRule (splitC 32 x) = none → docRules l = none
  | [], i, x, h, _ => by simp at h
  | w :: t, 0, x, h, hn => by
    simp only [List.getElem?_cons_zero, Option.some.injEq] at h
    subst h
    rw [docRules, hn]
  | w :: t, i + 1, x, h, hn => by
    rw [docRules, docRules_none t i x (by simpa using h) hn]
    cases docRule (splitC 32 w) <;> rfl
def zP : Array Value := #[.slice none 0 0, .int .i64 0, .int .i64 0]
/-- The world in the midst of PolicyOf: the result's row, the lines. -/
structure PX0 (w : World) (b off : Nat) (ls : List W8) (X : World) : Prop where
  below : Below w.heap.size w X
  res : X.heap[w.heap.size]? = some (.cells #[.slice none 0 0, .int .i64 0, .int .i64 0] 26 (0, 0))
  lines : WordsAt X b off ls
  lt : b < X.heap.size
theorem PX0.on {w : World} {b off : Nat} {ls : List W8} {X Y : World} (h : PX0 w b off ls X) (hb : Below X.heap.size X Y) : PX0 w b off ls Y :=
  ⟨below_next h.below hb, (hb.block _ (Array.getElem?_eq_some_iff.1 h.res).1).trans h.res, fun i x hi => keep_cell hb (h.lines i x hi), Nat.lt_of_lt_of_le h.lt hb.size⟩
/-- .. and the policy's own row. -/
structure PX (w : World) (r9 b off : Nat) (ls : List W8) (a : ACT) (sv : Value) (X : World) : Prop where
  base : PX0 w b off ls X
  row : X.heap[r9]? = some (.cells (polC sv a) 26 (0, 0))
  le : w.heap.size < r9 ∧ b < r9
theorem PX.lt {w : World} {r9 b off : Nat} {ls : List W8} {a : ACT} {sv : Value} {X : World} (h : PX w r9 b off ls a sv X) : r9 < X.heap.size := (Array.getElem?_eq_some_iff.1 h.row).1
theorem PX.heap {w : World} {r9 b off : Nat} {ls : List W8} {a : ACT} {sv : Value} {X Y : World} (h : PX w r9 b off ls a sv X) (ho : Y.os = X.os ∧ Y.tape = X.tape ∧ Y.output = X.output) (hs : X.heap.size ≤ Y.heap.size) (hb : ∀ k, k ≤ r9 → Y.heap[k]? = X.heap[k]?) : PX w r9 b off ls a sv Y := by
  have hl := h.le
  exact ⟨⟨h.base.below.trans ⟨ho.1, ho.2.1, ho.2.2, hs, fun k hk => hb k (by omega)⟩, (hb _ (by omega)).trans h.base.res, fun i x hi => (cell_heap (hb b (by omega)) _).trans (h.base.lines i x hi), Nat.lt_of_lt_of_le h.base.lt hs⟩, (hb r9 (Nat.le_refl _)).trans h.row, h.le⟩
theorem PX.on {w : World} {r9 b off : Nat} {ls : List W8} {a : ACT} {sv : Value} {X Y : World} (h : PX w r9 b off ls a sv X) (hb : Below X.heap.size X Y) : PX w r9 b off ls a sv Y := h.heap ⟨hb.os, hb.tape, hb.output⟩ hb.size fun k hk => hb.block k (by have := h.lt; omega)
theorem PX.set {w : World} {r9 b off : Nat} {ls : List W8} {a : ACT} {sv : Value} {X : World} (h : PX w r9 b off ls a sv X) (sv' : Value) : PX w r9 b off ls a sv' (X.setCell ⟨r9, 0, none⟩ sv') := by
  have hl := h.le
  rw [setCell_eq_setRow _ _ 0 _ _ _ _ h.row, show (polC sv a).setIfInBounds 0 sv' = polC sv' a from rfl]
  have hb : ∀ k, k ≠ r9 → (X.setRow r9 (polC sv' a)).heap[k]? = X.heap[k]? := fun k hk => row_heap X r9 k _ hk
  exact ⟨⟨h.base.below.trans ⟨rfl, rfl, rfl, by rw [row_size]; exact Nat.le_refl _, fun k hk => hb k (by omega)⟩, (hb _ (by omega)).trans h.base.res, fun i x hi => (cell_heap (hb b (by omega)) _).trans (h.base.lines i x hi), by rw [row_size]; exact h.base.lt⟩, setRow_heap _ _ _ _ _ _ h.row, h.le⟩
theorem pol_cells {W : World} {r : Nat} (h : W.heap[r]? = some (.cells #[.slice none 0 0, .int .i64 0, .int .i64 0] 26 (0, 0))) :
    W.cell? ⟨r, 0, none⟩ = some (.slice none 0 0) ∧ W.cell? ⟨r, 1, none⟩ = some (.int .i64 0) ∧ W.cell? ⟨r, 2, none⟩ = some (.int .i64 0) ∧ W.frozen? ⟨r, 0, none⟩ = false ∧ W.frozen? ⟨r, 1, none⟩ = false ∧ W.frozen? ⟨r, 2, none⟩ = false :=
  ⟨cell_of_row _ _ 0 _ _ _ h, cell_of_row _ _ 1 _ _ _ h, cell_of_row _ _ 2 _ _ _ h, frozen_of_row _ _ 0 _ _ h, frozen_of_row _ _ 1 _ _ h, frozen_of_row _ _ 2 _ _ h⟩
theorem pol_set3 {W : World} {r : Nat} (h : W.heap[r]? = some (.cells #[.slice none 0 0, .int .i64 0, .int .i64 0] 26 (0, 0))) (v0 v1 v2 : Value) :
    ((W.setCell ⟨r, 0, none⟩ v0).setCell ⟨r, 1, none⟩ v1).setCell ⟨r, 2, none⟩ v2 = W.setRow r #[v0, v1, v2] := by
  rw [setCell_eq_setRow _ _ 0 _ _ _ _ h, setCell_eq_setRow _ _ 1 _ _ _ _ (setRow_heap _ _ _ _ _ _ h), rule_twice _ _ _ _ _ _ h, setCell_eq_setRow _ _ 2 _ _ _ _ (setRow_heap _ _ _ _ _ _ h), rule_twice _ _ _ _ _ _ h]
  rfl
theorem last_of {ls : List W8} (_h : 0 < ls.length) : ls.getLast? = ls[ls.length - 1]? := List.getLast?_eq_getElem?
/-- The n-th line of a rule. -/
theorem rule_line {ls : List W8} {i : Nat} (h1 : 1 ≤ i) (h2 : i + 1 < ls.length) : ls.tail.dropLast[i - 1]? = ls[i]? := by
  rw [List.getElem?_dropLast, List.getElem?_tail, List.length_tail, if_pos (by omega), show i - 1 + 1 = i by omega]
end Go.Proofs.YtkogafponpjdnaaGreatDoor
