/- The document's PolicyFault. -/
import Derived.Test.YtklibmijiecbfaaGreatK19
import Derived.Test.YtklibmijiecbfaaGreatK24
import Derived.Test.YtklibmijiecbfaaGreatK7
import Derived.Test.YtklibmijiecbfaaGreatK9
namespace Go.Proofs.YtklibmijiecbfaaGreat
open Go.RowKit Go.Sort

set_option maxHeartbeats 1000000 in
theorem dactF_any (a : ACT) (w : World) : Calls Tryz.prog 22 #[actV a] w fun e w' => e = .returned (.int .i64 (actF a)) ∧ Below w.heap.size w w' := by
  obtain ⟨k, e⟩ := a
  have HF := hide (show actF ⟨k, e⟩ = if k ≠ 1 ∧ k ≠ 2 ∧ k ≠ 3 then 3 else if k ≠ 2 ∧ e ≠ 0 then 3 else if k = 2 ∧ (e < 1 ∨ 255 < e) then 1 else 0 from rfl)
  obtain ⟨f, hf⟩ : ∃ f, f = actF ⟨k, e⟩ := ⟨_, rfl⟩
  rw [← hf] at HF ⊢
  clear hf
  unfold actV
  simp only
  by_cases h2 : k = 2
  · subst h2
    have HF2 := hide (show f = if e < 1 ∨ 255 < e then 1 else 0 by rw [HF.out, if_neg (by omega), if_neg (by omega)]; simp)
    clear HF
    by_cases h1 : e < 1
    · have HF3 := hide (show (f : Int) = 1 by rw [HF2.out, if_pos (by omega)]; rfl)
      clear HF2
      go_enter Tryz.func22, Tryz.ntmps22
      go_wp2
      go_ret
      exact ⟨by rw [HF3.out]; rfl, box_below _ _⟩
    · by_cases h5 : 255 < e
      · have HF3 := hide (show (f : Int) = 1 by rw [HF2.out, if_pos (by omega)]; rfl)
        clear HF2
        go_enter Tryz.func22, Tryz.ntmps22
        go_wp2
        go_ret
        exact ⟨by rw [HF3.out]; rfl, box_below _ _⟩
      · have HF3 := hide (show (f : Int) = 0 by rw [HF2.out, if_neg (by omega)]; rfl)
        clear HF2
        go_enter Tryz.func22, Tryz.ntmps22
        go_wp2
        go_ret
        exact ⟨by rw [HF3.out]; rfl, box_below _ _⟩
  · by_cases h0 : e = 0
    · subst h0
      by_cases h1 : k = 1
      · subst h1
        have HF3 := hide (show (f : Int) = 0 by rw [HF.out]; rfl)
        clear HF
        go_enter Tryz.func22, Tryz.ntmps22
        go_wp2
        go_ret
        exact ⟨by rw [HF3.out]; rfl, box_below _ _⟩
      · by_cases h3 : k = 3
        · subst h3
          have HF3 := hide (show (f : Int) = 0 by rw [HF.out]; rfl)
          clear HF
          go_enter Tryz.func22, Tryz.ntmps22
          go_wp2
          go_ret
          exact ⟨by rw [HF3.out]; rfl, box_below _ _⟩
        · have HF3 := hide (show (f : Int) = 3 by rw [HF.out, if_pos ⟨h1, h2, h3⟩]; rfl)
          clear HF
          go_enter Tryz.func22, Tryz.ntmps22
          go_wp2
          go_ret
          exact ⟨by rw [HF3.out]; rfl, box_below _ _⟩
    · have HF3 := hide (show (f : Int) = 3 by
        rw [HF.out]
        by_cases h : k ≠ 1 ∧ k ≠ 2 ∧ k ≠ 3
        · rw [if_pos h]; rfl
        · rw [if_neg h, if_pos ⟨h2, h0⟩]; rfl)
      clear HF
      go_enter Tryz.func22, Tryz.ntmps22
      go_wp2
      all_goals
        go_ret
        exact ⟨by rw [HF3.out]; rfl, box_below _ _⟩

theorem dglobF_any (p : ByteArray) (w : World) : Calls Tryz.prog 45 #[.string p] w fun e w' => e = .returned (.int .i64 (globF p)) ∧ Below w.heap.size w w' := by
  by_cases h : 24 < p.size
  · have HE := hide (show (globF p : Int) = 2 by
      unfold globF Gl.parseR
      rw [if_pos h]
      rfl)
    go_enter Tryz.func45, Tryz.ntmps45
    go_wp2
    go_ret
    exact ⟨by rw [HE.out]; rfl, Below.refl _ _⟩
  · refine (Gl.globFault_any p (by omega) w).mono ?_
    rintro e w' ⟨rfl, hb⟩
    refine ⟨?_, hb⟩
    unfold globF Gl.faultR
    cases hp : Gl.parseR p with
    | inr ps => rfl
    | inl n => rfl

theorem dcondF_bound (nr : Int) (c : CD) (w : World) (h : c.arg < 0 ∨ 3 < c.arg ∨ c.op < 1 ∨ 9 < c.op) : Calls Tryz.prog 23 #[.int .i64 nr, condV c] w fun e w' => e = .returned (.int .i64 1) ∧ Below w.heap.size w w' := by
  obtain ⟨arg, op, v, m, g, ⟨ip, b, lo, hi⟩⟩ := c
  unfold condV
  simp only at h ⊢
  go_enter Tryz.func23, Tryz.ntmps23
  go_wp2
  all_goals first
    | omega
    | (go_ret
       exact ⟨rfl, box_below _ _⟩)

set_option maxHeartbeats 4000000 in
set_option maxRecDepth 100000 in
theorem dcondF_kind (nr a : Nat) (hnr : nr < 9) (ha : a ≤ 3) (op : Int) (v m : Nat) (g : ByteArray) (ip : Nat) (b lo hi : Int) (h1 : ¬ op < 1) (h9 : ¬ 9 < op) (w : World) (h : kindAt nr a ≠ kindOp op) :
    Calls Tryz.prog 23 #[.int .i64 nr, condV ⟨a, op, v, m, g, ⟨ip, b, lo, hi⟩⟩] w fun e w' => e = .returned (.int .i64 3) ∧ Below w.heap.size w w' := by
  have HK := fun X => dkind_any nr a hnr (by omega) X
  obtain ⟨ka, hka⟩ : ∃ k, k = kindAt nr a := ⟨_, rfl⟩
  rw [← hka] at HK h
  clear hka
  unfold condV
  simp only
  have i1 : ¬ (a : Int) < 0 := by omega
  have i2 : ¬ 3 < (a : Int) := by omega
  by_cases h8 : op = 8
  · subst h8
    have hne : ¬ (ka : Int) = 2 := by unfold kindOp at h; simp at h; omega
    have hnb : ((ka : Int) != 2) = true := by simpa using hne
    go_enter Tryz.func23, Tryz.ntmps23
    go_wp2_with (go_at_call 44; refine (HK _).mono ?_; rintro e X ⟨rfl, rfl⟩)
    go_ret
    exact ⟨rfl, below_next (box_below _ _) (box_below _ _)⟩
  by_cases h9 : op = 9
  · subst h9
    have hne : ¬ (ka : Int) = 3 := by unfold kindOp at h; simp at h; omega
    have hnb : ((ka : Int) != 3) = true := by simpa using hne
    go_enter Tryz.func23, Tryz.ntmps23
    go_wp2_with (go_at_call 44; refine (HK _).mono ?_; rintro e X ⟨rfl, rfl⟩)
    go_ret
    exact ⟨rfl, below_next (box_below _ _) (box_below _ _)⟩
  · have hne : ¬ (ka : Int) = 1 := by unfold kindOp at h; rw [if_neg h8, if_neg h9] at h; omega
    have hnb : ((ka : Int) != 1) = true := by simpa using hne
    go_enter Tryz.func23, Tryz.ntmps23
    go_wp2_with (go_at_call 44; refine (HK _).mono ?_; rintro e X ⟨rfl, rfl⟩)
    go_ret
    exact ⟨rfl, below_next (box_below _ _) (box_below _ _)⟩
end Go.Proofs.YtklibmijiecbfaaGreat
