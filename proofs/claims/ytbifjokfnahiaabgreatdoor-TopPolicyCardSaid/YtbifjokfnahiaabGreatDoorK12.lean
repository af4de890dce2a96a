/- policy.Check: conds. -/
import Derived.Test.YtbifjokfnahiaabGreatDoorK10
import Derived.Test.YtbifjokfnahiaabGreatDoorK11
namespace Go.Proofs.YtbifjokfnahiaabGreatDoor
open Go.RowKit Go.Sort

theorem two_box (w : World) (x y : Array Value) (tx ty : TypeId) : ∃ V, V = (w.alloc (.cells x tx)).alloc (.cells y ty) ∧ Below w.heap.size w V ∧ (∀ j : Nat, V.cell? ⟨w.heap.size, j, none⟩ = x[j]?) ∧ (∀ j : Nat, V.cell? ⟨w.heap.size + 1, j, none⟩ = y[j]?) := by
  refine ⟨_, rfl, below_next (box_below w _) (box_below _ _), fun j => ?_, fun j => ?_⟩
  · rw [((bcell (box_below (w.alloc (.cells x tx)) (.cells y ty))).1 w.heap.size j (by rw [World.size_alloc]; omega)), World.cell?_alloc_new]
  · have h := World.cell?_alloc_new (w.alloc (.cells x tx)) y ty j
    rwa [World.size_alloc] at h

/-- glob.Check at any pattern. -/
theorem gparse_big (p : ByteArray) (h : 24 < p.size) (w : World) : Calls Tryz.prog 43 #[.string p] w fun e w' => e = .returned (.tuple #[.slice none 0 0, .iface 61 (.int .i64 2)]) ∧ Below w.heap.size w w' := by
  go_enter Tryz.func43, Tryz.ntmps43
  go_wp2
  go_ret2
  exact ⟨rfl, Below.refl _ _⟩
theorem gcheck_any (p : ByteArray) (w : World) : Calls Tryz.prog 34 #[.string p] w fun e w' => e = .returned (errV (globF p)) ∧ Below w.heap.size w w' := by
  by_cases h : 24 < p.size
  · have HE := hide (show errV (globF p) = .iface 61 (.int .i64 2) by
      unfold globF Gl.parseR
      rw [if_pos h]
      rfl)
    go_enter Tryz.func34, Tryz.ntmps34
    go_wp2_with (go_at_call 43; refine (gparse_big p h _).mono ?_; rintro e W ⟨rfl, hW⟩)
    go_ret
    exact ⟨by rw [HE.out]; rfl, hW⟩
  · refine (Gl.check_any p (by omega) w).mono ?_
    rintro e w' ⟨rfl, hb⟩
    refine ⟨?_, hb⟩
    unfold globF errV
    cases hp : Gl.parseR p with
    | inr ps => rfl
    | inl n =>
      have hn : n ≠ 0 := by
        unfold Gl.parseR at hp
        repeat' split at hp
        all_goals simp at hp
        all_goals omega
      simp only
      rw [if_neg hn]

theorem checkCond_bound (c : CD) (kv : Array Value) (w : World) (h : c.arg < 0 ∨ 3 < c.arg ∨ c.op < 1 ∨ 9 < c.op) : Calls Tryz.prog 21 #[condV c, .agg kv] w fun e w' => e = .returned (errV 1) ∧ Below w.heap.size w w' := by
  obtain ⟨arg, op, v, m, g, ⟨ip, b, lo, hi⟩⟩ := c
  unfold condV
  simp only at h ⊢
  go_enter Tryz.func21, Tryz.ntmps21
  go_wp2
  all_goals first
    | omega
    | (go_ret
       exact ⟨rfl, below_next (box_below _ _) (box_below _ _)⟩)

theorem kinds_at (nr a : Nat) (h : a ≤ 3) : (#[.int .i64 (kindAt nr 0 : Nat), .int .i64 (kindAt nr 1 : Nat), .int .i64 (kindAt nr 2 : Nat), .int .i64 (kindAt nr 3 : Nat)] : Array Value)[a]? = some (.int .i64 (kindAt nr a : Nat)) := by
  rcases (by omega : a = 0 ∨ a = 1 ∨ a = 2 ∨ a = 3) with rfl | rfl | rfl | rfl <;> rfl
end Go.Proofs.YtbifjokfnahiaabGreatDoor

/- policy.Check: conds, behind their bounds. -/
namespace Go.Proofs.YtbifjokfnahiaabGreatDoor
open Go.RowKit Go.Sort

set_option maxHeartbeats 4000000 in
theorem checkCond_kind (nr a : Nat) (ha : a ≤ 3) (op : Int) (v m : Nat) (g : ByteArray) (ip : Nat) (b lo hi : Int) (h1 : ¬ op < 1) (h9 : ¬ 9 < op) (w : World) (h : kindAt nr a ≠ kindOp op) :
    Calls Tryz.prog 21 #[condV ⟨a, op, v, m, g, ⟨ip, b, lo, hi⟩⟩, kindsV nr] w fun e w' => e = .returned (errV 3) ∧ Below w.heap.size w w' := by
  have HU := fun w => hasUnused_any ⟨a, op, v, m, g, ⟨ip, b, lo, hi⟩⟩ w
  obtain ⟨u, hu⟩ : ∃ u, u = decide (unusedP ⟨a, op, v, m, g, ⟨ip, b, lo, hi⟩⟩) := ⟨_, rfl⟩
  rw [← hu] at HU
  obtain ⟨ko, hko⟩ : ∃ k : Int, k = (kindOp op : Nat) := ⟨_, rfl⟩
  have HK := fun w => kindOf_any op w
  rw [← hko] at HK
  obtain ⟨ka, hka⟩ : ∃ k : Int, k = (kindAt nr a : Nat) := ⟨_, rfl⟩
  have hat := kinds_at nr a ha
  rw [← hka] at hat
  have hne : (ka != ko) = true := by rw [hka, hko, bne_iff_ne]; omega
  clear hu hko hka h
  unfold kindsV condV at *
  simp only at *
  have i1 : ¬ (a : Int) < 0 := by omega
  have i2 : ¬ (4 : Int) ≤ a := by omega
  have i3 : (0 : Int) ≤ a := by omega
  have i4 : (a : Int) < 4 := by omega
  go_enter Tryz.func21, Tryz.ntmps21
  go_wp2
  obtain ⟨V, hV, hB, hx, hy⟩ := two_box w #[.int .i64 a, .int .i64 op, .int .u64 v, .int .u64 m, .string g, .int .u32 ip, .int .i64 b, .int .i64 lo, .int .i64 hi] #[.int .i64 (kindAt nr 0 : Nat), .int .i64 (kindAt nr 1 : Nat), .int .i64 (kindAt nr 2 : Nat), .int .i64 (kindAt nr 3 : Nat)] 60 69
  rw [← hV]
  clear hV
  have HB := hide hB
  clear hB
  have g0 := cell_regrown (hx 0)
  have g1 := cell_regrown (hx 1)
  have g2 := cell_regrown (hx 2)
  have g3 := cell_regrown (hx 3)
  have g4 := cell_regrown (hx 4)
  have g5 := cell_regrown (hx 5)
  have g6 := cell_regrown (hx 6)
  have g7 := cell_regrown (hx 7)
  have g8 := cell_regrown (hx 8)
  have gk := cell_regrown ((hy a).trans hat)
  have cK : ∀ d os, Calls Tryz.prog 29 #[.int .i64 op] (grow (redrawn V d) os) fun e w'' => e = .returned (.int .i64 ko) ∧ ∃ p : Regrown, w'' = grow (redrawn V p.d) p.os := fun d os => regrown_same (HK _)
  have cU : ∀ d os, Calls Tryz.prog 33 #[.agg #[.int .i64 a, .int .i64 op, .int .u64 v, .int .u64 m, .string g, .int .u32 ip, .int .i64 b, .int .i64 lo, .int .i64 hi]] (grow (redrawn V d) os) fun e w'' => e = .returned (.bool u) ∧ ∃ p : Regrown, w'' = grow (redrawn V p.d) p.os := fun d os => Calls.regrown_of (HU _)
  clear hx hy hat HU HK
  refine wp_region_quiet_below (by kernel_rfl) (by kernel_rfl) ?_
  repeat (go_big_quiet_step (first | (go_at_call 29; exact cK _ _) | (go_at_call 33; exact cU _ _)))
  refine wpQuiet_nil ?_
  intro _ hw'
  obtain ⟨⟨dq, osq⟩, hw''⟩ := hw'
  subst hw''
  go_wp2
  go_ret
  exact ⟨rfl, HB.out.trans ((below_regrown V dq osq).mono HB.out.size)⟩

set_option maxHeartbeats 4000000 in
theorem checkCond_unused (nr a : Nat) (ha : a ≤ 3) (op : Int) (v m : Nat) (g : ByteArray) (ip : Nat) (b lo hi : Int) (h1 : ¬ op < 1) (h9 : ¬ 9 < op) (w : World) (hk : kindAt nr a = kindOp op) (h : unusedP ⟨a, op, v, m, g, ⟨ip, b, lo, hi⟩⟩) :
    Calls Tryz.prog 21 #[condV ⟨a, op, v, m, g, ⟨ip, b, lo, hi⟩⟩, kindsV nr] w fun e w' => e = .returned (errV 3) ∧ Below w.heap.size w w' := by
  have HU := fun w => hasUnused_any ⟨a, op, v, m, g, ⟨ip, b, lo, hi⟩⟩ w
  obtain ⟨u, hu⟩ : ∃ u, u = decide (unusedP ⟨a, op, v, m, g, ⟨ip, b, lo, hi⟩⟩) := ⟨_, rfl⟩
  rw [← hu] at HU
  obtain ⟨ko, hko⟩ : ∃ k : Int, k = (kindOp op : Nat) := ⟨_, rfl⟩
  have HK := fun w => kindOf_any op w
  rw [← hko] at HK
  obtain ⟨ka, hka⟩ : ∃ k : Int, k = (kindAt nr a : Nat) := ⟨_, rfl⟩
  have hat := kinds_at nr a ha
  rw [← hka] at hat
  have hne : ko = ka := by rw [hka, hko, hk]
  subst hne
  have hut : u = true := by rw [hu]; exact decide_eq_true h
  subst hut
  clear hu hko hka h hk
  have hnn : (ko != ko) = false := by simp
  unfold kindsV condV at *
  simp only at *
  have i1 : ¬ (a : Int) < 0 := by omega
  have i2 : ¬ (4 : Int) ≤ a := by omega
  have i3 : (0 : Int) ≤ a := by omega
  have i4 : (a : Int) < 4 := by omega
  go_enter Tryz.func21, Tryz.ntmps21
  go_wp2
  obtain ⟨V, hV, hB, hx, hy⟩ := two_box w #[.int .i64 a, .int .i64 op, .int .u64 v, .int .u64 m, .string g, .int .u32 ip, .int .i64 b, .int .i64 lo, .int .i64 hi] #[.int .i64 (kindAt nr 0 : Nat), .int .i64 (kindAt nr 1 : Nat), .int .i64 (kindAt nr 2 : Nat), .int .i64 (kindAt nr 3 : Nat)] 60 69
  rw [← hV]
  clear hV
  have HB := hide hB
  clear hB
  have g0 := cell_regrown (hx 0)
  have g1 := cell_regrown (hx 1)
  have g2 := cell_regrown (hx 2)
  have g3 := cell_regrown (hx 3)
  have g4 := cell_regrown (hx 4)
  have g5 := cell_regrown (hx 5)
  have g6 := cell_regrown (hx 6)
  have g7 := cell_regrown (hx 7)
  have g8 := cell_regrown (hx 8)
  have gk := cell_regrown ((hy a).trans hat)
  have cK : ∀ d os, Calls Tryz.prog 29 #[.int .i64 op] (grow (redrawn V d) os) fun e w'' => e = .returned (.int .i64 ko) ∧ ∃ p : Regrown, w'' = grow (redrawn V p.d) p.os := fun d os => regrown_same (HK _)
  have cU : ∀ d os, Calls Tryz.prog 33 #[.agg #[.int .i64 a, .int .i64 op, .int .u64 v, .int .u64 m, .string g, .int .u32 ip, .int .i64 b, .int .i64 lo, .int .i64 hi]] (grow (redrawn V d) os) fun e w'' => e = .returned (.bool true) ∧ ∃ p : Regrown, w'' = grow (redrawn V p.d) p.os := fun d os => Calls.regrown_of (HU _)
  clear hx hy hat HU HK
  refine wp_region_quiet_below (by kernel_rfl) (by kernel_rfl) ?_
  repeat (go_big_quiet_step (first | (go_at_call 29; exact cK _ _) | (go_at_call 33; exact cU _ _)))
  refine wpQuiet_nil ?_
  intro _ hw'
  obtain ⟨⟨dq, osq⟩, hw''⟩ := hw'
  subst hw''
  go_wp2
  go_ret
  exact ⟨rfl, HB.out.trans ((below_regrown V dq osq).mono HB.out.size)⟩

set_option maxHeartbeats 4000000 in
theorem checkCond_like (nr a : Nat) (ha : a ≤ 3) (v m : Nat) (g : ByteArray) (ip : Nat) (b lo hi : Int) (_hc : CdOk ⟨a, 8, v, m, g, ⟨ip, b, lo, hi⟩⟩)  (w : World) (hk : kindAt nr a = kindOp 8) (h : ¬ unusedP ⟨a, 8, v, m, g, ⟨ip, b, lo, hi⟩⟩) :
    Calls Tryz.prog 21 #[condV ⟨a, 8, v, m, g, ⟨ip, b, lo, hi⟩⟩, kindsV nr] w fun e w' => e = .returned (errV (globF g)) ∧ Below w.heap.size w w' := by
  have HU := fun w => hasUnused_any ⟨a, 8, v, m, g, ⟨ip, b, lo, hi⟩⟩ w
  obtain ⟨u, hu⟩ : ∃ u, u = decide (unusedP ⟨a, 8, v, m, g, ⟨ip, b, lo, hi⟩⟩) := ⟨_, rfl⟩
  rw [← hu] at HU
  obtain ⟨ko, hko⟩ : ∃ k : Int, k = (kindOp 8 : Nat) := ⟨_, rfl⟩
  have HK := fun w => kindOf_any 8 w
  rw [← hko] at HK
  obtain ⟨ka, hka⟩ : ∃ k : Int, k = (kindAt nr a : Nat) := ⟨_, rfl⟩
  have hat := kinds_at nr a ha
  rw [← hka] at hat
  have hne : ko = ka := by rw [hka, hko, hk]
  subst hne
  have hut : u = false := by rw [hu]; exact decide_eq_false h
  subst hut
  clear hu hko hka h hk
  have hnn : (ko != ko) = false := by simp
  unfold kindsV condV at *
  simp only at *
  have i1 : ¬ (a : Int) < 0 := by omega
  have i2 : ¬ (4 : Int) ≤ a := by omega
  have i3 : (0 : Int) ≤ a := by omega
  have i4 : (a : Int) < 4 := by omega
  go_enter Tryz.func21, Tryz.ntmps21
  go_wp2
  obtain ⟨V, hV, hB, hx, hy⟩ := two_box w #[.int .i64 a, .int .i64 8, .int .u64 v, .int .u64 m, .string g, .int .u32 ip, .int .i64 b, .int .i64 lo, .int .i64 hi] #[.int .i64 (kindAt nr 0 : Nat), .int .i64 (kindAt nr 1 : Nat), .int .i64 (kindAt nr 2 : Nat), .int .i64 (kindAt nr 3 : Nat)] 60 69
  rw [← hV]
  clear hV
  have HB := hide hB
  clear hB
  have g0 := cell_regrown (hx 0)
  have g1 := cell_regrown (hx 1)
  have g2 := cell_regrown (hx 2)
  have g3 := cell_regrown (hx 3)
  have g4 := cell_regrown (hx 4)
  have g5 := cell_regrown (hx 5)
  have g6 := cell_regrown (hx 6)
  have g7 := cell_regrown (hx 7)
  have g8 := cell_regrown (hx 8)
  have gk := cell_regrown ((hy a).trans hat)
  have cK : ∀ d os, Calls Tryz.prog 29 #[.int .i64 8] (grow (redrawn V d) os) fun e w'' => e = .returned (.int .i64 ko) ∧ ∃ p : Regrown, w'' = grow (redrawn V p.d) p.os := fun d os => regrown_same (HK _)
  have cU : ∀ d os, Calls Tryz.prog 33 #[.agg #[.int .i64 a, .int .i64 8, .int .u64 v, .int .u64 m, .string g, .int .u32 ip, .int .i64 b, .int .i64 lo, .int .i64 hi]] (grow (redrawn V d) os) fun e w'' => e = .returned (.bool false) ∧ ∃ p : Regrown, w'' = grow (redrawn V p.d) p.os := fun d os => Calls.regrown_of (HU _)
  clear hx hy hat HU HK
  refine wp_region_quiet_below (by kernel_rfl) (by kernel_rfl) ?_
  repeat (go_big_quiet_step (first | (go_at_call 29; exact cK _ _) | (go_at_call 33; exact cU _ _)))
  refine wpQuiet_nil ?_
  intro _ hw'
  obtain ⟨⟨dq, osq⟩, hw''⟩ := hw'
  subst hw''
  have HE := gcheck_any g
  go_wp2_with (go_at_call 34; refine (HE _).mono ?_; rintro e W2 ⟨rfl, hb2⟩)
  go_ret
  exact ⟨rfl, below_next (HB.out.trans ((below_regrown V dq osq).mono HB.out.size)) hb2⟩

set_option maxHeartbeats 4000000 in
theorem checkCond_net (nr a : Nat) (ha : a ≤ 3) (v m : Nat) (g : ByteArray) (ip : Nat) (b lo hi : Int) (hc : CdOk ⟨a, 9, v, m, g, ⟨ip, b, lo, hi⟩⟩)  (w : World) (hk : kindAt nr a = kindOp 9) (h : ¬ unusedP ⟨a, 9, v, m, g, ⟨ip, b, lo, hi⟩⟩) :
    Calls Tryz.prog 21 #[condV ⟨a, 9, v, m, g, ⟨ip, b, lo, hi⟩⟩, kindsV nr] w fun e w' => e = .returned (errV (faultOf ip b lo hi)) ∧ Below w.heap.size w w' := by
  have HU := fun w => hasUnused_any ⟨a, 9, v, m, g, ⟨ip, b, lo, hi⟩⟩ w
  obtain ⟨u, hu⟩ : ∃ u, u = decide (unusedP ⟨a, 9, v, m, g, ⟨ip, b, lo, hi⟩⟩) := ⟨_, rfl⟩
  rw [← hu] at HU
  obtain ⟨ko, hko⟩ : ∃ k : Int, k = (kindOp 9 : Nat) := ⟨_, rfl⟩
  have HK := fun w => kindOf_any 9 w
  rw [← hko] at HK
  obtain ⟨ka, hka⟩ : ∃ k : Int, k = (kindAt nr a : Nat) := ⟨_, rfl⟩
  have hat := kinds_at nr a ha
  rw [← hka] at hat
  have hne : ko = ka := by rw [hka, hko, hk]
  subst hne
  have hut : u = false := by rw [hu]; exact decide_eq_false h
  subst hut
  clear hu hko hka h hk
  have hnn : (ko != ko) = false := by simp
  unfold kindsV condV at *
  simp only at *
  have i1 : ¬ (a : Int) < 0 := by omega
  have i2 : ¬ (4 : Int) ≤ a := by omega
  have i3 : (0 : Int) ≤ a := by omega
  have i4 : (a : Int) < 4 := by omega
  go_enter Tryz.func21, Tryz.ntmps21
  go_wp2
  obtain ⟨V, hV, hB, hx, hy⟩ := two_box w #[.int .i64 a, .int .i64 9, .int .u64 v, .int .u64 m, .string g, .int .u32 ip, .int .i64 b, .int .i64 lo, .int .i64 hi] #[.int .i64 (kindAt nr 0 : Nat), .int .i64 (kindAt nr 1 : Nat), .int .i64 (kindAt nr 2 : Nat), .int .i64 (kindAt nr 3 : Nat)] 60 69
  rw [← hV]
  clear hV
  have HB := hide hB
  clear hB
  have g0 := cell_regrown (hx 0)
  have g1 := cell_regrown (hx 1)
  have g2 := cell_regrown (hx 2)
  have g3 := cell_regrown (hx 3)
  have g4 := cell_regrown (hx 4)
  have g5 := cell_regrown (hx 5)
  have g6 := cell_regrown (hx 6)
  have g7 := cell_regrown (hx 7)
  have g8 := cell_regrown (hx 8)
  have gk := cell_regrown ((hy a).trans hat)
  have cK : ∀ d os, Calls Tryz.prog 29 #[.int .i64 9] (grow (redrawn V d) os) fun e w'' => e = .returned (.int .i64 ko) ∧ ∃ p : Regrown, w'' = grow (redrawn V p.d) p.os := fun d os => regrown_same (HK _)
  have cU : ∀ d os, Calls Tryz.prog 33 #[.agg #[.int .i64 a, .int .i64 9, .int .u64 v, .int .u64 m, .string g, .int .u32 ip, .int .i64 b, .int .i64 lo, .int .i64 hi]] (grow (redrawn V d) os) fun e w'' => e = .returned (.bool false) ∧ ∃ p : Regrown, w'' = grow (redrawn V p.d) p.os := fun d os => Calls.regrown_of (HU _)
  clear hx hy hat HU HK
  refine wp_region_quiet_below (by kernel_rfl) (by kernel_rfl) ?_
  repeat (go_big_quiet_step (first | (go_at_call 29; exact cK _ _) | (go_at_call 33; exact cU _ _)))
  refine wpQuiet_nil ?_
  intro _ hw'
  obtain ⟨⟨dq, osq⟩, hw''⟩ := hw'
  subst hw''
  have HE := acheck_any ip hc.net.ip b lo hi hc.net.bits hc.net.lo hc.net.hi
  go_wp2_with (go_at_call 35; refine (HE _).mono ?_; rintro e W2 ⟨rfl, hb2⟩)
  go_ret
  exact ⟨rfl, below_next (HB.out.trans ((below_regrown V dq osq).mono HB.out.size)) hb2⟩

set_option maxHeartbeats 4000000 in
theorem checkCond_num (nr a : Nat) (ha : a ≤ 3) (op : Int) (v m : Nat) (g : ByteArray) (ip : Nat) (b lo hi : Int) (h1 : ¬ op < 1) (h9 : ¬ 9 < op) (_hc : CdOk ⟨a, op, v, m, g, ⟨ip, b, lo, hi⟩⟩) (h8 : ¬ op = 8) (h9n : ¬ op = 9) (w : World) (hk : kindAt nr a = kindOp op) (h : ¬ unusedP ⟨a, op, v, m, g, ⟨ip, b, lo, hi⟩⟩) :
    Calls Tryz.prog 21 #[condV ⟨a, op, v, m, g, ⟨ip, b, lo, hi⟩⟩, kindsV nr] w fun e w' => e = .returned (errV 0) ∧ Below w.heap.size w w' := by
  have HU := fun w => hasUnused_any ⟨a, op, v, m, g, ⟨ip, b, lo, hi⟩⟩ w
  obtain ⟨u, hu⟩ : ∃ u, u = decide (unusedP ⟨a, op, v, m, g, ⟨ip, b, lo, hi⟩⟩) := ⟨_, rfl⟩
  rw [← hu] at HU
  obtain ⟨ko, hko⟩ : ∃ k : Int, k = (kindOp op : Nat) := ⟨_, rfl⟩
  have HK := fun w => kindOf_any op w
  rw [← hko] at HK
  obtain ⟨ka, hka⟩ : ∃ k : Int, k = (kindAt nr a : Nat) := ⟨_, rfl⟩
  have hat := kinds_at nr a ha
  rw [← hka] at hat
  have hne : ko = ka := by rw [hka, hko, hk]
  subst hne
  have hut : u = false := by rw [hu]; exact decide_eq_false h
  subst hut
  clear hu hko hka h hk
  have hnn : (ko != ko) = false := by simp
  unfold kindsV condV at *
  simp only at *
  have i1 : ¬ (a : Int) < 0 := by omega
  have i2 : ¬ (4 : Int) ≤ a := by omega
  have i3 : (0 : Int) ≤ a := by omega
  have i4 : (a : Int) < 4 := by omega
  go_enter Tryz.func21, Tryz.ntmps21
  go_wp2
  obtain ⟨V, hV, hB, hx, hy⟩ := two_box w #[.int .i64 a, .int .i64 op, .int .u64 v, .int .u64 m, .string g, .int .u32 ip, .int .i64 b, .int .i64 lo, .int .i64 hi] #[.int .i64 (kindAt nr 0 : Nat), .int .i64 (kindAt nr 1 : Nat), .int .i64 (kindAt nr 2 : Nat), .int .i64 (kindAt nr 3 : Nat)] 60 69
  rw [← hV]
  clear hV
  have HB := hide hB
  clear hB
  have g0 := cell_regrown (hx 0)
  have g1 := cell_regrown (hx 1)
  have g2 := cell_regrown (hx 2)
  have g3 := cell_regrown (hx 3)
  have g4 := cell_regrown (hx 4)
  have g5 := cell_regrown (hx 5)
  have g6 := cell_regrown (hx 6)
  have g7 := cell_regrown (hx 7)
  have g8 := cell_regrown (hx 8)
  have gk := cell_regrown ((hy a).trans hat)
  have cK : ∀ d os, Calls Tryz.prog 29 #[.int .i64 op] (grow (redrawn V d) os) fun e w'' => e = .returned (.int .i64 ko) ∧ ∃ p : Regrown, w'' = grow (redrawn V p.d) p.os := fun d os => regrown_same (HK _)
  have cU : ∀ d os, Calls Tryz.prog 33 #[.agg #[.int .i64 a, .int .i64 op, .int .u64 v, .int .u64 m, .string g, .int .u32 ip, .int .i64 b, .int .i64 lo, .int .i64 hi]] (grow (redrawn V d) os) fun e w'' => e = .returned (.bool false) ∧ ∃ p : Regrown, w'' = grow (redrawn V p.d) p.os := fun d os => Calls.regrown_of (HU _)
  clear hx hy hat HU HK
  refine wp_region_quiet_below (by kernel_rfl) (by kernel_rfl) ?_
  repeat (go_big_quiet_step (first | (go_at_call 29; exact cK _ _) | (go_at_call 33; exact cU _ _)))
  refine wpQuiet_nil ?_
  intro _ hw'
  obtain ⟨⟨dq, osq⟩, hw''⟩ := hw'
  subst hw''
  clear _hc
  go_wp2
  go_ret
  exact ⟨rfl, HB.out.trans ((below_regrown V dq osq).mono HB.out.size)⟩

theorem checkCond_any (nr : Nat) (c : CD) (hc : CdOk c) (w : World) : Calls Tryz.prog 21 #[condV c, kindsV nr] w fun e w' => e = .returned (errV (condF nr c)) ∧ Below w.heap.size w w' := by
  by_cases h : c.arg < 0 ∨ 3 < c.arg ∨ c.op < 1 ∨ 9 < c.op
  · rw [show condF nr c = 1 from if_pos h]
    exact checkCond_bound c _ w h
  have hf : condF nr c = if kindAt nr c.arg.toNat ≠ kindOp c.op ∨ unusedP c then 3 else if c.op = 8 then globF c.glob else if c.op = 9 then netF c.net else 0 := if_neg h
  obtain ⟨arg, op, v, m, g, ⟨ip, b, lo, hi⟩⟩ := c
  simp only [not_or] at h hf
  obtain ⟨a, rfl⟩ : ∃ a : Nat, arg = a := ⟨arg.toNat, by omega⟩
  have ha : a ≤ 3 := by omega
  rw [Int.toNat_natCast] at hf
  by_cases hk : kindAt nr a = kindOp op
  · by_cases hu : unusedP ⟨a, op, v, m, g, ⟨ip, b, lo, hi⟩⟩
    · rw [hf, if_pos (.inr hu)]
      exact checkCond_unused nr a ha op v m g ip b lo hi h.2.2.1 h.2.2.2 w hk hu
    · rw [if_neg (by rw [not_or]; exact ⟨fun hc => hc hk, hu⟩)] at hf
      by_cases h8 : op = 8
      · rw [hf, if_pos h8]
        subst h8
        exact checkCond_like nr a ha v m g ip b lo hi hc w hk hu
      · by_cases h9 : op = 9
        · rw [hf, if_neg h8, if_pos h9]
          subst h9
          exact checkCond_net nr a ha v m g ip b lo hi hc w hk hu
        · rw [hf, if_neg h8, if_neg h9]
          exact checkCond_num nr a ha op v m g ip b lo hi h.2.2.1 h.2.2.2 hc h8 h9 w hk hu
  · rw [hf, if_pos (.inl hk)]
    exact checkCond_kind nr a ha op v m g ip b lo hi h.2.2.1 h.2.2.2 w hk
end Go.Proofs.YtbifjokfnahiaabGreatDoor
