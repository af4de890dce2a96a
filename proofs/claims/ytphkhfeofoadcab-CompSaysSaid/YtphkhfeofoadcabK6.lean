/- comp.condCode. -/
import Derived.Test.YtphkhfeofoadcabK5
import Derived.Deep.RegionLaw
import Derived.Deep.RegionHeld3
import Derived.Deep.DeepMust
import Derived.Test.YtphkhfeofoadcabK4
import Derived.BigQuiet
namespace Go.Proofs.Ytphkhfeofoadcab
open Go.RowKit Go.Sort
open Bp (IN InOk)

/-- The boxes of a cond and of a branch. -/
structure CB (w : World) (c : CD) (B : Int) (T : Bool) (X : World) : Prop where
  below : Below w.heap.size w X
  cond : X.heap[w.heap.size]? = some (.cells (condC c) 62 (0, 0))
  br : X.heap[w.heap.size + 1]? = some (.cells #[.int .i64 B, .bool T] 82 (0, 0))
theorem CB.lt {w : World} {c : CD} {B : Int} {T : Bool} {X : World} (h : CB w c B T X) : w.heap.size + 1 < X.heap.size := (Array.getElem?_eq_some_iff.1 h.br).1
theorem CB.on {w : World} {c : CD} {B : Int} {T : Bool} {X Y : World} (h : CB w c B T X) (hb : Below X.heap.size X Y) : CB w c B T Y :=
  ⟨h.below.trans (hb.mono h.below.size), (hb.block _ (by have := h.lt; omega)).trans h.cond, (hb.block _ h.lt).trans h.br⟩
theorem CB.grown {w : World} {c : CD} {B : Int} {T : Bool} {X Y : World} {g : Nat} (h : CB w c B T X) (hg : X.grownBy Y (some g)) (hlt : w.heap.size + 2 ≤ g) : CB w c B T Y :=
  have hl := h.lt
  ⟨h.below.trans ⟨hg.os, hg.tape, hg.output, hg.size, fun k hk => hg.block k (by omega) (fun e => by injection e; omega)⟩, (hg.block _ (by omega) (fun e => by injection e; omega)).trans h.cond, (hg.block _ (by omega) (fun e => by injection e; omega)).trans h.br⟩
theorem CB.start (w : World) (c : CD) (B : Int) (T : Bool) : CB w c B T ((w.alloc (.cells (condC c) 62)).alloc (.cells #[.int .i64 B, .bool T] 82)) := by
  have h := heap_alloc_new (w.alloc (.cells (condC c) 62)) (.cells #[.int .i64 B, .bool T] 82)
  rw [World.size_alloc] at h
  exact ⟨below_next (box_below _ _) (box_below _ _), ((box_below (w.alloc (.cells (condC c) 62)) _).block _ (by rw [World.size_alloc]; omega)).trans (heap_alloc_new w _), h⟩
theorem CB.v {w : World} {c : CD} {B : Int} {T : Bool} {X : World} (h : CB w c B T X) : X.cell? ⟨w.heap.size, 2, none⟩ = some (.int .u64 c.v) := cell_of_row _ _ 2 _ _ _ h.cond
theorem CB.b {w : World} {c : CD} {B : Int} {T : Bool} {X : World} (h : CB w c B T X) : X.cell? ⟨w.heap.size + 1, 0, none⟩ = some (.int .i64 B) := cell_of_row _ _ 0 _ _ _ h.br
theorem CB.t {w : World} {c : CD} {B : Int} {T : Bool} {X : World} (h : CB w c B T X) : X.cell? ⟨w.heap.size + 1, 1, none⟩ = some (.bool T) := cell_of_row _ _ 1 _ _ _ h.br
theorem CB.cells {w : World} {c : CD} {B : Int} {T : Bool} {X : World} (h : CB w c B T X) : ∀ j : Nat, X.cell? ⟨w.heap.size, j, none⟩ = (condC c)[j]? := fun j => cell_of_row _ _ j _ _ _ h.cond

theorem gt_cells (n0 y vh : Nat) (j : Int) (hj : j = 1 + ((n0 : Int) + 1) + y) : [Value.int .i64 5, .int .i64 j, .int .i64 0, .int .u32 vh] = flatL [⟨5, ((1 + (n0 + 1) + y : Nat)), 0, vh⟩] := by
  rw [show ((1 + (n0 + 1) + y : Nat) : Int) = j by omega]
  rfl

set_option maxHeartbeats 4000000 in
set_option maxRecDepth 20000 in
theorem condCode_any (c : CD) (hc : CdOk c) (ha : 0 ≤ c.arg ∧ c.arg ≤ 3) (over : Nat) (ho : over ≤ 200) (w : World) : Calls Try.prog 30 #[condV c, brV c.op, .int .i64 over] w fun e w' => (∃ g cap, e = .returned (.slice (some ⟨g, 0, none⟩) (condP c over).length cap) ∧ Own w.heap.size g cap (condP c over) w') ∧ Below w.heap.size w w' := by
  have HL0 := fun W => loadCode_any c hc 0 ha (by decide) W
  have HL1 := fun W => loadCode_any c hc 1 ha (by decide) W
  have HV0 := half_any c.v 0 hc.v (by decide)
  have HV1 := half_any c.v 1 hc.v (by decide)
  have hb3 := brOp_cases c.op
  have HCP := hide (show condP c over = (loadP c 1 ++ (gtP c over ++ [⟨4, 0, ((lowP c over).length + noN c over : Nat), halfN c.v 1⟩])) ++ lowP c over from rfl)
  have HLP := hide (show lowP c over = loadP c 0 ++ [⟨brOp c.op, (yesN c over : Nat), (noN c over : Nat), halfN c.v 0⟩] from rfl)
  have HGP := hide (show gtP c over = if brOp c.op = 4 then [] else [⟨5, (1 + (lowP c over).length + yesN c over : Nat), 0, halfN c.v 1⟩] from rfl)
  have HY := hide (show yesN c over = if brTurn c.op then over else 0 from rfl)
  have HN := hide (show noN c over = if brTurn c.op then 0 else over from rfl)
  have hn0 : (loadP c 0).length ≤ 2 := by rw [loadP_len]; split <;> omega
  have hn1 : (loadP c 1).length ≤ 2 := by rw [loadP_len]; split <;> omega
  unfold brV
  obtain ⟨vl, hvl⟩ : ∃ x, x = halfN c.v 0 := ⟨_, rfl⟩
  obtain ⟨vh, hvh⟩ : ∃ x, x = halfN c.v 1 := ⟨_, rfl⟩
  rw [← hvl] at HV0 HLP
  rw [← hvh] at HV1 HCP HGP
  obtain ⟨B, hB⟩ : ∃ x, x = brOp c.op := ⟨_, rfl⟩
  obtain ⟨T, hT⟩ : ∃ x, x = brTurn c.op := ⟨_, rfl⟩
  rw [← hB] at hb3 HLP HGP
  rw [← hT] at HY HN
  rw [← hB, ← hT]
  obtain ⟨l0, hl0⟩ : ∃ x, x = loadP c 0 := ⟨_, rfl⟩
  obtain ⟨l1, hl1⟩ : ∃ x, x = loadP c 1 := ⟨_, rfl⟩
  obtain ⟨lo, hlo⟩ : ∃ x, x = lowP c over := ⟨_, rfl⟩
  obtain ⟨gt, hgt⟩ : ∃ x, x = gtP c over := ⟨_, rfl⟩
  obtain ⟨yes, hyes⟩ : ∃ x, x = yesN c over := ⟨_, rfl⟩
  obtain ⟨no, hno⟩ : ∃ x, x = noN c over := ⟨_, rfl⟩
  obtain ⟨cp, hcp⟩ : ∃ x, x = condP c over := ⟨_, rfl⟩
  rw [← hl0] at HL0 HLP hn0
  rw [← hl1] at HL1 HCP hn1
  rw [← hlo] at HCP HLP HGP
  rw [← hgt] at HCP HGP
  rw [← hyes] at HLP HGP HY
  rw [← hno] at HCP HLP HN
  rw [← hcp] at HCP ⊢
  have hy2 : yes ≤ 200 := by rw [HY.out]; split <;> omega
  have hno2 : no ≤ 200 := by rw [HN.out]; split <;> omega
  obtain ⟨n0, hn0e⟩ : ∃ n, n = l0.length := ⟨_, rfl⟩
  obtain ⟨n1, hn1e⟩ : ∃ n, n = l1.length := ⟨_, rfl⟩
  rw [← hn0e] at HL0 hn0
  rw [← hn1e] at HL1 hn1
  have HN0 := hide hn0e
  have HN1 := hide hn1e
  have HCB := hide (CB.start w c B T)
  clear hvl hvh hB hT hl0 hl1 hlo hgt hyes hno hcp hn0e hn1e hc ha
  obtain ⟨arg, op, v, m, gl, ⟨ip, b, lo', hi⟩⟩ := c
  unfold condV at HL0 HL1 ⊢
  unfold condC at HCB
  simp only at HL0 HL1 HV0 HV1 HCB ⊢
  cases T with
  | true =>
    obtain rfl : yes = over := HY.out
    obtain rfl : no = 0 := HN.out
    clear HY HN
    have hll : lo.length = n0 + 1 := by rw [HLP.out, List.length_append, ← HN0.out]; rfl
    rw [hll] at HGP HCP
    have HLL := hide hll
    clear hll
    obtain ⟨eqI, heqI⟩ : ∃ x : IN, x = ⟨4, 0, ((n0 + 1 + 0 : Nat)), vh⟩ := ⟨_, rfl⟩
    obtain ⟨gtI, hgtI⟩ : ∃ x : IN, x = ⟨5, ((1 + (n0 + 1) + yes : Nat)), 0, vh⟩ := ⟨_, rfl⟩
    rw [← heqI] at HCP
    rw [← hgtI] at HGP
    have HEQ := hide heqI
    have HGT := hide hgtI
    clear heqI hgtI
    have k1 := HCB.out.t
    have k2 := HCB.out.b
    have q0 := HCB.out.cells 0
    have q1 := HCB.out.cells 1
    have q2 := HCB.out.cells 2
    have q3 := HCB.out.cells 3
    have q4 := HCB.out.cells 4
    have q5 := HCB.out.cells 5
    have q6 := HCB.out.cells 6
    have q7 := HCB.out.cells 7
    have q8 := HCB.out.cells 8
    simp only [condC, List.getElem?_toArray, List.getElem?_cons_zero, List.getElem?_cons_succ] at q0 q1 q2 q3 q4 q5 q6 q7 q8
    go_enter Try.func30, Try.ntmps30
    go_wp2_with fail
    replace HCB := hide (HCB.out.on (Below.refl _ _).drew)
    go_region_held3 (fun w' => w'.cell? ⟨w.heap.size, 0, none⟩ = some (.int .i64 arg) ∧ w'.cell? ⟨w.heap.size, 1, none⟩ = some (.int .i64 op) ∧ w'.cell? ⟨w.heap.size, 2, none⟩ = some (.int .u64 v) ∧ w'.cell? ⟨w.heap.size, 3, none⟩ = some (.int .u64 m) ∧ w'.cell? ⟨w.heap.size, 4, none⟩ = some (.string gl) ∧ w'.cell? ⟨w.heap.size, 5, none⟩ = some (.int .u32 ip) ∧ w'.cell? ⟨w.heap.size, 6, none⟩ = some (.int .i64 b) ∧ w'.cell? ⟨w.heap.size, 7, none⟩ = some (.int .i64 lo') ∧ w'.cell? ⟨w.heap.size, 8, none⟩ = some (.int .i64 hi) ∧ w'.cell? ⟨w.heap.size + 1, 0, none⟩ = some (.int .i64 B))
      (first | go_keep | exact ⟨HC2.out.cells 0, HC2.out.cells 1, HC2.out.cells 2, HC2.out.cells 3, HC2.out.cells 4, HC2.out.cells 5, HC2.out.cells 6, HC2.out.cells 7, HC2.out.cells 8, HC2.out.b⟩ | exact ⟨HC1.out.cells 0, HC1.out.cells 1, HC1.out.cells 2, HC1.out.cells 3, HC1.out.cells 4, HC1.out.cells 5, HC1.out.cells 6, HC1.out.cells 7, HC1.out.cells 8, HC1.out.b⟩)
      ((first
        | (go_at_call 42; refine (HL0 _).mono ?_; rintro e w1 ⟨⟨g1, cap1, rfl, hO1⟩, hb1⟩; have HO1 := hide hO1; have HC1 := hide (HCB.out.on hb1); have hge1 : w.heap.size + 2 ≤ g1 := (by have := hO1.lt.1; simpa using this); clear hO1 hb1)
        | (go_at_call 43; refine (HV0 _).mono ?_; rintro e w' ⟨rfl, hw'⟩; rw [hw']; clear hw' w')
        | (refine step_app (by rfl) _ _ (by rfl) _ w.heap.size g1 cap1 w1.heap.size 1 n0 1 l0 [⟨B, (yes : Nat), (0 : Nat), vl⟩] HN0.out rfl (by rfl) (by rfl) (HO1.out.on (box_below _ _)) (Own.made w1 _ _ _ (by have := HC1.out.below.size; omega) (by simp) (by rfl)) (by simp) (by have := HN0.out; simp; omega) ?_; intro g2 cap2 w2 hO2 hG2; have HC2 := hide ((HC1.out.on (box_below _ _)).grown hG2 hge1); have HO2 := hide hO2; have hge2 : w.heap.size + 2 ≤ g2 := (by have := hO2.lt.1; simpa using this); clear hO2 hG2)))
    all_goals
      clear q0 q1 q2 q3 q4 q5 q6 q7 q8
      rw [← HLP.out] at HO2
      have q0 := HC2.out.cells 0
      have q1 := HC2.out.cells 1
      have q2 := HC2.out.cells 2
      have q3 := HC2.out.cells 3
      have q4 := HC2.out.cells 4
      have q5 := HC2.out.cells 5
      have q6 := HC2.out.cells 6
      have q7 := HC2.out.cells 7
      have q8 := HC2.out.cells 8
      simp only [condC, List.getElem?_toArray, List.getElem?_cons_zero, List.getElem?_cons_succ] at q0 q1 q2 q3 q4 q5 q6 q7 q8
      clear HO1 HC1 HCB k1 k2 HL0 HV0
      go_wp2_with fail
      refine (HL1 _).mono ?_
      rintro e w3 ⟨⟨g3, cap3, rfl, hO3⟩, hb4⟩
      clear q0 q1 q2 q3 q4 q5 q6 q7 q8
      have hlt2 := HO2.out.lt.2
      have hge3 : w2.heap.size ≤ g3 := hO3.lt.1
      have HO3 := hide hO3
      have HC3 := hide (HC2.out.on hb4)
      replace HO2 := hide (HO2.out.on hb4)
      have hs3 := HC3.out.below.size
      have hs23 := hb4.size
      clear hb4 hO3 HC2 HL1
      have k2 := HC3.out.b
      have k3 := HC3.out.v
      simp only at k3
      by_cases h4 : B = 4
      · rw [if_pos h4] at HGP
        replace HCP := hide (show cp = (l1 ++ [eqI]) ++ lo by rw [HCP.out, HGP.out]; rfl)
        clear hb3
        go_wp2_with (first
          | (go_at_call 43; refine (HV1 _).mono ?_; rintro e w' ⟨rfl, hw'⟩; rw [hw']; clear hw' w')
          | (refine wpList_app rfl _ _ rfl w2.heap.size _ g5 cap5 g2 cap2 (n1 + 1) (n0 + 1) (l1 ++ [eqI]) lo HL5.out HLL.out.symm rfl rfl HO5.out HO6.out (by have := HLL.out; omega) (by have := HLL.out; have := HL5.out; omega) ?_; intro g7 cap7 w7 hO7 hG7; have HO7 := hide hO7; have HC7 := hide (HC5.out.grown hG7 (by have := HO5.out.lt.1; omega)); clear hO7 hG7)
          | (refine wpList_app rfl _ _ rfl w2.heap.size w.heap.size g3 cap3 w3.heap.size 1 n1 1 l1 [eqI] HN1.out rfl rfl rfl (HO3.out.on (box_below _ _)) (Own.made w3 _ _ _ (by omega) (by simp) (by rw [HEQ.out]; simp [flatL, insL])) (by simp) (by have := HN1.out; simp; omega) ?_; intro g5 cap5 w5 hO5 hG5; have HO5 := hide hO5; have HC5 := hide ((HC3.out.on (box_below _ _)).grown hG5 (by omega)); have HO6 := hide ((HO2.out.on (box_below _ _)).grown hG5 (by simp; omega)); have hl5 : n1 + 1 = (l1 ++ [eqI]).length := (by rw [List.length_append, ← HN1.out]; rfl); have HL5 := hide hl5; clear hO5 hG5 hl5))
        go_ret
        exact ⟨⟨g7, cap7, by rw [HCP.out, List.length_append, HLL.out, ← HL5.out]; rfl, by rw [HCP.out]; exact HO7.out.mono (by omega)⟩, HC7.out.below⟩
      · rw [if_neg h4] at HGP
        replace HCP := hide (show cp = ((l1 ++ [gtI]) ++ [eqI]) ++ lo by rw [HCP.out, HGP.out]; simp)
        clear hb3
        go_wp2_with (first
          | (go_at_call 43; refine (HV1 _).mono ?_; rintro e w' ⟨rfl, hw'⟩; rw [hw']; clear hw' w')
          | (refine wpList_app rfl _ _ rfl w2.heap.size _ g5 cap5 g2 cap2 (n1 + 1 + 1) (n0 + 1) ((l1 ++ [gtI]) ++ [eqI]) lo HL5.out HLL.out.symm rfl rfl HO5.out HO6.out (by have := HLL.out; omega) (by have := HLL.out; have := HL5.out; omega) ?_; intro g7 cap7 w7 hO7 hG7; have HO7 := hide hO7; have HC7 := hide (HC5.out.grown hG7 (by have := HO5.out.lt.1; omega)); clear hO7 hG7)
          | (refine wpList_app rfl _ _ rfl w2.heap.size w.heap.size g4 cap4 w4.heap.size 1 (n1 + 1) 1 (l1 ++ [gtI]) [eqI] HL4.out rfl rfl rfl (HO4.out.on (box_below _ _)) (Own.made w4 _ _ _ (by have := HC4.out.below.size; omega) (by simp) (by rw [HEQ.out]; simp [flatL, insL])) (by simp) (by have := HL4.out; simp only [List.length_singleton]; omega) ?_; intro g5 cap5 w5 hO5 hG5; have HO5 := hide hO5; have HC5 := hide ((HC4.out.on (box_below _ _)).grown hG5 (by have := HO4.out.lt.1; omega)); have HO6 := hide ((HO8.out.on (box_below _ _)).grown hG5 (by have := HO4.out.lt.1; simp; omega)); have hl5 : n1 + 1 + 1 = ((l1 ++ [gtI]) ++ [eqI]).length := (by rw [List.length_append, ← HL4.out]; rfl); have HL5 := hide hl5; clear hO5 hG5 hl5)
          | (refine wpList_app rfl _ _ rfl w2.heap.size w.heap.size g3 cap3 w3.heap.size 1 n1 1 l1 [gtI] HN1.out rfl rfl rfl (HO3.out.on (box_below _ _)) (Own.made w3 _ _ _ (by omega) (by simp) (by rw [HGT.out]; exact gt_cells _ _ _ _ (by omega))) (by simp) (by have := HN1.out; simp; omega) ?_; intro g4 cap4 w4 hO4 hG4; have HO4 := hide hO4; have HC4 := hide ((HC3.out.on (box_below _ _)).grown hG4 (by omega)); have HO8 := hide ((HO2.out.on (box_below _ _)).grown hG4 (by simp; omega)); have hl4 : n1 + 1 = (l1 ++ [gtI]).length := (by rw [List.length_append, ← HN1.out]; rfl); have HL4 := hide hl4; have k4 : w4.cell? ⟨w.heap.size, 2, none⟩ = some (.int .u64 v) := HC4.out.v; clear hO4 hG4 hl4))
        go_ret
        exact ⟨⟨g7, cap7, by rw [HCP.out, List.length_append, HLL.out, ← HL5.out]; rfl, by rw [HCP.out]; exact HO7.out.mono (by omega)⟩, HC7.out.below⟩
  | false =>
    obtain rfl : yes = 0 := HY.out
    obtain rfl : no = over := HN.out
    clear HY HN
    have hll : lo.length = n0 + 1 := by rw [HLP.out, List.length_append, ← HN0.out]; rfl
    rw [hll] at HGP HCP
    have HLL := hide hll
    clear hll
    obtain ⟨eqI, heqI⟩ : ∃ x : IN, x = ⟨4, 0, ((n0 + 1 + no : Nat)), vh⟩ := ⟨_, rfl⟩
    obtain ⟨gtI, hgtI⟩ : ∃ x : IN, x = ⟨5, ((1 + (n0 + 1) + 0 : Nat)), 0, vh⟩ := ⟨_, rfl⟩
    rw [← heqI] at HCP
    rw [← hgtI] at HGP
    have HEQ := hide heqI
    have HGT := hide hgtI
    clear heqI hgtI
    have k1 := HCB.out.t
    have k2 := HCB.out.b
    have q0 := HCB.out.cells 0
    have q1 := HCB.out.cells 1
    have q2 := HCB.out.cells 2
    have q3 := HCB.out.cells 3
    have q4 := HCB.out.cells 4
    have q5 := HCB.out.cells 5
    have q6 := HCB.out.cells 6
    have q7 := HCB.out.cells 7
    have q8 := HCB.out.cells 8
    simp only [condC, List.getElem?_toArray, List.getElem?_cons_zero, List.getElem?_cons_succ] at q0 q1 q2 q3 q4 q5 q6 q7 q8
    go_enter Try.func30, Try.ntmps30
    go_wp2_with fail
    replace HCB := hide (HCB.out.on (Below.refl _ _).drew)
    go_region_held3 (fun w' => w'.cell? ⟨w.heap.size, 0, none⟩ = some (.int .i64 arg) ∧ w'.cell? ⟨w.heap.size, 1, none⟩ = some (.int .i64 op) ∧ w'.cell? ⟨w.heap.size, 2, none⟩ = some (.int .u64 v) ∧ w'.cell? ⟨w.heap.size, 3, none⟩ = some (.int .u64 m) ∧ w'.cell? ⟨w.heap.size, 4, none⟩ = some (.string gl) ∧ w'.cell? ⟨w.heap.size, 5, none⟩ = some (.int .u32 ip) ∧ w'.cell? ⟨w.heap.size, 6, none⟩ = some (.int .i64 b) ∧ w'.cell? ⟨w.heap.size, 7, none⟩ = some (.int .i64 lo') ∧ w'.cell? ⟨w.heap.size, 8, none⟩ = some (.int .i64 hi) ∧ w'.cell? ⟨w.heap.size + 1, 0, none⟩ = some (.int .i64 B))
      (first | go_keep | exact ⟨HC2.out.cells 0, HC2.out.cells 1, HC2.out.cells 2, HC2.out.cells 3, HC2.out.cells 4, HC2.out.cells 5, HC2.out.cells 6, HC2.out.cells 7, HC2.out.cells 8, HC2.out.b⟩ | exact ⟨HC1.out.cells 0, HC1.out.cells 1, HC1.out.cells 2, HC1.out.cells 3, HC1.out.cells 4, HC1.out.cells 5, HC1.out.cells 6, HC1.out.cells 7, HC1.out.cells 8, HC1.out.b⟩)
      ((first
        | (go_at_call 42; refine (HL0 _).mono ?_; rintro e w1 ⟨⟨g1, cap1, rfl, hO1⟩, hb1⟩; have HO1 := hide hO1; have HC1 := hide (HCB.out.on hb1); have hge1 : w.heap.size + 2 ≤ g1 := (by have := hO1.lt.1; simpa using this); clear hO1 hb1)
        | (go_at_call 43; refine (HV0 _).mono ?_; rintro e w' ⟨rfl, hw'⟩; rw [hw']; clear hw' w')
        | (refine step_app (by rfl) _ _ (by rfl) _ w.heap.size g1 cap1 w1.heap.size 1 n0 1 l0 [⟨B, (0 : Nat), (no : Nat), vl⟩] HN0.out rfl (by rfl) (by rfl) (HO1.out.on (box_below _ _)) (Own.made w1 _ _ _ (by have := HC1.out.below.size; omega) (by simp) (by rfl)) (by simp) (by have := HN0.out; simp; omega) ?_; intro g2 cap2 w2 hO2 hG2; have HC2 := hide ((HC1.out.on (box_below _ _)).grown hG2 hge1); have HO2 := hide hO2; have hge2 : w.heap.size + 2 ≤ g2 := (by have := hO2.lt.1; simpa using this); clear hO2 hG2)))
    all_goals
      clear q0 q1 q2 q3 q4 q5 q6 q7 q8
      rw [← HLP.out] at HO2
      have q0 := HC2.out.cells 0
      have q1 := HC2.out.cells 1
      have q2 := HC2.out.cells 2
      have q3 := HC2.out.cells 3
      have q4 := HC2.out.cells 4
      have q5 := HC2.out.cells 5
      have q6 := HC2.out.cells 6
      have q7 := HC2.out.cells 7
      have q8 := HC2.out.cells 8
      simp only [condC, List.getElem?_toArray, List.getElem?_cons_zero, List.getElem?_cons_succ] at q0 q1 q2 q3 q4 q5 q6 q7 q8
      clear HO1 HC1 HCB k1 k2 HL0 HV0
      go_wp2_with fail
      refine (HL1 _).mono ?_
      rintro e w3 ⟨⟨g3, cap3, rfl, hO3⟩, hb4⟩
      clear q0 q1 q2 q3 q4 q5 q6 q7 q8
      have hlt2 := HO2.out.lt.2
      have hge3 : w2.heap.size ≤ g3 := hO3.lt.1
      have HO3 := hide hO3
      have HC3 := hide (HC2.out.on hb4)
      replace HO2 := hide (HO2.out.on hb4)
      have hs3 := HC3.out.below.size
      have hs23 := hb4.size
      clear hb4 hO3 HC2 HL1
      have k2 := HC3.out.b
      have k3 := HC3.out.v
      simp only at k3
      by_cases h4 : B = 4
      · rw [if_pos h4] at HGP
        replace HCP := hide (show cp = (l1 ++ [eqI]) ++ lo by rw [HCP.out, HGP.out]; rfl)
        clear hb3
        go_wp2_with (first
          | (go_at_call 43; refine (HV1 _).mono ?_; rintro e w' ⟨rfl, hw'⟩; rw [hw']; clear hw' w')
          | (refine wpList_app rfl _ _ rfl w2.heap.size _ g5 cap5 g2 cap2 (n1 + 1) (n0 + 1) (l1 ++ [eqI]) lo HL5.out HLL.out.symm rfl rfl HO5.out HO6.out (by have := HLL.out; omega) (by have := HLL.out; have := HL5.out; omega) ?_; intro g7 cap7 w7 hO7 hG7; have HO7 := hide hO7; have HC7 := hide (HC5.out.grown hG7 (by have := HO5.out.lt.1; omega)); clear hO7 hG7)
          | (refine wpList_app rfl _ _ rfl w2.heap.size w.heap.size g3 cap3 w3.heap.size 1 n1 1 l1 [eqI] HN1.out rfl rfl rfl (HO3.out.on (box_below _ _)) (Own.made w3 _ _ _ (by omega) (by simp) (by rw [HEQ.out]; simp [flatL, insL])) (by simp) (by have := HN1.out; simp; omega) ?_; intro g5 cap5 w5 hO5 hG5; have HO5 := hide hO5; have HC5 := hide ((HC3.out.on (box_below _ _)).grown hG5 (by omega)); have HO6 := hide ((HO2.out.on (box_below _ _)).grown hG5 (by simp; omega)); have hl5 : n1 + 1 = (l1 ++ [eqI]).length := (by rw [List.length_append, ← HN1.out]; rfl); have HL5 := hide hl5; clear hO5 hG5 hl5))
        go_ret
        exact ⟨⟨g7, cap7, by rw [HCP.out, List.length_append, HLL.out, ← HL5.out]; rfl, by rw [HCP.out]; exact HO7.out.mono (by omega)⟩, HC7.out.below⟩
      · rw [if_neg h4] at HGP
        replace HCP := hide (show cp = ((l1 ++ [gtI]) ++ [eqI]) ++ lo by rw [HCP.out, HGP.out]; simp)
        clear hb3
        go_wp2_with (first
          | (go_at_call 43; refine (HV1 _).mono ?_; rintro e w' ⟨rfl, hw'⟩; rw [hw']; clear hw' w')
          | (refine wpList_app rfl _ _ rfl w2.heap.size _ g5 cap5 g2 cap2 (n1 + 1 + 1) (n0 + 1) ((l1 ++ [gtI]) ++ [eqI]) lo HL5.out HLL.out.symm rfl rfl HO5.out HO6.out (by have := HLL.out; omega) (by have := HLL.out; have := HL5.out; omega) ?_; intro g7 cap7 w7 hO7 hG7; have HO7 := hide hO7; have HC7 := hide (HC5.out.grown hG7 (by have := HO5.out.lt.1; omega)); clear hO7 hG7)
          | (refine wpList_app rfl _ _ rfl w2.heap.size w.heap.size g4 cap4 w4.heap.size 1 (n1 + 1) 1 (l1 ++ [gtI]) [eqI] HL4.out rfl rfl rfl (HO4.out.on (box_below _ _)) (Own.made w4 _ _ _ (by have := HC4.out.below.size; omega) (by simp) (by rw [HEQ.out]; simp [flatL, insL])) (by simp) (by have := HL4.out; simp only [List.length_singleton]; omega) ?_; intro g5 cap5 w5 hO5 hG5; have HO5 := hide hO5; have HC5 := hide ((HC4.out.on (box_below _ _)).grown hG5 (by have := HO4.out.lt.1; omega)); have HO6 := hide ((HO8.out.on (box_below _ _)).grown hG5 (by have := HO4.out.lt.1; simp; omega)); have hl5 : n1 + 1 + 1 = ((l1 ++ [gtI]) ++ [eqI]).length := (by rw [List.length_append, ← HL4.out]; rfl); have HL5 := hide hl5; clear hO5 hG5 hl5)
          | (refine wpList_app rfl _ _ rfl w2.heap.size w.heap.size g3 cap3 w3.heap.size 1 n1 1 l1 [gtI] HN1.out rfl rfl rfl (HO3.out.on (box_below _ _)) (Own.made w3 _ _ _ (by omega) (by simp) (by rw [HGT.out]; exact gt_cells _ _ _ _ (by omega))) (by simp) (by have := HN1.out; simp; omega) ?_; intro g4 cap4 w4 hO4 hG4; have HO4 := hide hO4; have HC4 := hide ((HC3.out.on (box_below _ _)).grown hG4 (by omega)); have HO8 := hide ((HO2.out.on (box_below _ _)).grown hG4 (by simp; omega)); have hl4 : n1 + 1 = (l1 ++ [gtI]).length := (by rw [List.length_append, ← HN1.out]; rfl); have HL4 := hide hl4; have k4 : w4.cell? ⟨w.heap.size, 2, none⟩ = some (.int .u64 v) := HC4.out.v; clear hO4 hG4 hl4))
        go_ret
        exact ⟨⟨g7, cap7, by rw [HCP.out, List.length_append, HLL.out, ← HL5.out]; rfl, by rw [HCP.out]; exact HO7.out.mono (by omega)⟩, HC7.out.below⟩
end Go.Proofs.Ytphkhfeofoadcab

/- comp.ruleCode. -/
namespace Go.Proofs.Ytphkhfeofoadcab
open Go.RowKit Go.Sort
open Bp (IN InOk)

theorem condsP_pos (K : Nat) : ∀ cs : List CD, 0 < (condsP K cs).length
  | [] => by simp [condsP]
  | c :: r => by
    have := condsP_pos K r
    rw [condsP]
    split
    · rw [List.length_append]; omega
    · exact this
theorem drop_prev {α : Type} {cs : List α} {k : Nat} (hk : 0 < k) (h : k ≤ cs.length) : ∃ c, cs[k - 1]? = some c ∧ cs.drop (k - 1) = c :: cs.drop k := by
  obtain ⟨c, h1, h2⟩ := drop_next (cs := cs) (i := k - 1) (by omega)
  rw [show k - 1 + 1 = k by omega] at h2
  exact ⟨c, h1, h2⟩

set_option maxHeartbeats 4000000 in
set_option maxRecDepth 20000 in
theorem ruleCode_any (r : RL) (hr : RuleOk r) (i : Nat) (hi : i ≤ 12) (oa : Option Addr) (cap mb : Nat) (w : World) (hc : IsConds oa r.conds w) (hN : IsNeed mb w) :
    Calls Try.prog 18 #[ruleV r oa cap, .int .i64 i, .map (some mb)] w fun e w' => (∃ g cap', e = .returned (.slice (some ⟨g, 0, none⟩) (ruleP r i).length cap') ∧ Own w.heap.size g cap' (ruleP r i) w') ∧ Below w.heap.size w w' := by
  obtain ⟨n, hn⟩ : ∃ n, n = r.conds.length := ⟨_, rfl⟩
  have HRN := fun W h1 h2 => ruleNumber_any r hr i hi oa cap mb W h1 h2
  have HC := hide (conds_parts hc n hn)
  have HIC := hide hc
  have h4 : n ≤ 4 := by have := hr.few; omega
  have HSH := hide hr.conds
  have h80 := hr.nr0
  have h88 := hr.nr8
  have HRP := hide (show ruleP r i = ⟨1, 0, 0, 0⟩ :: ⟨4, 0, ((condsP (ruleN r i) r.conds).length : Nat), r.nr.toNat⟩ :: condsP (ruleN r i) r.conds from rfl)
  obtain ⟨K, hK⟩ : ∃ z, z = ruleN r i := ⟨_, rfl⟩
  rw [← hK] at HRN HRP
  obtain ⟨rp, hrp⟩ : ∃ z, z = ruleP r i := ⟨_, rfl⟩
  rw [← hrp] at HRP ⊢
  have HNE := hide hN
  clear hc hK hr hN hrp
  obtain ⟨nr, cs, ⟨ak, ae⟩⟩ := r
  unfold ruleV at HRN ⊢
  simp only at HC HSH HIC HRN HRP hn h80 h88 ⊢
  obtain ⟨nn, rfl⟩ : ∃ x : Nat, nr = x := ⟨nr.toNat, by omega⟩
  rw [Int.toNat_natCast] at HRP
  have hnn : nn ≤ 8 := by omega
  clear h80 h88
  have HDR := hide (show ∀ k, 0 < k → k ≤ n → ∃ c, cs[k - 1]? = some c ∧ cs.drop (k - 1) = c :: cs.drop k from fun k h1 h2 => drop_prev h1 (by omega))
  rw [← hn] at HRN ⊢
  have HZN := hide hn
  clear hn
  have HRW := hide (heap_alloc_new w (.cells #[.int .i64 nn, .slice oa n cap, .int .i64 ak, .int .i64 ae] 58))
  obtain ⟨V, hV, hB, hsz, hx⟩ := one_box w #[.int .i64 nn, .slice oa n cap, .int .i64 ak, .int .i64 ae] 58
  rw [← hV] at HRW
  have k0 := hx 0
  have k1 := hx 1
  have k2 := hx 2
  have k3 := hx 3
  simp only [List.getElem?_toArray, List.getElem?_cons_zero, List.getElem?_cons_succ] at k0 k1 k2 k3
  clear hx
  go_enter Try.func18, Try.ntmps18
  go_wp2_with fail
  rw [← hV]
  clear hV
  refine (HRN _ (HIC.out.on hB) (HNE.out.on hB)).mono ?_
  rintro e W1 ⟨rfl, hb1⟩
  have HB1 := hide (below_next hB hb1)
  have p0 := keep_cell hb1 k0
  have p1 := keep_cell hb1 k1
  have hs1 : w.heap.size < W1.heap.size := block_lt_of_cell p0
  replace HRW := hide ((hb1.block _ hsz).trans HRW.out)
  clear k0 k1 k2 k3 hb1 hB HRN hsz
  have HO1 := hide (Own.made W1 [⟨8, 0, 0, K⟩] #[.int .i64 8, .int .i64 0, .int .i64 0, .int .u32 K] (w.heap.size + 1) (by omega) (by simp) (by rfl))
  have HB2 := hide (below_next HB1.out (box_below W1 (.cells #[.int .i64 8, .int .i64 0, .int .i64 0, .int .u32 K] 66)))
  have HD0 := hide (show condsP K (cs.drop n) = [⟨8, 0, 0, K⟩] by rw [List.drop_eq_nil_of_le (by rw [HZN.out]; exact Nat.le_refl _)]; rfl)
  go_wp2
  obtain ⟨W2, hW2⟩ : ∃ W2, W2 = W1.alloc (.cells #[.int .i64 8, .int .i64 0, .int .i64 0, .int .u32 K] 66) := ⟨_, rfl⟩
  rw [← hW2] at HO1 HB2 ⊢
  replace HRW := hide (((show Below W1.heap.size W1 W2 by rw [hW2]; exact box_below _ _).block _ hs1).trans HRW.out)
  clear hW2 HB1 p0 p1
  go_loopw [7, 8] (fun L I w' => ∃ (k g capl m : Nat), k ≤ n ∧ L = .slice (some ⟨g, 0, none⟩) m capl ∧ I = .int .i64 ((k : Int) - 1) ∧ Hid (m = (condsP K (cs.drop k)).length) ∧ Hid (Own (w.heap.size + 1) g capl (condsP K (cs.drop k)) w') ∧ Hid (Below w.heap.size w w') ∧ Hid (w'.heap[w.heap.size]? = some (.cells #[.int .i64 nn, .slice oa n cap, .int .i64 ak, .int .i64 ae] 58 (0, 0)))) (fun _ I _ => (intOf I + 1).toNat)
  case atStart => exact ⟨n, _, _, _, Nat.le_refl _, rfl, rfl, hide (by rw [HD0.out]; rfl), hide (by rw [HD0.out]; exact HO1.out), HB2, HRW⟩
  case round =>
    obtain ⟨k, g, capl, m, hk, rfl, rfl, HM, HO, HB, HR⟩ := hrel
    have hlen := condsP_len K (cs.drop k)
    rw [← HM.out, List.length_drop, ← HZN.out] at hlen
    have hm25 : m ≤ 25 := by omega
    have hpos := condsP_pos K (cs.drop k)
    rw [← HM.out] at hpos
    have p0 : wr.cell? ⟨w.heap.size, 0, none⟩ = some (.int .i64 nn) := cell_of_row _ _ 0 _ _ _ HR.out
    have p1 : wr.cell? ⟨w.heap.size, 1, none⟩ = some (.slice oa n cap) := cell_of_row _ _ 1 _ _ _ HR.out
    clear hlen
    by_cases hk0 : 0 < k
    · obtain ⟨c, hcs, hdr⟩ := HDR.out k hk0 hk
      obtain ⟨b, off, rfl, hbw, HA⟩ := HC.out (by omega)
      have hA := (HA.out (k - 1) c hcs).on fun j => (bcell HB.out).1 b j hbw
      have hsh := shape_fine (HSH.out c (List.mem_of_getElem? hcs))
      have hnum := numB_le hsh.2.1 hsh.2.2
      have HQ := hide (show condsP K (cs.drop (k - 1)) = if numB c then condP c m ++ condsP K (cs.drop k) else condsP K (cs.drop k) by rw [hdr, condsP, ← HM.out])
      rw [hnum] at HQ
      have hNw := HNE.out.on HB.out
      have hlk := run_need hNw c.op hsh.2.1 hsh.2.2
      have hcok := hA.ok
      obtain ⟨j, rfl⟩ : ∃ j, k = j + 1 := ⟨k - 1, by omega⟩
      rw [Nat.add_sub_cancel] at hA HQ
      have i1 : ((j + 1 : Nat) : Int) - 1 = (j : Int) := by omega
      rw [i1]
      have HCP := fun W => condCode_any c hcok (by have := HSH.out c (List.mem_of_getElem? hcs); cases this <;> simp only <;> omega) m (by omega) W
      obtain ⟨q0, q1, q2, q3, q4, q5, q6, q7, q8, _⟩ := hA
      obtain ⟨arg, op, v, mm, gl, ⟨ip, bb, lo, hh⟩⟩ := c
      unfold condV brV at HCP
      unfold brV at hlk
      simp only at q0 q1 q2 q3 q4 q5 q6 q7 q8 hlk HQ HCP hsh
      have hjn : j < n := by omega
      clear hdr hcs hnum hcok i1 hk0
      by_cases h7 : op ≤ 7
      · rw [if_pos h7, show decide (op ≤ 7) = true by simpa using h7] at hlk
        rw [show decide (op ≤ 7) = true by simpa using h7, if_pos rfl] at HQ
        clear h7 hsh
        obtain ⟨B, hBB⟩ : ∃ x, x = brOp op := ⟨_, rfl⟩
        obtain ⟨T, hTT⟩ : ∃ x, x = brTurn op := ⟨_, rfl⟩
        rw [← hBB, ← hTT] at hlk HCP
        clear hBB hTT
        obtain ⟨cp, hcp⟩ : ∃ x, x = condP ⟨arg, op, v, mm, gl, ⟨ip, bb, lo, hh⟩⟩ m := ⟨_, rfl⟩
        have hcl : cp.length ≤ 6 := by rw [hcp]; exact condP_len _ _
        rw [← hcp] at HCP HQ
        clear hcp
        obtain ⟨nc, hnc⟩ : ∃ x, x = cp.length := ⟨_, rfl⟩
        rw [← hnc] at HCP hcl
        have HNC := hide hnc
        clear hnc
        obtain ⟨ll, hll⟩ : ∃ x, x = condsP K (cs.drop (j + 1)) := ⟨_, rfl⟩
        rw [← hll] at HQ HM HO
        clear hll
        have hbr : b < wr.heap.size := block_lt_of_cell q0
        have hwr : w.heap.size < wr.heap.size := block_lt_of_cell p0
        obtain ⟨X, hX⟩ : ∃ X, X = (wr.alloc (.cells #[.int .i64 B, .bool T] 82)).drew := ⟨_, rfl⟩
        have hXb : Below wr.heap.size wr X := by rw [hX]; exact (box_below _ _).drew
        have hXs : X.heap.size = wr.heap.size + 1 := by rw [hX]; show (wr.alloc _).heap.size = _; rw [World.size_alloc]
        have s0 := keep_cell hXb q0
        have s1 := keep_cell hXb q1
        have s2 := keep_cell hXb q2
        have s3 := keep_cell hXb q3
        have s4 := keep_cell hXb q4
        have s5 := keep_cell hXb q5
        have s6 := keep_cell hXb q6
        have s7 := keep_cell hXb q7
        have s8 := keep_cell hXb q8
        have s9 := keep_cell hXb p1
        have s10 : X.cell? ⟨wr.heap.size, 0, none⟩ = some (.int .i64 B) := by rw [hX]; exact cell_of_row (wr.alloc (.cells #[.int .i64 B, .bool T] 82)) _ 0 _ _ _ (heap_alloc_new wr _)
        have s11 : X.cell? ⟨wr.heap.size, 1, none⟩ = some (.bool T) := by rw [hX]; exact cell_of_row (wr.alloc (.cells #[.int .i64 B, .bool T] 82)) _ 1 _ _ _ (heap_alloc_new wr _)
        have HOX := hide (HO.out.on hXb)
        have HRX := hide ((hXb.block _ hwr).trans HR.out)
        have HBX := hide (below_next HB.out hXb)
        go_wp2_with fail
        rw [hX] at s0 s1 s2 s3 s4 s5 s6 s7 s8 s9 s10 s11 HOX HRX HBX hXs
        clear hX hXb
        go_region_held3 (fun w' => w'.cell? ⟨b, off + j * 9, none⟩ = some (.int .i64 arg) ∧ w'.cell? ⟨b, off + j * 9 + 1, none⟩ = some (.int .i64 op) ∧ w'.cell? ⟨b, off + j * 9 + 2, none⟩ = some (.int .u64 v) ∧ w'.cell? ⟨b, off + j * 9 + 3, none⟩ = some (.int .u64 mm) ∧ w'.cell? ⟨b, off + j * 9 + 4, none⟩ = some (.string gl) ∧ w'.cell? ⟨b, off + j * 9 + 5, none⟩ = some (.int .u32 ip) ∧ w'.cell? ⟨b, off + j * 9 + 6, none⟩ = some (.int .i64 bb) ∧ w'.cell? ⟨b, off + j * 9 + 7, none⟩ = some (.int .i64 lo) ∧ w'.cell? ⟨b, off + j * 9 + 8, none⟩ = some (.int .i64 hh) ∧ w'.cell? ⟨w.heap.size, 1, none⟩ = some (.slice (some ⟨b, off, none⟩) n cap) ∧ w'.cell? ⟨wr.heap.size, 0, none⟩ = some (.int .i64 B) ∧ w'.cell? ⟨wr.heap.size, 1, none⟩ = some (.bool T))
          (first | exact ⟨x0, x1, x2, x3, x4, x5, x6, x7, x8, x9, x10, x11⟩ | exact ⟨u0, u1, u2, u3, u4, u5, u6, u7, u8, u9, u10, u11⟩ | exact ⟨s0, s1, s2, s3, s4, s5, s6, s7, s8, s9, s10, s11⟩ | go_keep)
          ((first
            | (go_at_call 30; refine (HCP _).mono ?_; rintro e w1 ⟨⟨g1, cap1, rfl, hO1⟩, hb1⟩; have u0 := keep_cell hb1 s0; have u1 := keep_cell hb1 s1; have u2 := keep_cell hb1 s2; have u3 := keep_cell hb1 s3; have u4 := keep_cell hb1 s4; have u5 := keep_cell hb1 s5; have u6 := keep_cell hb1 s6; have u7 := keep_cell hb1 s7; have u8 := keep_cell hb1 s8; have u9 := keep_cell hb1 s9; have u10 := keep_cell hb1 s10; have u11 := keep_cell hb1 s11; have HO1 := hide hO1; have HL1 := hide (HOX.out.on hb1); have HR1 := hide ((hb1.block _ (by omega)).trans HRX.out); have HB1 := hide (below_next HBX.out hb1); have hge : wr.heap.size + 1 ≤ g1 := (by have := hO1.lt.1; omega); clear hO1 hb1)
            | (refine step_app (by rfl) _ _ (by rfl) _ _ g1 cap1 g capl nc m cp ll HNC.out HM.out (by rfl) (by rfl) HO1.out HL1.out (by have := HM.out; omega) (by have := HM.out; have := HNC.out; omega) ?_; intro g2 cap2 w2 hO2 hG2; have x0 := hG2.cell u0 (by simp; omega); have x1 := hG2.cell u1 (by simp; omega); have x2 := hG2.cell u2 (by simp; omega); have x3 := hG2.cell u3 (by simp; omega); have x4 := hG2.cell u4 (by simp; omega); have x5 := hG2.cell u5 (by simp; omega); have x6 := hG2.cell u6 (by simp; omega); have x7 := hG2.cell u7 (by simp; omega); have x8 := hG2.cell u8 (by simp; omega); have x9 := hG2.cell u9 (by simp; omega); have x10 := hG2.cell u10 (by simp; omega); have x11 := hG2.cell u11 (by simp; omega); have HO2 := hide (hO2.mono (show w.heap.size + 1 ≤ _ by omega)); have HR2 := hide ((hG2.block _ (by have := HB1.out.size; have := block_lt_of_cell u9; omega) (by simp; omega)).trans HR1.out); have HB2 := hide (below_grown HB1.out hG2 (by omega) HB1.out.size (Nat.le_refl _)); clear hO2 hG2)))
        all_goals
          clear s0 s1 s2 s3 s4 s5 s6 s7 s8 s9 s10 s11 u0 u1 u2 u3 u4 u5 u6 u7 u8 u9 u10 u11 x0 x1 x2 x3 x4 x5 x6 x7 x8 x9 x10 x11
          go_wp2
          go_round
          case rel => exact ⟨j, g2, cap2, nc + m, by omega, rfl, by go_num, hide (by rw [HQ.out, List.length_append, ← HNC.out, ← HM.out]), hide (by rw [HQ.out]; exact HO2.out), HB2, HR2⟩
          case measure => simp [intOf]
      · rw [if_neg h7, show decide (op ≤ 7) = false by simpa using h7] at hlk
        rw [show decide (op ≤ 7) = false by simpa using h7, if_neg (by decide)] at HQ
        clear h7 hsh HCP
        go_wp2
        go_round
        case rel => exact ⟨j, g, capl, m, by omega, rfl, by go_num, hide (by rw [HQ.out]; exact HM.out), hide (by rw [HQ.out]; exact HO.out.on (box_below _ _)), hide (below_next HB.out (box_below _ _)), hide (((box_below wr _).block _ (block_lt_of_cell p0)).trans HR.out)⟩
        case measure => simp [intOf]
    · obtain rfl : k = 0 := by omega
      rw [List.drop_zero] at HM HO
      rw [← HM.out] at HRP
      have hwr : w.heap.size < wr.heap.size := block_lt_of_cell p0
      obtain ⟨ll, hll⟩ : ∃ x, x = condsP K cs := ⟨_, rfl⟩
      rw [← hll] at HM HO HRP
      clear hll hk0
      go_wp2_with (refine wpList_app rfl _ _ rfl (w.heap.size + 1) (w.heap.size + 1) wr.heap.size 2 g capl 2 m [⟨1, 0, 0, 0⟩, ⟨4, 0, (m : Nat), nn⟩] ll rfl HM.out rfl rfl (Own.made wr _ _ _ (by omega) (by simp) (by rfl)) (HO.out.on (box_below _ _)) (by have := HM.out; omega) (by have := HM.out; simp only [List.length_cons, List.length_nil]; omega) ?_; intro g2 cap2 w2 hO2 hG2)
      have hb2 := below_grown (below_next HB.out (box_below wr _)) hG2 (by omega) (below_next HB.out (box_below wr _)).size (Nat.le_refl _)
      go_ret
      exact ⟨⟨g2, cap2, by rw [HRP.out, List.length_cons, List.length_cons, ← HM.out, show m + 1 + 1 = 2 + m by omega]; rfl, by rw [HRP.out]; exact hO2.mono (by omega)⟩, hb2⟩
end Go.Proofs.Ytphkhfeofoadcab

/- comp.Compile. -/
namespace Go.Proofs.Ytphkhfeofoadcab
open Go.RowKit Go.Sort
open Bp (IN InOk)

theorem rulesP_snoc (r : RL) : ∀ (l : List RL) (s : Nat), rulesP (l ++ [r]) s = rulesP l s ++ ruleP r (s + l.length)
  | [], s => by rw [List.nil_append, rulesP, rulesP, rulesP, List.append_nil]; rfl
  | x :: l, s => by
    rw [List.cons_append, rulesP, rulesP, rulesP_snoc r l (s + 1), List.append_assoc, List.length_cons, show s + 1 + l.length = s + (l.length + 1) by omega]
theorem need_ne {base g cap mb : Nat} {l : List IN} {W : World} (h : Own base g cap l W) (hN : IsNeed mb W) : mb ≠ g := fun e => by
  rcases h.2 with ⟨h1, _⟩ | ⟨g', c', cur, h1, _, h2, _⟩
  · cases h1
  · cases h1
    rw [e] at hN
    unfold IsNeed at hN
    rw [h2] at hN
    cases hN
theorem IsNeed.grown {mb g : Nat} {W V : World} (h : IsNeed mb W) (hg : W.grownBy V (some g)) (hn : mb ≠ g) : IsNeed mb V := (hg.block mb h.lt (fun e => hn (by injection e))).trans h
def head3 : List IN := [⟨1, 0, 0, 4⟩, ⟨4, 1, 0, 3221225534⟩, ⟨8, 0, 0, 0⟩]
theorem progP_eq (p : POL) : progP p = (head3 ++ rulesP p.rules 0) ++ [⟨8, 0, 0, actN p.els⟩] := rfl

set_option maxHeartbeats 2000000 in
theorem compile_bad (p : POL) (oa : Option Addr) (cap : Nat) (w : World) (hp : IsPol oa cap p w) (hf : polF p ≠ 0) :
    Calls Try.prog 10 #[polV p oa cap] w fun e w' => e = .returned (.tuple #[.slice none 0 0, errV (polF p)]) ∧ Below w.heap.size w w' := by
  obtain ⟨V, hV, hB, hsz, hx⟩ := one_box w #[.slice oa p.rules.length cap, .int .i64 p.els.kind, .int .i64 p.els.errno] 27
  have HCK := pcheck_any p oa cap V (hp.on hB)
  rw [errV_pos hf] at HCK ⊢
  clear hp hf hx
  unfold polV at *
  go_enter Try.func10, Try.ntmps10
  go_wp2_with (go_at_call 13; rw [← hV]; clear hV; refine HCK.mono ?_; rintro e X ⟨rfl, hX⟩)
  go_ret2
  exact ⟨rfl, below_next hB hX⟩

set_option maxHeartbeats 4000000 in
set_option maxRecDepth 20000 in
theorem compile_ok (p : POL) (oa : Option Addr) (cap : Nat) (w : World) (hp : IsPol oa cap p w) (hf : polF p = 0) :
    Calls Try.prog 10 #[polV p oa cap] w fun e w' => (∃ g cap', e = .returned (.tuple #[.slice (some ⟨g, 0, none⟩) (progP p).length cap', .nilIface]) ∧ Own w.heap.size g cap' (progP p) w') ∧ Below w.heap.size w w' := by
  obtain ⟨n, hn⟩ : ∃ n, n = p.rules.length := ⟨_, rfl⟩
  obtain ⟨V, hV, hB, hsz, hx⟩ := one_box w #[.slice oa p.rules.length cap, .int .i64 p.els.kind, .int .i64 p.els.errno] 27
  have HCK := pcheck_any p oa cap V (hp.on hB)
  rw [hf, errV_zero] at HCK
  have HC := hide (pol_parts hp n hn)
  have hok := pol_ok hf hp.ok
  have h12 : n ≤ 12 := by have := hok.few; omega
  have HRU := hide hok.rules
  have HA := actionNumber_any p.els (act_fine hok.els)
  have HPR := hide (progP_eq p)
  have HLE := hide (rulesP_len p.rules 0 fun r hr => (hok.rules r hr).few)
  obtain ⟨pp, hpp⟩ : ∃ x, x = progP p := ⟨_, rfl⟩
  rw [← hpp] at HPR ⊢
  clear hp hf hok hpp
  obtain ⟨rs, ⟨ak, ae⟩⟩ := p
  unfold polV at *
  unfold actV at HA
  simp only at *
  have HL := hide (show ∀ i, i < n → ∃ c, rs[i]? = some c ∧ rs.take (i + 1) = rs.take i ++ [c] from fun i h => take_next (by omega))
  have HLT := hide (show ∀ i, i ≤ n → (rulesP (rs.take i) 0).length ≤ 27 * 12 from fun i h => by
    have := rulesP_len (rs.take i) 0 fun r hr => (HRU.out r (List.mem_of_mem_take hr)).few
    rw [List.length_take] at this
    omega)
  rw [← hn] at hV hx HCK ⊢
  have HN := hide hn
  clear hn
  have x0 := hx 0
  have x1 := hx 1
  have x2 := hx 2
  simp only [List.getElem?_toArray, List.getElem?_cons_zero, List.getElem?_cons_succ] at x0 x1 x2
  clear hx
  go_enter Try.func10, Try.ntmps10
  go_wp2_with fail
  rw [← hV]
  clear hV
  refine HCK.mono ?_
  rintro e X ⟨rfl, hX⟩
  replace x0 := keep_cell hX x0
  replace x1 := keep_cell hX x1
  replace x2 := keep_cell hX x2
  have HBX := hide (below_next hB hX)
  have hsX : w.heap.size < X.heap.size := block_lt_of_cell x0
  clear hX hB hsz HCK
  have HO1 := hide (Own.made X head3 #[.int .i64 1, .int .i64 0, .int .i64 0, .int .u32 4, .int .i64 4, .int .i64 1, .int .i64 0, .int .u32 3221225534, .int .i64 8, .int .i64 0, .int .i64 0, .int .u32 0] (w.heap.size + 1) (by omega) (by simp [head3]) (by rfl))
  go_wp2_with fail
  have HRX := hide ((box_below X (.cells #[.int .i64 1, .int .i64 0, .int .i64 0, .int .u32 4, .int .i64 4, .int .i64 1, .int .i64 0, .int .u32 3221225534, .int .i64 8, .int .i64 0, .int .i64 0, .int .u32 0] 66)))
  replace x0 := keep_cell HRX.out x0
  replace x1 := keep_cell HRX.out x1
  replace x2 := keep_cell HRX.out x2
  replace HBX := hide (below_next HBX.out HRX.out)
  clear HRX
  refine (branches_any _).mono ?_
  rintro e Y ⟨rfl, hNeed, hY⟩
  obtain ⟨mb, hmb⟩ : ∃ m, m = (X.alloc (.cells #[.int .i64 1, .int .i64 0, .int .i64 0, .int .u32 4, .int .i64 4, .int .i64 1, .int .i64 0, .int .u32 3221225534, .int .i64 8, .int .i64 0, .int .i64 0, .int .u32 0] 66)).heap.size := ⟨_, rfl⟩
  rw [← hmb] at hNeed ⊢
  clear hmb
  replace x0 := keep_cell hY x0
  replace x1 := keep_cell hY x1
  replace x2 := keep_cell hY x2
  have HX0 := hide (And.intro x0 (And.intro x1 x2))
  replace HO1 := hide (HO1.out.on hY)
  replace HBX := hide (below_next HBX.out hY)
  have HND := hide hNeed
  clear hNeed hY x1 x2
  go_wp2
  go_loopw [5, 21] (fun L I w' => ∃ (i g capl m : Nat), i ≤ n ∧ L = .slice (some ⟨g, 0, none⟩) m capl ∧ I = .int .i64 i ∧ Hid (m = (head3 ++ rulesP (rs.take i) 0).length) ∧ Hid (Own (w.heap.size + 1) g capl (head3 ++ rulesP (rs.take i) 0) w') ∧ Hid (Below w.heap.size w w') ∧ Hid (IsNeed mb w') ∧ Hid (w'.cell? ⟨w.heap.size, 0, none⟩ = some (.slice oa n cap) ∧ w'.cell? ⟨w.heap.size, 1, none⟩ = some (.int .i64 ak) ∧ w'.cell? ⟨w.heap.size, 2, none⟩ = some (.int .i64 ae))) (fun _ I _ => n - (intOf I).toNat)
  case atStart => exact ⟨0, _, _, _, by omega, rfl, rfl, hide rfl, HO1, HBX, HND, HX0⟩
  case round =>
    obtain ⟨i, g, capl, m, hi, rfl, rfl, HM, HO, HB, HND2, HX2⟩ := hrel
    obtain ⟨y0, y1, y2⟩ := HX2.out
    have hlw : w.heap.size < wr.heap.size := block_lt_of_cell y0
    have hm : m ≤ 327 := by
      have h1 := HLT.out i hi
      rw [HM.out, List.length_append, show head3.length = 3 from rfl]
      omega
    clear x0 HX0 HO1 HBX HND
    by_cases hlt : i < n
    · obtain ⟨c, hcs, hcat⟩ := HL.out i hlt
      obtain ⟨b, off, rfl, hbw, HAA⟩ := HC.out (by omega)
      obtain ⟨ca, cc, hR0⟩ := HAA.out i c hcs
      have hR := hR0.on hbw HB.out
      clear hR0
      have hro := HRU.out c (List.mem_of_getElem? hcs)
      have HRC := fun W h1 h2 => ruleCode_any c hro i (by omega) ca cc mb W h1 h2
      have HQ := hide (show head3 ++ rulesP (rs.take (i + 1)) 0 = (head3 ++ rulesP (rs.take i) 0) ++ ruleP c i by
        rw [hcat, rulesP_snoc, List.length_take, Nat.min_eq_left (by rw [← HN.out]; omega), Nat.zero_add, List.append_assoc])
      have hrl : (ruleP c i).length ≤ 27 := by
        have h1 := condsP_len (ruleN c i) c.conds
        have h2 := hro.few
        unfold ruleP
        simp only [List.length_cons]
        omega
      have hrp : 0 < (ruleP c i).length := by unfold ruleP; simp only [List.length_cons]; omega
      obtain ⟨rp, hrpe⟩ : ∃ x, x = ruleP c i := ⟨_, rfl⟩
      rw [← hrpe] at HRC HQ hrl hrp
      obtain ⟨ll, hll⟩ : ∃ x, x = head3 ++ rulesP (rs.take i) 0 := ⟨_, rfl⟩
      rw [← hll] at HM HO HQ
      obtain ⟨nc, hnc⟩ : ∃ x, x = rp.length := ⟨_, rfl⟩
      rw [← hnc] at HRC hrl hrp
      have HNC := hide hnc
      obtain ⟨p0, p1, p2, p3, hcd, _, _, _⟩ := hR
      have HCD := hide hcd
      clear hro hcs hcat hrpe hll hnc hcd
      obtain ⟨nr, cs, ⟨rk, re⟩⟩ := c
      unfold ruleV at HRC
      simp only at p0 p1 p2 p3 HRC HCD
      go_wp2_with fail
      refine (HRC _ HCD.out HND2.out).mono ?_
      rintro e w1 ⟨⟨g1, cap1, rfl, hO1⟩, hb1⟩
      have HO1 := hide hO1
      have HOl := hide (HO.out.on hb1)
      have HN1 := hide (HND2.out.on hb1)
      have HB1 := hide (below_next HB.out hb1)
      replace y0 := keep_cell hb1 y0
      replace y1 := keep_cell hb1 y1
      replace y2 := keep_cell hb1 y2
      clear hb1 hO1 p0 p1 p2 p3 HRC
      go_wp2_with (refine wpList_app rfl _ _ rfl (w.heap.size + 1) _ g capl g1 cap1 m nc ll rp HM.out HNC.out rfl rfl HOl.out HO1.out (by have := HNC.out; omega) (by have := HNC.out; have := HM.out; omega) ?_; intro g2 cap2 w2 hO2 hG2; have hne := need_ne HOl.out HN1.out; have hgl := HOl.out.lt; have HO2 := hide hO2; have HN2 := hide (HN1.out.grown hG2 hne); have HB2 := hide (below_grown HB1.out hG2 (by omega) HB1.out.size (Nat.le_refl _)); have HX3 := hide (And.intro (hG2.cell y0 (by simp; omega)) (And.intro (hG2.cell y1 (by simp; omega)) (hG2.cell y2 (by simp; omega)))); clear hO2 hG2 hne hgl)
      go_round
      case rel => exact ⟨i + 1, g2, cap2, m + nc, by omega, rfl, by go_num, hide (by rw [HQ.out, List.length_append, ← HNC.out, ← HM.out]), hide (by rw [HQ.out]; exact HO2.out), HB2, HN2, HX3⟩
      case measure => simp [intOf]; omega
    · obtain rfl : i = n := by omega
      rw [List.take_of_length_le (by rw [HN.out]; exact Nat.le_refl _)] at HM HO
      obtain ⟨K, hK⟩ : ∃ x, x = actN ⟨ak, ae⟩ := ⟨_, rfl⟩
      rw [← hK] at HA HPR
      obtain ⟨ll, hll⟩ : ∃ x, x = head3 ++ rulesP rs 0 := ⟨_, rfl⟩
      rw [← hll] at HM HO HPR
      clear hK hll hlt
      go_wp2_with fail
      refine (HA _).mono ?_
      rintro e w1 ⟨rfl, hb1⟩
      have HOl := hide (HO.out.on hb1)
      have HB1 := hide (below_next HB.out hb1)
      have hl1 := hb1.size
      clear hb1 y0 y1 y2
      go_wp2_with (refine wpList_app rfl _ _ rfl (w.heap.size + 1) (w.heap.size + 1) g capl w1.heap.size 1 m 1 ll [⟨8, 0, 0, K⟩] HM.out rfl rfl rfl (HOl.out.on (box_below _ _)) (Own.made w1 _ _ _ (by omega) (by simp) (by rfl)) (by simp) (by have := HM.out; simp only [List.length_singleton]; omega) ?_; intro g2 cap2 w2 hO2 hG2; have hgl := HOl.out.lt; have HO2 := hide hO2; have HB2 := hide (below_grown (below_next HB1.out (box_below w1 _)) hG2 (by omega) (below_next HB1.out (box_below w1 _)).size (Nat.le_refl _)); clear hO2 hG2 hgl)
      go_ret2
      exact ⟨⟨g2, cap2, by rw [HPR.out, List.length_append, ← HM.out]; rfl, by rw [HPR.out]; exact HO2.out.mono (by omega)⟩, HB2.out⟩
end Go.Proofs.Ytphkhfeofoadcab

/- The document's VerdictOf; what is closed of comp. -/
namespace Go.Proofs.Ytphkhfeofoadcab
open Go.RowKit Go.Sort

theorem verdictR_split (q r : Nat) (hr : r < 65536) : verdictR (q * 65536 + r) =
    if q = 32767 then (if r = 0 then some (⟨1, 0⟩, 0) else none) else if q = 0 then (if r = 0 then some (⟨3, 0⟩, 0) else none) else if q = 5 then (if 0 < r ∧ r < 256 then some (⟨2, (r : Nat)⟩, 0) else none)
    else if q = 32752 then (if r < 12 then some (⟨4, 0⟩, r) else none) else none := by
  unfold verdictR
  by_cases h1 : q = 32767
  · subst h1
    rw [if_pos rfl]
    by_cases h2 : r = 0
    · subst h2; rfl
    · rw [if_neg h2, if_neg (by omega), if_neg (by omega), if_neg (by omega), if_neg (by omega)]
  rw [if_neg h1]
  by_cases h2 : q = 0
  · subst h2
    rw [if_pos rfl]
    by_cases h3 : r = 0
    · subst h3; rfl
    · rw [if_neg h3, if_neg (by omega), if_neg (by omega), if_neg (by omega), if_neg (by omega)]
  rw [if_neg h2]
  by_cases h3 : q = 5
  · subst h3
    rw [if_pos rfl]
    by_cases h4 : 0 < r ∧ r < 256
    · rw [if_pos h4, if_neg (by omega), if_neg (by omega), if_pos (by omega), show 5 * 65536 + r - 327680 = r by omega]
    · rw [if_neg h4, if_neg (by omega), if_neg (by omega), if_neg (by omega), if_neg (by omega)]
  rw [if_neg h3]
  by_cases h4 : q = 32752
  · subst h4
    rw [if_pos rfl]
    by_cases h5 : r < 12
    · have e : 32752 * 65536 + r = 2146435072 + r := by omega
      rw [e, if_pos h5, if_neg (by omega), if_neg (by omega), if_neg (by omega), if_pos (by omega), Nat.add_sub_cancel_left]
    · rw [if_neg h5, if_neg (by omega), if_neg (by omega), if_neg (by omega), if_neg (by omega)]
  rw [if_neg h4, if_neg (by omega), if_neg (by omega), if_neg (by omega), if_neg (by omega)]

set_option maxHeartbeats 2000000 in
set_option maxRecDepth 100000 in
theorem vof_any (n : Nat) (hn : n < 4294967296) (w : World) : Calls Try.prog 8 #[.int .u32 n] w fun e w' => (∃ a i, e = .returned (.tuple #[.agg (verC a i), .bool (verdictR n).isSome]) ∧ (verdictR n = none ∨ verdictR n = some (a, i))) ∧ Below w.heap.size w w' := by
  have hres : (w.alloc (.cells #[.int .i64 0, .int .i64 0, .int .i64 0] 31)).heap[w.heap.size]? = some (.cells #[.int .i64 0, .int .i64 0, .int .i64 0] 31 (0, 0)) := heap_alloc_new _ _
  obtain ⟨q, hq⟩ : ∃ q, q = n / 65536 := ⟨_, rfl⟩
  obtain ⟨r, hr⟩ : ∃ r, r = n % 65536 := ⟨_, rfl⟩
  have hvs := verdictR_split q r (by omega)
  rw [show q * 65536 + r = n by omega] at hvs
  have HV := hide hvs
  clear hvs
  have i1 : (n : Int) / 65536 = q := by omega
  have i2 : (n : Int) % 65536 = r := by omega
  have hr6 : r < 65536 := by omega
  have hq6 : q < 65536 := by omega
  obtain ⟨V, hV⟩ : ∃ V, V = verdictR n := ⟨_, rfl⟩
  rw [← hV] at HV ⊢
  clear hq hr hV hn
  by_cases h1 : q = 32767
  · rw [if_pos h1] at HV
    have HB := hide (show V.isSome = ((r : Int) == 0) by rw [HV.out]; by_cases h : r = 0 <;> simp [h])
    have HC := hide (show V = none ∨ V = some (⟨1, 0⟩, 0) by rw [HV.out]; split <;> simp)
    subst h1
    go_enter Try.func8, Try.ntmps8
    go_wp2_with (refine wpList_store_row rfl 31 _ _ rfl w.heap.size (verC ⟨1, 0⟩ 0) rfl rfl 31 _ hres size_ver rfl (verC_one _ _) ?_)
    refine bodyPost_ret (v := .tuple #[.agg (verC ⟨1, 0⟩ 0), .bool ((r : Int) == 0)]) (results_ver rfl _ _ w.heap.size (verC ⟨1, 0⟩ 0) _ rfl rfl rfl (setRow_heap _ _ _ _ _ _ hres)) rfl ⟨⟨⟨1, 0⟩, 0, ?_, HC.out⟩, below_setRow (box_below _ _) (Nat.le_refl _) _⟩
    rw [HB.out]
  rw [if_neg h1] at HV
  have b1 : ((q : Int) == 32767) = false := by simp; omega
  by_cases h2 : q = 0
  · rw [if_pos h2] at HV
    have HB := hide (show V.isSome = ((r : Int) == 0) by rw [HV.out]; by_cases h : r = 0 <;> simp [h])
    have HC := hide (show V = none ∨ V = some (⟨3, 0⟩, 0) by rw [HV.out]; split <;> simp)
    subst h2
    clear h1
    go_enter Try.func8, Try.ntmps8
    go_wp2_with (refine wpList_store_row rfl 31 _ _ rfl w.heap.size (verC ⟨3, 0⟩ 0) rfl rfl 31 _ hres size_ver rfl (verC_one _ _) ?_)
    refine bodyPost_ret (v := .tuple #[.agg (verC ⟨3, 0⟩ 0), .bool ((r : Int) == 0)]) (results_ver rfl _ _ w.heap.size (verC ⟨3, 0⟩ 0) _ rfl rfl rfl (setRow_heap _ _ _ _ _ _ hres)) rfl ⟨⟨⟨3, 0⟩, 0, ?_, HC.out⟩, below_setRow (box_below _ _) (Nat.le_refl _) _⟩
    rw [HB.out]
  rw [if_neg h2] at HV
  have b2 : ((q : Int) == 0) = false := by simp; omega
  by_cases h3 : q = 5
  · rw [if_pos h3] at HV
    have HB := hide (show V.isSome = (decide ((0 : Int) < r) && decide ((r : Int) < 256)) by
      rw [HV.out, Bool.eq_iff_iff]
      by_cases h : 0 < r ∧ r < 256
      · rw [if_pos h]; simp; omega
      · rw [if_neg h]; simp; omega)
    have HC := hide (show V = none ∨ V = some (⟨2, (r : Nat)⟩, 0) by rw [HV.out]; split <;> simp)
    subst h3
    clear h1 h2
    by_cases hz : 0 < r
    · have j1 : decide ((0 : Int) < r) = true := by simp; omega
      by_cases hy : r < 256
      · have j2 : decide ((r : Int) < 256) = true := by simp; omega
        rw [j1, j2, Bool.true_and] at HB
        go_enter Try.func8, Try.ntmps8
        go_wp2_with (refine wpList_store_row rfl 31 _ _ rfl w.heap.size (verC ⟨2, r⟩ 0) rfl rfl 31 _ hres size_ver rfl (verC_one _ _) ?_)
        refine bodyPost_ret (v := .tuple #[.agg (verC ⟨2, r⟩ 0), .bool true]) (results_ver rfl _ _ w.heap.size (verC ⟨2, r⟩ 0) _ rfl rfl rfl (setRow_heap _ _ _ _ _ _ hres)) rfl ⟨⟨⟨2, r⟩, 0, ?_, HC.out⟩, below_setRow (box_below _ _) (Nat.le_refl _) _⟩
        rw [HB.out]
      · have j2 : decide ((r : Int) < 256) = false := by simp; omega
        rw [j1, j2, Bool.true_and] at HB
        go_enter Try.func8, Try.ntmps8
        go_wp2_with (refine wpList_store_row rfl 31 _ _ rfl w.heap.size (verC ⟨2, r⟩ 0) rfl rfl 31 _ hres size_ver rfl (verC_one _ _) ?_)
        refine bodyPost_ret (v := .tuple #[.agg (verC ⟨2, r⟩ 0), .bool false]) (results_ver rfl _ _ w.heap.size (verC ⟨2, r⟩ 0) _ rfl rfl rfl (setRow_heap _ _ _ _ _ _ hres)) rfl ⟨⟨⟨2, r⟩, 0, ?_, HC.out⟩, below_setRow (box_below _ _) (Nat.le_refl _) _⟩
        rw [HB.out]
    · have j1 : decide ((0 : Int) < r) = false := by simp; omega
      rw [j1, Bool.false_and] at HB
      go_enter Try.func8, Try.ntmps8
      go_wp2_with (refine wpList_store_row rfl 31 _ _ rfl w.heap.size (verC ⟨2, r⟩ 0) rfl rfl 31 _ hres size_ver rfl (verC_one _ _) ?_)
      refine bodyPost_ret (v := .tuple #[.agg (verC ⟨2, r⟩ 0), .bool false]) (results_ver rfl _ _ w.heap.size (verC ⟨2, r⟩ 0) _ rfl rfl rfl (setRow_heap _ _ _ _ _ _ hres)) rfl ⟨⟨⟨2, r⟩, 0, ?_, HC.out⟩, below_setRow (box_below _ _) (Nat.le_refl _) _⟩
      rw [HB.out]
  rw [if_neg h3] at HV
  have b3 : ((q : Int) == 5) = false := by simp; omega
  by_cases h4 : q = 32752
  · rw [if_pos h4] at HV
    have HB := hide (show V.isSome = decide ((r : Int) < 12) by
      rw [HV.out, Bool.eq_iff_iff]
      by_cases h : r < 12
      · rw [if_pos h]; simp; omega
      · rw [if_neg h]; simp; omega)
    have HC := hide (show V = none ∨ V = some (⟨4, 0⟩, r) by rw [HV.out]; split <;> simp)
    subst h4
    clear h1 h2 h3
    go_enter Try.func8, Try.ntmps8
    go_wp2_with (refine wpList_store_row rfl 31 _ _ rfl w.heap.size (verC ⟨4, 0⟩ r) rfl rfl 31 _ hres size_ver rfl (verC_one _ _) ?_)
    refine bodyPost_ret (v := .tuple #[.agg (verC ⟨4, 0⟩ r), .bool (decide ((r : Int) < 12))]) (results_ver rfl _ _ w.heap.size (verC ⟨4, 0⟩ r) _ rfl rfl rfl (setRow_heap _ _ _ _ _ _ hres)) rfl ⟨⟨⟨4, 0⟩, r, ?_, HC.out⟩, below_setRow (box_below _ _) (Nat.le_refl _) _⟩
    rw [HB.out]
  rw [if_neg h4] at HV
  have b4 : ((q : Int) == 32752) = false := by simp; omega
  have HB := hide (show V.isSome = false by rw [HV.out]; rfl)
  clear h1 h2 h3 h4
  go_enter Try.func8, Try.ntmps8
  go_wp2_with (refine wpList_store_row rfl 31 _ _ rfl w.heap.size (verC ⟨0, 0⟩ 0) rfl rfl 31 _ hres size_ver rfl (verC_one _ _) ?_)
  refine bodyPost_ret (v := .tuple #[.agg (verC ⟨0, 0⟩ 0), .bool false]) (results_ver rfl _ _ w.heap.size (verC ⟨0, 0⟩ 0) _ rfl rfl rfl (setRow_heap _ _ _ _ _ _ hres)) rfl ⟨⟨⟨0, 0⟩, 0, ?_, .inl HV.out⟩, below_setRow (box_below _ _) (Nat.le_refl _) _⟩
  rw [HB.out]
end Go.Proofs.Ytphkhfeofoadcab

/- policy.Decide. -/
namespace Go.Proofs.Ytphkhfeofoadcab
open Go.RowKit Go.Sort

theorem four_box (w : World) (x y z u : Array Value) (tx ty tz tu : TypeId) : ∃ V, V = (((w.alloc (.cells x tx)).alloc (.cells y ty)).alloc (.cells z tz)).alloc (.cells u tu) ∧ Below w.heap.size w V ∧ V.heap.size = w.heap.size + 4 ∧ (∀ j : Nat, V.cell? ⟨w.heap.size, j, none⟩ = x[j]?) ∧ (∀ j : Nat, V.cell? ⟨w.heap.size + 1, j, none⟩ = y[j]?) ∧ (∀ j : Nat, V.cell? ⟨w.heap.size + 2, j, none⟩ = z[j]?) ∧ V.heap[w.heap.size + 3]? = some (.cells u tu (0, 0)) := by
  obtain ⟨U, hU, hb, hs, h1, h2, h3⟩ := three_box w x y z tx ty tz
  refine ⟨U.alloc (.cells u tu), by rw [hU], below_next hb (box_below _ _), by rw [World.size_alloc, hs], fun j => ?_, fun j => ?_, fun j => ?_, ?_⟩
  · rw [← h1 j]; exact (bcell (box_below U _)).1 _ j (by omega)
  · rw [← h2 j]; exact (bcell (box_below U _)).1 _ j (by omega)
  · rw [(bcell (box_below U _)).1 _ j (by omega)]; exact cell_of_row _ _ j _ _ _ h3
  · rw [← hs]; exact heap_alloc_new _ _

end Go.Proofs.Ytphkhfeofoadcab

/- What judging by registers tells of deciding. -/
namespace Go.Proofs.Ytphkhfeofoadcab

theorem act_kind {a : ACT} (h : actF a = 0) : a.kind ≠ 4 := by
  rcases act_cases h with rfl | rfl | ⟨n, _, _, rfl⟩ <;> simp
theorem num_lead {c : CD} (h : numB c = true) (v : VS) : leadB v c = true := by
  unfold numB kindOp at h
  unfold leadB
  split at h
  · cases h
  · rename_i h8
    rw [if_neg h8]
    split at h
    · cases h
    · rename_i h9
      rw [if_neg h9]
theorem flat_leads {r : RL} (h : deepB r = false) (v : VS) : leadsB r v = true := by
  unfold leadsB
  rw [List.all_eq_true]
  intro c hc
  apply num_lead
  unfold deepB at h
  rw [List.any_eq_false] at h
  have := h c hc
  simpa using this
theorem decide_kind (k : KL) (v : VS) (els : ACT) (he : actF els = 0) : ∀ rs : List RL, (∀ r ∈ rs, actF r.act = 0) → (decideFrom k v els rs).kind ≠ 4
  | [], _ => act_kind he
  | r :: t, h => by
    rw [decideFrom]
    split
    · exact act_kind (h r (List.mem_cons_self ..))
    · exact decide_kind k v els he t fun x hx => h x (List.mem_cons_of_mem _ hx)
theorem judge_decide (k : KL) (v : VS) (els : ACT) (he : actF els = 0) : ∀ (rs : List RL) (i : Nat), (∀ r ∈ rs, actF r.act = 0) →
    ((judgeFrom k els rs i).1.kind = 4 ∧ i ≤ (judgeFrom k els rs i).2 ∧ (judgeFrom k els rs i).2 < i + rs.length ∧ decideFrom k v els (rs.drop ((judgeFrom k els rs i).2 - i)) = decideFrom k v els rs) ∨
    ((judgeFrom k els rs i).1.kind ≠ 4 ∧ (judgeFrom k els rs i).2 = 0 ∧ decideFrom k v els rs = (judgeFrom k els rs i).1)
  | [], i, _ => .inr ⟨act_kind he, rfl, rfl⟩
  | r :: t, i, h => by
    rw [judgeFrom]
    by_cases hf : fitsB r k = true
    · rw [if_pos hf]
      cases hd : deepB r with
      | true => exact .inl ⟨rfl, Nat.le_refl _, by simp, by simp⟩
      | false =>
        refine .inr ⟨act_kind (h r (List.mem_cons_self ..)), rfl, ?_⟩
        rw [decideFrom, hf, flat_leads hd]
        rfl
    · rw [if_neg hf]
      have hd : decideFrom k v els (r :: t) = decideFrom k v els t := by rw [decideFrom, Bool.eq_false_iff.2 hf]; rfl
      rw [hd]
      rcases judge_decide k v els he t (i + 1) (fun x hx => h x (List.mem_cons_of_mem _ hx)) with ⟨a, b, c, d⟩ | ⟨a, b, c⟩
      · refine .inl ⟨a, by omega, by rw [List.length_cons]; omega, ?_⟩
        rw [show (judgeFrom k els t (i + 1)).2 - i = ((judgeFrom k els t (i + 1)).2 - (i + 1)) + 1 by omega, List.drop_succ_cons]
        exact d
      · exact .inr ⟨a, b, c⟩
theorem firstF_drop : ∀ (l : List Nat) (i : Nat), firstF l = 0 → firstF (l.drop i) = 0
  | _, 0, h => h
  | [], i + 1, _ => rfl
  | x :: r, i + 1, h => by
    rw [firstF] at h
    split at h
    · exact firstF_drop r i h
    · rename_i hx; exact absurd h hx
theorem polF_drop {p : POL} (h : polF p = 0) (i : Nat) : polF ⟨p.rules.drop i, p.els⟩ = 0 := by
  unfold polF at h ⊢
  split at h
  · cases h
  · rename_i hl
    split at h
    · rename_i ha
      rw [if_neg (by simp; omega)]
      simp only
      rw [if_pos ha, List.map_drop]
      exact firstF_drop _ i h
    · rename_i ha; exact absurd h ha
/-- What the whole says of a right policy. -/
theorem top_laws {p : POL} (h : PolOk p) (k : KL) (v : VS) :
    ((judgeR p k).1.kind = 4 ∧ (judgeR p k).2 < p.rules.length ∧ (decideR p k v).kind ≠ 4 ∧ decideR ⟨p.rules.drop (judgeR p k).2, p.els⟩ k v = decideR p k v) ∨
    ((judgeR p k).1.kind ≠ 4 ∧ (judgeR p k).2 = 0 ∧ decideR p k v = (judgeR p k).1) := by
  unfold judgeR decideR
  by_cases ha : k.arch = 3221225534
  · simp only [if_pos ha]
    have hr : ∀ r ∈ p.rules, actF r.act = 0 := fun r hr => (h.rules r hr).act
    rcases judge_decide k v p.els h.els p.rules 0 hr with ⟨a, _, c, d⟩ | ⟨a, b, c⟩
    · rw [Nat.sub_zero] at d
      exact .inl ⟨a, by omega, decide_kind k v p.els h.els p.rules hr, d⟩
    · exact .inr ⟨a, b, c⟩
  · simp only [if_neg ha]
    exact .inr (by simp)
end Go.Proofs.Ytphkhfeofoadcab

/- LightPolicy, LightValues. -/
namespace Go.Proofs.Ytphkhfeofoadcab
open Go.RowKit Go.Sort

def lightC (c : CD) : Bool := decide (c.glob.size ≤ 60)
def lightR (r : RL) : Bool := decide (r.conds.length ≤ 6) && r.conds.all lightC
def lightB (p : POL) : Bool := decide (p.rules.length ≤ 14) && p.rules.all lightR
def lightVL (v : VL) : Bool := decide (v.path.size ≤ 100)
def lightTo (v : VS) : Nat → Bool
  | 0 => true
  | i + 1 => lightTo v i && lightVL (v.at i)
def lightV (v : VS) : Bool := lightTo v 4
theorem lightTo_false {v : VS} {i : Nat} (h : lightTo v i = false) : ∀ k, lightTo v (i + k) = false
  | 0 => h
  | k + 1 => by rw [← Nat.add_assoc, lightTo, lightTo_false h k, Bool.false_and]

set_option maxHeartbeats 4000000 in
theorem lightPol_any (p : POL) (oa : Option Addr) (cap : Nat) (w : World) (h : IsPol oa cap p w) :
    Calls Try.prog 6 #[polV p oa cap] w fun e w' => e = .returned (.bool (lightB p)) ∧ Below w.heap.size w w' := by
  obtain ⟨n, hn⟩ : ∃ n, n = p.rules.length := ⟨_, rfl⟩
  have HC := hide (pol_parts h n hn)
  have hmax : n ≤ 9223372036854775807 := by have h1 := h.le; have h2 := h.cap; unfold maxLen at h2; omega
  clear h
  obtain ⟨rs, ⟨ak, ae⟩⟩ := p
  unfold polV
  simp only at HC hn ⊢
  rw [← hn]
  have HZ := hide (show lightB ⟨rs, ⟨ak, ae⟩⟩ = (decide (n ≤ 14) && rs.all lightR) by rw [hn]; rfl)
  obtain ⟨z, hz⟩ : ∃ z, z = lightB ⟨rs, ⟨ak, ae⟩⟩ := ⟨_, rfl⟩
  rw [← hz] at HZ ⊢
  have HN := hide hn
  have HL := hide (show ∀ i, i < n → ∃ c, rs[i]? = some c ∧ rs.take (i + 1) = rs.take i ++ [c] from fun i h => take_next (by omega))
  clear hn hz
  obtain ⟨V, hV, hB, hsz, hx⟩ := one_box w #[.slice oa n cap, .int .i64 ak, .int .i64 ae] 27
  have x0 := hx 0
  simp only [List.getElem?_toArray, List.getElem?_cons_zero] at x0
  clear hx
  by_cases h14 : 14 < n
  · have HF := hide (show z = false by rw [HZ.out, decide_eq_false (by omega), Bool.false_and])
    go_enter Try.func6, Try.ntmps6
    go_wp2
    go_ret
    exact ⟨ret_bool HF.out.symm, box_below _ _⟩
  have HZ2 := hide (show z = rs.all lightR by rw [HZ.out, decide_eq_true (by omega), Bool.true_and])
  clear HZ
  go_enter Try.func6, Try.ntmps6
  go_wp2
  rw [← hV]
  clear hV
  go_loopw [3] (fun I w' => ∃ i : Nat, i ≤ n ∧ I = .int .i64 i ∧ Hid ((rs.take i).all lightR = true) ∧ w' = V) (fun I _ => n - (intOf I).toNat)
  case atStart => exact ⟨0, by omega, rfl, hide rfl, rfl⟩
  case round =>
    obtain ⟨i, hi, rfl, HG, hwr⟩ := hrel
    replace hwr := hwr.symm
    subst hwr
    by_cases hlt : i < n
    · obtain ⟨c, hcs, hcat⟩ := HL.out i hlt
      obtain ⟨b, off, rfl, hbw, HA⟩ := HC.out (by omega)
      obtain ⟨ca, cc, hR0⟩ := HA.out i c hcs
      have hR := hR0.on hbw hB
      clear hR0
      have k1 := hR.k1
      have HQ := hide (all_take_snoc (f := lightR) hcat HG.out)
      obtain ⟨m, hm⟩ : ∃ m, m = c.conds.length := ⟨_, rfl⟩
      rw [← hm] at k1
      have HCC := hide (conds_parts hR.conds m hm)
      have hmm : m ≤ 9223372036854775807 := by have h1 := hR.le; have h2 := hR.cap; unfold maxLen at h2; omega
      have HLR := hide (show lightR c = (decide (m ≤ 6) && c.conds.all lightC) by rw [hm]; rfl)
      have HCL := hide (show ∀ j, j < m → ∃ x, c.conds[j]? = some x ∧ c.conds.take (j + 1) = c.conds.take j ++ [x] from fun j h => take_next (by omega))
      have HM := hide hm
      clear hm hR hcs hcat
      by_cases h6 : 6 < m
      · have HF := hide (show z = false by
          rw [HZ2.out]
          refine all_take_false (i := i + 1) ?_
          rw [HQ.out, HLR.out, decide_eq_false (by omega), Bool.false_and])
        go_wp2
        go_ret
        exact ⟨ret_bool HF.out.symm, hB⟩
      have HLR2 := hide (show lightR c = c.conds.all lightC by rw [HLR.out, decide_eq_true (by omega), Bool.true_and])
      clear HLR
      go_wp2
      go_loopw [4] (fun J w' => ∃ j : Nat, j ≤ m ∧ J = .int .i64 j ∧ Hid ((c.conds.take j).all lightC = true) ∧ w' = V) (fun J _ => m - (intOf J).toNat)
      case atStart => exact ⟨0, by omega, rfl, hide rfl, rfl⟩
      case round =>
        obtain ⟨j, hj, rfl, HGJ, hwr⟩ := hrel
        replace hwr := hwr.symm
        subst hwr
        by_cases hjl : j < m
        · obtain ⟨x, hxs, hxcat⟩ := HCL.out j hjl
          obtain ⟨b2, off2, rfl, hbw2, HA2⟩ := HCC.out (by omega)
          have k4 := (HA2.out j x hxs).k4
          have HQ2 := hide (all_take_snoc (f := lightC) hxcat HGJ.out)
          have HLC := hide (show lightC x = decide (x.glob.size ≤ 60) from rfl)
          obtain ⟨gl, hgl⟩ : ∃ g, g = x.glob := ⟨_, rfl⟩
          rw [← hgl] at k4 HLC
          clear hgl hxs hxcat
          by_cases h60 : 60 < gl.size
          · have HF := hide (show z = false by
              rw [HZ2.out]
              refine all_take_false (i := i + 1) ?_
              rw [HQ.out, HLR2.out]
              refine all_take_false (i := j + 1) ?_
              rw [HQ2.out, HLC.out, decide_eq_false (by omega)])
            go_wp2
            go_ret
            exact ⟨ret_bool HF.out.symm, hB⟩
          · replace HQ2 := hide (show (c.conds.take (j + 1)).all lightC = true by rw [HQ2.out, HLC.out, decide_eq_true (by omega)])
            go_wp2
            go_round
            case rel => exact ⟨j + 1, by omega, by go_num, HQ2, trivial⟩
            case measure => simp [intOf]; omega
        · obtain rfl : j = m := by omega
          have HQ3 := hide (show (rs.take (i + 1)).all lightR = true by
            rw [HQ.out, HLR2.out]
            have := HGJ.out
            rwa [List.take_of_length_le (by rw [HM.out]; exact Nat.le_refl _)] at this)
          go_wp2
          go_round
          case rel => exact ⟨i + 1, by omega, by go_num, HQ3, trivial⟩
          case measure => simp [intOf]; omega
    · obtain rfl : i = n := by omega
      have HF := hide (show z = true by
        have := HG.out
        rw [List.take_of_length_le (by rw [HN.out]; exact Nat.le_refl _)] at this
        rw [HZ2.out, this])
      go_wp2
      go_ret
      exact ⟨ret_bool HF.out.symm, hB⟩

end Go.Proofs.Ytphkhfeofoadcab

/- SamePolicy, of two that are alike. -/
namespace Go.Proofs.Ytphkhfeofoadcab
open Go.RowKit Go.Sort

end Go.Proofs.Ytphkhfeofoadcab
