/- policy.Check: rules, and a policy. -/
import Derived.Test.YtklibmijiecbfaaGreatK7
import Derived.Deep.RegionHeld3
import Derived.Deep.RegionWith
namespace Go.Proofs.YtklibmijiecbfaaGreat
open Go.RowKit Go.Sort

theorem one_box (w : World) (x : Array Value) (tx : TypeId) : ∃ V, V = w.alloc (.cells x tx) ∧ Below w.heap.size w V ∧ w.heap.size < V.heap.size ∧ (∀ j : Nat, V.cell? ⟨w.heap.size, j, none⟩ = x[j]?) :=
  ⟨_, rfl, box_below w _, by rw [World.size_alloc]; omega, fun j => World.cell?_alloc_new w x tx j⟩

theorem keep_cell {X Y : World} {b o : Nat} {v : Value} (hb : Below X.heap.size X Y) (h : X.cell? ⟨b, o, none⟩ = some v) : Y.cell? ⟨b, o, none⟩ = some v := ((bcell hb).1 b o (block_lt_of_cell h)).trans h

theorem forget_any {R : World → Prop} {W0 : World} (F : World → Prop) (h : F W0) (H : ∀ W, F W → R W) : R W0 := H _ h
structure KX (V : World) (k kb : Nat) (X : World) : Prop where
  below : Below V.heap.size V X
  kinds : ∀ j, j < 4 → X.cell? ⟨kb, j, none⟩ = some (.int .i64 (kindAt k j : Nat))
theorem take_next {α : Type} {cs : List α} {i : Nat} (h : i < cs.length) : ∃ c, cs[i]? = some c ∧ cs.take (i + 1) = cs.take i ++ [c] :=
  ⟨cs[i], List.getElem?_eq_getElem h, by rw [List.take_add_one, List.getElem?_eq_getElem h]; rfl⟩
theorem firstF_append : ∀ a b : List Nat, firstF (a ++ b) = if firstF a = 0 then firstF b else firstF a
  | [], b => by simp [firstF]
  | x :: r, b => by
    rw [List.cons_append, firstF, firstF]
    by_cases h : x = 0
    · rw [if_pos h, if_pos h, firstF_append r b]
    · rw [if_neg h, if_neg h, if_neg h]
theorem firstF_one (x : Nat) : firstF [x] = x := by
  by_cases h : x = 0
  · simp [firstF, h]
  · simp [firstF]
    omega
theorem four {j : Nat} (h : j < 4) : j = 0 ∨ j = 1 ∨ j = 2 ∨ j = 3 := by omega
theorem KX.made {V w1 : World} {k : Nat} (hb : Below V.heap.size V w1) : KX V k w1.heap.size (w1.alloc (.cells #[.int .i64 (kindAt k 0 : Nat), .int .i64 (kindAt k 1 : Nat), .int .i64 (kindAt k 2 : Nat), .int .i64 (kindAt k 3 : Nat)] 126)) :=
  ⟨hb.alloc hb.size _, fun j hj => by
    rw [World.cell?_alloc_new]
    rcases four hj with rfl | rfl | rfl | rfl <;> rfl⟩
theorem sc {X : World} {b j : Nat} {v : Value} (h : X.cell? ⟨b, j, none⟩ = some v) (i : Nat) (u : Value) : (X.setCell ⟨b, i, none⟩ u).cell? ⟨b, j, none⟩ = some (if i = j then u else v) := by
  by_cases e : i = j
  · subst e
    rw [if_pos rfl]
    exact World.cell?_setCell_same _ _ _ h
  · rw [if_neg e, World.cell?_setCell_other _ _ _ _ (by simp_all)]
    exact h
theorem drewA {V w1 : World} (hb : Below V.drew.heap.size V.drew w1) : Below V.heap.size V w1 := ⟨hb.os, hb.tape, hb.output, hb.size, hb.block⟩
theorem drewB {V w1 : World} {o : Obj} (hb : Below (V.alloc o).drew.heap.size (V.alloc o).drew w1) : Below V.heap.size V w1 := below_next (box_below V o) (drewA hb)
theorem KX.set {V w1 : World} {k : Nat} (hb : Below V.heap.size V w1) (h : ∀ j, j < 4 → w1.cell? ⟨V.heap.size, j, none⟩ = some (.int .i64 0)) : KX V k V.heap.size ((((w1.setCell ⟨V.heap.size, 0, none⟩ (.int .i64 (kindAt k 0 : Nat))).setCell ⟨V.heap.size, 1, none⟩ (.int .i64 (kindAt k 1 : Nat))).setCell ⟨V.heap.size, 2, none⟩ (.int .i64 (kindAt k 2 : Nat))).setCell ⟨V.heap.size, 3, none⟩ (.int .i64 (kindAt k 3 : Nat))) := by
  refine ⟨?_, fun j hj => ?_⟩
  · exact (((hb.setCell (p := ⟨V.heap.size, 0, none⟩) (Nat.le_refl _) _).setCell (p := ⟨V.heap.size, 1, none⟩) (Nat.le_refl _) _).setCell (p := ⟨V.heap.size, 2, none⟩) (Nat.le_refl _) _).setCell (p := ⟨V.heap.size, 3, none⟩) (Nat.le_refl _) _
  · rw [sc (sc (sc (sc (h j hj) 0 _) 1 _) 2 _) 3 _]
    rcases four hj with rfl | rfl | rfl | rfl <;> rfl

set_option maxHeartbeats 4000000 in
theorem checkRule_any (r : RL) (oa : Option Addr) (cap : Nat) (w : World) (hc : IsConds oa r.conds w) (hr : RlOk r) (hcap : r.conds.length ≤ cap ∧ cap ≤ maxLen) :
    Calls Tryz.prog 43 #[ruleV r oa cap] w fun e w' => e = .returned (errV (ruleF r)) ∧ Below w.heap.size w w' := by
  obtain ⟨nr, cs, ⟨ak, ae⟩⟩ := r
  unfold ruleV
  simp only at hc hcap ⊢
  obtain ⟨n, hn⟩ : ∃ n, n = cs.length := ⟨_, rfl⟩
  rw [← hn] at hcap ⊢
  have hmax : n ≤ 9223372036854775807 := by have := hcap.2; unfold maxLen at this; omega
  by_cases h0 : nr < 0 ∨ 8 < nr
  · rw [show ruleF ⟨nr, cs, ⟨ak, ae⟩⟩ = 1 from if_pos h0]
    go_enter Tryz.func43, Tryz.ntmps43
    go_wp2
    all_goals first
      | omega
      | (go_ret
         exact ⟨rfl, box_below _ _⟩)
  have hf0 : ruleF ⟨nr, cs, ⟨ak, ae⟩⟩ = if 4 < cs.length then 2 else if firstF (cs.map (condF nr.toNat)) = 0 then actF ⟨ak, ae⟩ else firstF (cs.map (condF nr.toNat)) := if_neg h0
  obtain ⟨k, rfl⟩ : ∃ k : Nat, nr = k := ⟨nr.toNat, by omega⟩
  have hk8 : k ≤ 8 := by omega
  rw [Int.toNat_natCast, ← hn] at hf0
  have i1 : ¬ (k : Int) < 0 := by omega
  have i2 : ¬ (9 : Int) ≤ k := by omega
  by_cases h4 : 4 < n
  · have HF := hide (hf0.trans (if_pos h4))
    clear hf0 hn
    go_enter Tryz.func43, Tryz.ntmps43
    go_wp2
    go_ret
    exact ⟨by rw [HF.out]; rfl, box_below _ _⟩
  rw [if_neg h4] at hf0
  have HF := hide hf0
  have HN := hide hn
  have HC := hide (show 0 < n → ∃ b off, oa = some ⟨b, off, none⟩ ∧ b < w.heap.size ∧ Hid (∀ i c, cs[i]? = some c → CondAt w b (off + i * 9) c) from fun h => by
    obtain ⟨b, off, q1, q2, q3⟩ := hc.lie (by omega)
    exact ⟨b, off, q1, q2, hide q3⟩)
  have HL := hide (show ∀ i, i < n → ∃ c, cs[i]? = some c ∧ cs.take (i + 1) = cs.take i ++ [c] from fun i h => take_next (by omega))
  clear hc hr
  have i3 : ¬ (4 : Int) < n := by omega
  have fx := forms_index k hk8
  have fk := form_kinds k
  unfold kindsV at fk
  have HFO := forms_any
  obtain ⟨FA, hFA⟩ : ∃ a, a = formsArr := ⟨_, rfl⟩
  rw [← hFA] at fx HFO
  obtain ⟨FV, hFV⟩ : ∃ a, a = formV k := ⟨_, rfl⟩
  rw [← hFV] at fx fk
  clear hFA hFV hf0 hn h0 hcap
  go_enter Tryz.func43, Tryz.ntmps43
  go_wp2
  obtain ⟨V, hV, hB, hsz, hx⟩ := one_box w #[.int .i64 k, .slice oa n cap, .int .i64 ak, .int .i64 ae] 41
  rw [← hV]
  clear hV
  have c0 := hx 0
  obtain ⟨Z, hZ⟩ : ∃ Z : Obj, Z = .cells #[.int .i64 0, .int .i64 0, .int .i64 0, .int .i64 0] 126 := ⟨_, rfl⟩
  have z0 : ∀ j : Nat, j < 4 → (V.alloc Z).cell? ⟨V.heap.size, j, none⟩ = some (.int .i64 0) := fun j hj => by
    rw [hZ, World.cell?_alloc_new]
    rcases (by omega : j = 0 ∨ j = 1 ∨ j = 2 ∨ j = 3) with rfl | rfl | rfl | rfl <;> rfl
  have z1 : ∀ j : Nat, (V.alloc Z).frozen? ⟨V.heap.size, j, none⟩ = false := fun j => by rw [hZ]; exact World.frozen?_alloc_new _ _ _ _
  rw [hZ] at z0 z1
  clear hZ
  go_region_with (first
    | (go_at_call 75; refine (HFO V.drew).mono ?_; rintro e w1 ⟨rfl, hb1⟩; have c1 := keep_cell (o := 0) (v := .int .i64 k) (b := w.heap.size) hb1 c0; have l1 : w.heap.size < w1.heap.size := block_lt_of_cell c1; have HK := hide (KX.made (k := k) (drewA hb1)))
    | (go_at_call 75; refine (HFO (V.alloc _).drew).mono ?_; rintro e w1 ⟨rfl, hb1⟩; have c1 := keep_cell (o := 0) (v := .int .i64 k) (b := w.heap.size) hb1 (keep_cell (box_below V _) c0 : (V.alloc _).cell? _ = _); have l1 : w.heap.size < w1.heap.size := block_lt_of_cell c1; have d0 := keep_cell hb1 (z0 0 (by omega)); have d1 := keep_cell hb1 (z0 1 (by omega)); have d2 := keep_cell hb1 (z0 2 (by omega)); have d3 := keep_cell hb1 (z0 3 (by omega)); have f0 := ((bcell hb1).2 V.heap.size 0 (block_lt_of_cell (z0 0 (by omega)))).trans (z1 0); have f1 := ((bcell hb1).2 V.heap.size 1 (block_lt_of_cell (z0 0 (by omega)))).trans (z1 1); have f2 := ((bcell hb1).2 V.heap.size 2 (block_lt_of_cell (z0 0 (by omega)))).trans (z1 2); have f3 := ((bcell hb1).2 V.heap.size 3 (block_lt_of_cell (z0 0 (by omega)))).trans (z1 3); have HK := hide (KX.set (k := k) (drewB hb1) (fun j hj => keep_cell hb1 (z0 j hj)))))
  all_goals
    refine forget_any (KX V k _) HK.out ?_
    clear HK
    intro X hX
    have k0 := keep_cell hX.below (hx 0)
    have k1 := keep_cell hX.below (hx 1)
    have k2 := keep_cell hX.below (hx 2)
    have k3 := keep_cell hX.below (hx 3)
    go_wp2
    go_loopw [28] (fun I w' => ∃ i : Nat, i ≤ n ∧ I = .int .i64 i ∧ Hid (Below X.heap.size X w') ∧ Hid (firstF ((cs.take i).map (condF k)) = 0)) (fun I _ => n - (intOf I).toNat)
    case atStart => exact ⟨0, by omega, rfl, hide (Below.refl _ _), hide rfl⟩
    case round =>
      obtain ⟨i, hi, rfl, HB, HG⟩ := hrel
      by_cases hlt : i < n
      · obtain ⟨c, hcs, hcat⟩ := HL.out i hlt
        obtain ⟨b, off, rfl, hbw, HA⟩ := HC.out (by omega)
        have hA := (HA.out i c hcs).on fun j => (bcell (below_next (below_next (below_next hB hX.below) HB.out) (Below.refl _ _))).1 b j hbw
        have hok := hA.ok
        obtain ⟨f, hf⟩ : ∃ f, f = condF k c := ⟨_, rfl⟩
        have HQ := hide (show firstF ((cs.take (i + 1)).map (condF k)) = f by rw [hcat, List.map_append, firstF_append, if_pos HG.out, hf]; exact firstF_one _)
        have HCC := fun w => checkCond_any k c hok w
        rw [← hf] at HCC
        clear hf hok hcs hcat
        have g1 := cell_regrown (keep_cell HB.out k1)
        have e0 := cell_regrown (keep_cell HB.out (hX.kinds 0 (by omega)))
        have e1 := cell_regrown (keep_cell HB.out (hX.kinds 1 (by omega)))
        have e2 := cell_regrown (keep_cell HB.out (hX.kinds 2 (by omega)))
        have e3 := cell_regrown (keep_cell HB.out (hX.kinds 3 (by omega)))
        obtain ⟨a0, a1, a2, a3, a4, a5, a6, a7, a8, _⟩ := hA
        replace a0 := cell_regrown a0
        replace a1 := cell_regrown a1
        replace a2 := cell_regrown a2
        replace a3 := cell_regrown a3
        replace a4 := cell_regrown a4
        replace a5 := cell_regrown a5
        replace a6 := cell_regrown a6
        replace a7 := cell_regrown a7
        replace a8 := cell_regrown a8
        obtain ⟨arg, op, v, m, gl, ⟨ip, bb, lo, hh⟩⟩ := c
        unfold condV kindsV at HCC
        simp only at a0 a1 a2 a3 a4 a5 a6 a7 a8 HCC
        obtain ⟨ev, hev⟩ : ∃ e, e = errV f := ⟨_, rfl⟩
        rw [← hev] at HCC
        have cC : ∀ d os, Calls Tryz.prog 76 #[.agg #[.int .i64 arg, .int .i64 op, .int .u64 v, .int .u64 m, .string gl, .int .u32 ip, .int .i64 bb, .int .i64 lo, .int .i64 hh], .agg #[.int .i64 (kindAt k 0 : Nat), .int .i64 (kindAt k 1 : Nat), .int .i64 (kindAt k 2 : Nat), .int .i64 (kindAt k 3 : Nat)]] (grow (redrawn wr d) os) fun e w'' => e = .returned ev ∧ ∃ p : Regrown, w'' = grow (redrawn wr p.d) p.os := fun d os => Calls.regrown_of (HCC _)
        clear HCC
        have i5 : (0 : Int) ≤ i := by omega
        have i6 : (i : Int) < n := by omega
        go_wp2
        refine wp_region_quiet_below (by kernel_rfl) (by kernel_rfl) ?_
        repeat (go_big_quiet_step (first | (go_at_call 76; exact cC _ _)))
        refine wpQuiet_nil ?_
        intro _ hw'
        obtain ⟨⟨dq, osq⟩, hw''⟩ := hw'
        subst hw''
        clear a0 a1 a2 a3 a4 a5 a6 a7 a8 g1 e0 e1 e2 e3 cC
        by_cases hz : f = 0
        · subst hz
          obtain rfl : ev = .nilIface := hev
          go_wp2
          go_round
          case rel => exact ⟨i + 1, by omega, by go_num, hide (below_next HB.out (below_regrown wr dq osq)), HQ⟩
          case measure => simp [intOf]; omega
        · rw [errV_pos hz] at hev
          subst hev
          have HE := hide (show ruleF ⟨k, cs, ⟨ak, ae⟩⟩ = f by
            have h1 : firstF (cs.map (condF k)) = f := by
              rw [← List.take_append_drop (i + 1) cs, List.map_append, firstF_append, if_neg (by rw [HQ.out]; exact hz), HQ.out]
            rw [HF.out, h1, if_neg hz])
          go_wp2
          go_ret
          exact ⟨by rw [HE.out, errV_pos hz]; rfl, below_next (below_next (below_next hB hX.below) HB.out) (below_regrown wr dq osq)⟩
      · obtain rfl : i = n := by omega
        have q2 := keep_cell HB.out k2
        have q3 := keep_cell HB.out k3
        have HE := hide (show ruleF ⟨k, cs, ⟨ak, ae⟩⟩ = actF ⟨ak, ae⟩ by
          have h1 : firstF (cs.map (condF k)) = 0 := by
            have := HG.out
            rwa [List.take_of_length_le (by rw [HN.out]; exact Nat.le_refl _)] at this
          rw [HF.out, if_pos h1])
        go_wp2_with (go_at_call 42; refine (checkAction_any ⟨ak, ae⟩ _).mono ?_; rintro e w2 ⟨rfl, hb2⟩)
        go_ret
        exact ⟨by rw [HE.out]; rfl, below_next (below_next (below_next hB hX.below) HB.out) hb2⟩
end Go.Proofs.YtklibmijiecbfaaGreat
